/- Comes, part 18 -/
import Derived.Carry
import Derived.JoinedCond
import Derived.Test.YthmdjhlhodpbhaaGreatDoorRows
set_option maxHeartbeats 16000000
set_option maxRecDepth 8000
namespace Go.Proofs.YthmdjhlhodpbhaaGreatDoor
open Go.RowKit
open _root_.Go.Proofs.Tryz
open _root_.Go.Proofs.Tryz renaming prog → ae
theorem Gh:joinedFacts ae 4 f4 (Rows.OpenSpec.upto Rows.comesSpec).bare Rows.comesUptoRow=true:=by kernel_rfl
end Go.Proofs.YthmdjhlhodpbhaaGreatDoor
