import Derived.Carry
import Derived.JoinedCond
import Derived.Test.YthmdjhlhodpbhaaGreatDoorRows
set_option maxHeartbeats 16000000
set_option maxRecDepth 8000
set_option linter.all false
namespace Go.Proofs.YthmdjhlhodpbhaaGreatDoor
open Go.RowKit
open _root_.Go.Proofs.Tryz
open _root_.Go.Proofs.Tryz renaming prog → ab
theorem Fg:joinedFacts ab 5 f5 (Rows.OpenSpec.upto Rows.allSpec).bare Rows.allUptoRow=true:=by kernel_rfl
end Go.Proofs.YthmdjhlhodpbhaaGreatDoor
