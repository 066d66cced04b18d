/- Apart, 44 -/
import Derived.Carry
import Derived.JoinedCond
import Derived.Test.YthmdjhlhodpbhaaGreatDoorRows
set_option maxHeartbeats 16000000
set_option maxRecDepth 8000
namespace Go.Proofs.YthmdjhlhodpbhaaGreatDoor
open Go.RowKit
theorem sL:joinedFacts Tryz.prog 7 Tryz.f7 (Rows.OpenSpec.upto Rows.apartSpec).bare Rows.apartUptoRow=true:=by kernel_rfl
end Go.Proofs.YthmdjhlhodpbhaaGreatDoor
