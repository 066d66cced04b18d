/- InOrder, 43 -/
import Derived.Carry
import Derived.JoinedCond
import Derived.Test.YthmdjhlhodpbhaaGreatDoorRows
set_option maxHeartbeats 16000000
set_option maxRecDepth 8000
namespace Go.Proofs.YthmdjhlhodpbhaaGreatDoor
open Go.RowKit
theorem inorder_closed:joinedFacts Tryz.prog 6 Tryz.f6 (Rows.OpenSpec.upto Rows.inOrderSpec).bare Rows.inOrderUptoRow=true:=by kernel_rfl
end Go.Proofs.YthmdjhlhodpbhaaGreatDoor
