/- Bounded, 37 -/
import Derived.Carry
import Derived.JoinedCond
import Derived.Test.YthmdjhlhodpbhaaGreatDoorRows
set_option maxHeartbeats 16000000
set_option maxRecDepth 8000
namespace Go.Proofs.YthmdjhlhodpbhaaGreatDoor
open Go.RowKit
theorem bounded_closed:joinedFacts Tryz.prog 9 Tryz.f9 (Rows.OpenSpec.upto Rows.boundedSpec).bare Rows.boundedUptoRow=true:=by kernel_rfl
end Go.Proofs.YthmdjhlhodpbhaaGreatDoor
