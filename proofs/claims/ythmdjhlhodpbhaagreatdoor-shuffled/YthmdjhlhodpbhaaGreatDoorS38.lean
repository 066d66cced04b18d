/- Shuffled, 38 -/
import Derived.Carry
import Derived.JoinedCond
import Derived.Test.YthmdjhlhodpbhaaGreatDoorRows
set_option maxHeartbeats 16000000
set_option maxRecDepth 8000
namespace Go.Proofs.YthmdjhlhodpbhaaGreatDoor
open Go.RowKit
theorem shuffled_closed : joinedFacts Tryz.prog 8 Tryz.f8 (OpenSpec.ofChange Rows.shuffledSpec).bare Rows.shuffledRow = true := by kernel_rfl
end Go.Proofs.YthmdjhlhodpbhaaGreatDoor
