/- Tokens, 38 -/
import Derived.Carry
import Derived.JoinedCond
import Derived.Test.YthmdjhlhodpbhaaGreatDoorRows
set_option maxHeartbeats 16000000
set_option maxRecDepth 8000
namespace Go.Proofs.YthmdjhlhodpbhaaGreatDoor
open Go.RowKit
theorem tokens_closed : joinedFacts Tryz.prog 10 Tryz.f10 (OpenSpec.ofChange Rows.tokensSpec).bare Rows.tokensRow = true := by kernel_rfl
end Go.Proofs.YthmdjhlhodpbhaaGreatDoor
