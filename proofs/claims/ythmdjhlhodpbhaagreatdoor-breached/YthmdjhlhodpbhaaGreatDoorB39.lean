/- Breached, part 39 -/
import Derived.Carry
import Derived.JoinedCond
import Derived.Test.YthmdjhlhodpbhaaGreatDoorRows
namespace Go.Proofs.YthmdjhlhodpbhaaGreatDoor
open Go.RowKit
theorem breached_closed : joinedFacts Tryz.prog 11 Tryz.f11 (OpenSpec.ofChange Rows.breachedSpec).bare Rows.breachedRow = true := by kernel_rfl
end Go.Proofs.YthmdjhlhodpbhaaGreatDoor
