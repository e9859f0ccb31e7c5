/- The contracts of the model's halves. -/
import Derived.Test.YtaoahghfmlegbabDoorL1b
import Derived.Deep.RegionHeld3
namespace Go.Proofs.YtaoahghfmlegbabDoor
open Go.RowKit Go.Lib

theorem wadd1 {l : Int} (l1 : 0 ≤ l) (l2 : l ≤ 15) : IntKind.i64.wrap (l + 1) = l + 1 := by rw [IntKind.wrap_i64]; omega

theorem waddz {a z : Int} (a1 : 0 ≤ a) (a2 : a ≤ 65535) (b1 : 1 ≤ z) (b2 : z ≤ 65536) : IntKind.i64.wrap (a + z) = a + z := by rw [IntKind.wrap_i64]; omega

/-- NetHalves of the model -/
def hasHalves (a l : Int) : Bool := okP a l && decide (l < 16)

end Go.Proofs.YtaoahghfmlegbabDoor
