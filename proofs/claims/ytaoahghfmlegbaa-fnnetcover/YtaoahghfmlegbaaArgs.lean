/- What the walk is told of a list of prefixes that came in. -/
import Derived.Test.YtaoahghfmlegbaaToS
import Derived.Deep.SlicePairs
import Derived.OpenShut
import Derived.Carry
import Derived.ProofKit
namespace Go.Proofs.Ytaoahghfmlegbaa
open Go.ChangeShapes Go.WideShapes Go.ChangeAt Go.RowKit

theorem add_here (b off k : Nat) : (⟨b, off, none⟩ : Addr).add k = ⟨b, off + k, none⟩ := by
  unfold Addr.add
  by_cases h : k = 0
  · subst h; simp
  · simp [h]
end Go.Proofs.Ytaoahghfmlegbaa
