/- The contracts of the model's halves. -/
import Derived.Test.YtaoahghfmlegbaaL1b
import Derived.Deep.RegionHeld3
namespace Go.Proofs.Ytaoahghfmlegbaa
open Go.RowKit Go.Lib

theorem wadd1 {l : Int} (l1 : 0 ≤ l) (l2 : l ≤ 15) : IntKind.i64.wrap (l + 1) = l + 1 := by rw [IntKind.wrap_i64]; omega

theorem waddz {a z : Int} (a1 : 0 ≤ a) (a2 : a ≤ 65535) (b1 : 1 ≤ z) (b2 : z ≤ 65536) : IntKind.i64.wrap (a + z) = a + z := by rw [IntKind.wrap_i64]; omega

set_option maxRecDepth 100000 in
set_option maxHeartbeats 400000 in
theorem halves_any (a l : Int) (w : World) (l1 : 0 ≤ l) (l2 : l ≤ 15) (a1 : 0 ≤ a) (a2 : a ≤ 65535) :
    Calls Try.prog 42 #[.agg #[.int .i64 a, .int .i64 l]] w fun e w' => e = .returned (.tuple #[.agg #[.int .i64 a, .int .i64 (l + 1)], .agg #[.int .i64 (a + sz (l + 1)), .int .i64 (l + 1)]]) ∧ Below w.heap.size w w' := by
  obtain ⟨z, hz⟩ : ∃ z, z = sz (l + 1) := ⟨_, rfl⟩
  have hb := sz_bd (l + 1) (by omega)
  rw [← hz] at hb ⊢
  obtain ⟨b1, b2⟩ := hb
  have hs : ∀ (m : Int) (w : World), m = l + 1 → Calls Try.prog 49 #[.int .i64 m] w fun e w' => e = .returned (.int .i64 z) ∧ w' = w := by
    intro m w hm
    rw [hz, hm]
    exact size_any (l + 1) w (by omega) (by omega)
  clear hz
  go_enter Try.func42, Try.ntmps42
  go_wp2_with fail
  go_region_held3 (fun w' => w'.cell? ⟨w.heap.size, 0, none⟩ = some (.int .i64 a) ∧ w'.cell? ⟨w.heap.size, 1, none⟩ = some (.int .i64 l)) (go_keep) (first | (go_at_call 49; refine (hs _ _ (wadd1 l1 l2)).mono ?_; rintro e w' ⟨rfl, rfl⟩))
  go_wp2
  refine bodyPost_ret (v := .tuple #[.agg #[.int .i64 a, .int .i64 (l + 1)], .agg #[.int .i64 (a + z), .int .i64 (l + 1)]]) (by simp [results, Try.results42, go_sem, wadd1 l1 l2, waddz a1 a2 b1 b2]) rfl ⟨rfl, ?_⟩
  exact below_drewN ((((Below.refl _ _).more _).more _).more _) _

/-- NetHalves of the model -/
def hasHalves (a l : Int) : Bool := okP a l && decide (l < 16)

end Go.Proofs.Ytaoahghfmlegbaa
