/- The law that holds NetBest against the model's, walked: it returns true. -/
import Derived.Test.YtaoahghfmlegbabToS
import Derived.Test.YtaoahghfmlegbabBest
namespace Go.Proofs.Ytaoahghfmlegbab
open Go.RowKit Go.Lib

set_option maxRecDepth 100000 in
set_option maxHeartbeats 1000000 in
theorem law_best (L : List (Int × Int)) (v : Value) (x : Int) (w : World) (hr : RdA w v L) (hn : (L.length : Int) ≤ 9223372036854775807) (hx : x ≤ 9223372036854775807) :
    Calls Try.prog 4 #[v, .int .i64 x] w fun e w' => e = .returned (.bool true) ∧ Below w.heap.size w w' := by
  obtain ⟨p, cap, rfl⟩ := hr.form
  have HX : Hid (x ≤ 9223372036854775807) := hx
  clear hx
  have hs := fun w => szs_any L.length p cap 1048576 w (by decide) (by decide) hn
  by_cases hlen : L.length ≤ 1048576
  · have hs2 : (1048576 : Int) - (L.length : Int) ≥ 0 := by omega
    simp only [if_neg (show ¬ (1048576 : Int) < (L.length : Int) by omega)] at hs
    have HB : Below w.heap.size w w := Below.refl _ _
    go_enter Try.func4, Try.ntmps4
    go_wp2_with (first
      | (go_at_call 14; refine (hs _).mono ?_; rintro e w1 ⟨rfl, rfl⟩)
      | (go_at_call 16; refine (tos_any L _ _ (hr.below HB) hlen).mono ?_; rintro e w1 ⟨rfl, hrow1, hb⟩; replace HB := below_then HB hb)
      | (go_at_call 15; refine (best_any L x _ _ hrow1.rd hlen).mono ?_; rintro e w2 ⟨rfl, hb⟩; replace HB := below_then HB hb; clear hrow1))
    go_wp2_with (first
      | (go_at_call 17; refine (ibest_any L x _ _ hrow1.rd HX.out hlen).mono ?_; rintro e w3 ⟨rfl, hb⟩; replace HB := below_then HB hb; have hrow2 := hrow1.below hb; clear hrow1))
    go_wp2_with (first
      | (go_at_call 16; refine (tos_any L _ _ (hr.below HB) hlen).mono ?_; rintro e w4 ⟨rfl, hrow3, hb⟩; replace HB := below_then HB hb; replace hrow2 := hrow2.below hb)
      | (go_at_call 18; refine (eqs_any L _ _ _ hrow2.rd hrow3.rd hlen).mono ?_; rintro e w5 ⟨rfl, hb⟩; replace HB := below_then HB hb))
    go_ret
    exact ⟨rfl, HB⟩
  · simp only [if_pos (show (1048576 : Int) < (L.length : Int) by omega)] at hs
    go_enter Try.func4, Try.ntmps4
    go_wp2_with (go_at_call 14; refine (hs _).mono ?_; rintro e w1 ⟨rfl, rfl⟩)
    go_ret
    exact ⟨rfl, Below.refl _ _⟩
end Go.Proofs.Ytaoahghfmlegbab
