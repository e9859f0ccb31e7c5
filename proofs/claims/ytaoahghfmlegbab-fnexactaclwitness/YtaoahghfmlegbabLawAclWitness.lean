/- The law that holds AclWitness against the model's, walked: it returns true. -/
import Derived.Test.YtaoahghfmlegbabToR2
import Derived.Test.YtaoahghfmlegbabSp6
namespace Go.Proofs.Ytaoahghfmlegbab
open Go.RowKit Go.Lib

set_option maxRecDepth 100000 in
set_option maxHeartbeats 1600000 in
theorem law_aclwit (L : List Ru) (v : Value) (a : Int) (w : World) (hr : RdAR w v L) (hn : (L.length : Int) ≤ 9223372036854775807) (_ha : a ≤ 9223372036854775807) :
    Calls Try.prog 9 #[v, .int .i64 a] w fun e w' => e = .returned (.bool true) ∧ Below w.heap.size w w' := by
  obtain ⟨p, cap, rfl⟩ := hr.form
  have hs := fun w => szr_any L.length p cap 1048576 w (by decide) (by decide) hn
  have HB : Below w.heap.size w w := Below.refl _ _
  have T1 : Hid True := trivial
  have T2 : Hid True := trivial
  by_cases hlen : L.length ≤ 1048576
  · have hs2 : (1048576 : Int) - (L.length : Int) ≥ 0 := by omega
    simp only [if_neg (show ¬ (1048576 : Int) < (L.length : Int) by omega)] at hs
    go_enter Try.func9, Try.ntmps9
    go_wp2_with (first | (go_at_call 25; refine (hs _).mono ?_; rintro e w1 ⟨rfl, rfl⟩) | (go_at_call 27; clear T1; refine (tors_any L _ _ (hr.below HB) hlen).mono ?_; rintro e w1 ⟨rfl, hrow1, hb1⟩; replace HB := below_then HB hb1) | (go_at_call 33; refine (aclwit_any _ _ L a _ hrow1.rd hlen).mono ?_; rintro e w2 ⟨r, rfl, hw1, hb2⟩; replace HB := below_then HB hb2; clear hrow1))
    have hbx := box3n w2 (r.getD (0, 0, 0)).1 (r.getD (0, 0, 0)).2.1 (r.getD (0, 0, 0)).2.2 52
    replace HB := HB.more (.cells #[.int .i64 (r.getD (0, 0, 0)).1, .int .i64 (r.getD (0, 0, 0)).2.1, .int .i64 (r.getD (0, 0, 0)).2.2] 52)
    have hl2 : w2.heap.size < (w2.alloc (.cells #[.int .i64 (r.getD (0, 0, 0)).1, .int .i64 (r.getD (0, 0, 0)).2.1, .int .i64 (r.getD (0, 0, 0)).2.2] 52)).heap.size := by simp
    go_wp2_with (first | (go_at_call 27; clear T2; generalize w2.alloc (.cells #[.int .i64 (r.getD (0, 0, 0)).1, .int .i64 (r.getD (0, 0, 0)).2.1, .int .i64 (r.getD (0, 0, 0)).2.2] 52) = V2 at *; refine (tors_any L _ _ (hr.below HB) hlen).mono ?_; rintro e w3 ⟨rfl, hrow3, hb3⟩; replace HB := below_then HB hb3) | (go_at_call 34; refine (iaclwit_any _ _ L a _ hrow3.rd hlen).mono ?_; rintro e w4 ⟨r2, rfl, hw2, hb4⟩; obtain rfl := hw1.uniq hw2; have b4 := below_then hb3 hb4; have y0 := (b4.cell (p := ⟨w2.heap.size, 0, none⟩) hl2).trans hbx.1; have y1 := (b4.cell (p := ⟨w2.heap.size, 1, none⟩) hl2).trans hbx.2.1; have y2 := (b4.cell (p := ⟨w2.heap.size, 2, none⟩) hl2).trans hbx.2.2; replace HB := below_then HB hb4; have hrow4 := hrow3.below hb4; have hl4 := Nat.lt_of_lt_of_le hl2 b4.size; clear hw1 hw2 hrow3))
    have hbb : (r.isSome != r.isSome) = false := by simp
    go_wp2_with (first | (go_at_call 35; refine (eqpk_any _ _ _ _).mono ?_; rintro e w5 ⟨rfl, hb5⟩; replace HB := below_then (HB.more _) hb5; have hrow5 := (hrow4.below ((Below.refl _ _).more _)).below hb5; clear hrow4) | (go_at_call 27; refine (tors_any L _ _ (hr.below HB) hlen).mono ?_; rintro e w7 ⟨rfl, hrow7, hb7⟩; replace HB := below_then HB hb7; replace hrow5 := hrow5.below hb7) | (go_at_call 29; refine (eqrs_any L _ _ _ hrow5.rd hrow7.rd hlen).mono ?_; rintro e w8 ⟨rfl, hb8⟩; replace HB := below_then HB hb8))
    go_ret
    exact ⟨rfl, HB⟩
  · simp only [if_pos (show (1048576 : Int) < (L.length : Int) by omega)] at hs
    go_enter Try.func9, Try.ntmps9
    go_wp2_with (go_at_call 25; refine (hs _).mono ?_; rintro e w1 ⟨rfl, rfl⟩)
    go_ret
    exact ⟨rfl, HB⟩
end Go.Proofs.Ytaoahghfmlegbab
