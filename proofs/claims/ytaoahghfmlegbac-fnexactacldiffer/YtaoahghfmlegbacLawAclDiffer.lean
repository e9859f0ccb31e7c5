/- The law that holds AclDiffer against the model's, walked: it returns true. -/
import Derived.Test.YtaoahghfmlegbacToR2
import Derived.Test.YtaoahghfmlegbacEd12
namespace Go.Proofs.Ytaoahghfmlegbac
open Go.RowKit Go.Lib

set_option maxRecDepth 100000 in
set_option maxHeartbeats 1600000 in
theorem law_acldif (A : List Ru) (u : Value) (B : List Ru) (v : Value) (w : World) (hA : RdAR w u A) (nA : (A.length : Int) ≤ 9223372036854775807) (hB : RdAR w v B) (nB : (B.length : Int) ≤ 9223372036854775807) :
    Calls Try.prog 3 #[u, v] w fun e w' => e = .returned (.bool true) ∧ Below w.heap.size w w' := by
  obtain ⟨pA, cA, rfl⟩ := hA.form
  obtain ⟨pB, cB, rfl⟩ := hB.form
  have sA := fun w => szr_any A.length pA cA 1048576 w (by decide) (by decide) nA
  have HB : Below w.heap.size w w := Below.refl _ _
  have T1 : Hid True := trivial
  have T2 : Hid True := trivial
  have T3 : Hid True := trivial
  have T4 : Hid True := trivial
  have T5 : Hid True := trivial
  have T6 : Hid True := trivial
  have S1 : Hid True := trivial
  by_cases lA : A.length ≤ 1048576
  · have hs2 : (1048576 : Int) - (A.length : Int) ≥ 0 := by omega
    simp only [if_neg (show ¬ (1048576 : Int) < (A.length : Int) by omega)] at sA
    have sB := fun w => szr_any B.length pB cB (1048576 - (A.length : Int)) w (by omega) (by omega) nB
    by_cases lB : (B.length : Int) ≤ 1048576 - A.length
    · have hs3 : (1048576 : Int) - (A.length : Int) - (B.length : Int) ≥ 0 := by omega
      simp only [if_neg (show ¬ (1048576 : Int) - (A.length : Int) < (B.length : Int) by omega)] at sB
      have lB2 : B.length ≤ 1048576 := by omega
      go_enter Try.func3, Try.ntmps3
      go_wp2_with (first | (go_at_call 4; clear S1; refine (sA _).mono ?_; rintro e w1 ⟨rfl, rfl⟩) | (go_at_call 4; refine (sB _).mono ?_; rintro e w1 ⟨rfl, rfl⟩) | (go_at_call 6; clear T1; refine (tors_any A _ _ (hA.below HB) lA).mono ?_; rintro e w1 ⟨rfl, rA, hb1⟩; replace HB := below_then HB hb1) | (go_at_call 6; clear T2; refine (tors_any B _ _ (hB.below HB) lB2).mono ?_; rintro e w2 ⟨rfl, rB, hb2⟩; replace HB := below_then HB hb2; replace rA := rA.below hb2) | (go_at_call 5; refine (acldif_any _ _ _ _ A B _ rA.rd rB.rd lA lB2).mono ?_; rintro e w3 ⟨r, rfl, hw1, hb3⟩; replace HB := below_then HB hb3; clear rA rB))
      have hbx := box3n w3 (r.getD (0, 0, 0)).1 (r.getD (0, 0, 0)).2.1 (r.getD (0, 0, 0)).2.2 25
      replace HB := HB.more (.cells #[.int .i64 (r.getD (0, 0, 0)).1, .int .i64 (r.getD (0, 0, 0)).2.1, .int .i64 (r.getD (0, 0, 0)).2.2] 25)
      have hl2 : w3.heap.size < (w3.alloc (.cells #[.int .i64 (r.getD (0, 0, 0)).1, .int .i64 (r.getD (0, 0, 0)).2.1, .int .i64 (r.getD (0, 0, 0)).2.2] 25)).heap.size := by simp
      go_wp2_with (first | (go_at_call 6; clear T3; generalize w3.alloc (.cells #[.int .i64 (r.getD (0, 0, 0)).1, .int .i64 (r.getD (0, 0, 0)).2.1, .int .i64 (r.getD (0, 0, 0)).2.2] 25) = V2 at *; refine (tors_any A _ _ (hA.below HB) lA).mono ?_; rintro e w4 ⟨rfl, rA, hb4⟩; replace HB := below_then HB hb4) | (go_at_call 6; clear T4; refine (tors_any B _ _ (hB.below HB) lB2).mono ?_; rintro e w5 ⟨rfl, rB, hb5⟩; replace HB := below_then HB hb5; replace rA := rA.below hb5; have b5 := below_then hb4 hb5) | (go_at_call 7; refine (iacldif_any A B _ _ _ rA.rd rB.rd lA lB2).mono ?_; rintro e w6 ⟨r2, rfl, hw2, hb6⟩; obtain rfl := hw1.uniq hw2; have b6 := below_then b5 hb6; have y0 := (b6.cell (p := ⟨w3.heap.size, 0, none⟩) hl2).trans hbx.1; have y1 := (b6.cell (p := ⟨w3.heap.size, 1, none⟩) hl2).trans hbx.2.1; have y2 := (b6.cell (p := ⟨w3.heap.size, 2, none⟩) hl2).trans hbx.2.2; replace HB := below_then HB hb6; replace rA := rA.below hb6; replace rB := rB.below hb6; have hl4 := Nat.lt_of_lt_of_le hl2 b6.size; clear hw1 hw2))
      have hbb : (r.isSome != r.isSome) = false := by simp
      go_wp2_with (first | (go_at_call 8; refine (eqpk_any _ _ _ _).mono ?_; rintro e w7 ⟨rfl, hb7⟩; replace HB := below_then (HB.more _) hb7; replace rA := (rA.below ((Below.refl _ _).more _)).below hb7; replace rB := (rB.below ((Below.refl _ _).more _)).below hb7) | (go_at_call 6; clear T5; refine (tors_any A _ _ (hA.below HB) lA).mono ?_; rintro e w8 ⟨rfl, qA, hb8⟩; replace HB := below_then HB hb8; replace rA := rA.below hb8; replace rB := rB.below hb8) | (go_at_call 9; have hg0 := qA; clear hg0; refine (eqrs_any A _ _ _ rA.rd qA.rd lA).mono ?_; rintro e w9 ⟨rfl, hb9⟩; replace HB := below_then HB hb9; replace rB := rB.below hb9; clear rA qA) | (go_at_call 6; clear T6; refine (tors_any B _ _ (hB.below HB) lB2).mono ?_; rintro e w10 ⟨rfl, qB, hb10⟩; replace HB := below_then HB hb10; replace rB := rB.below hb10) | (go_at_call 9; refine (eqrs_any B _ _ _ rB.rd qB.rd lB2).mono ?_; rintro e w11 ⟨rfl, hb11⟩; replace HB := below_then HB hb11))
      go_ret
      exact ⟨rfl, HB⟩
    · simp only [if_pos (show (1048576 : Int) - (A.length : Int) < (B.length : Int) by omega)] at sB
      go_enter Try.func3, Try.ntmps3
      go_wp2_with (first | (go_at_call 4; clear S1; refine (sA _).mono ?_; rintro e w1 ⟨rfl, rfl⟩) | (go_at_call 4; refine (sB _).mono ?_; rintro e w1 ⟨rfl, rfl⟩))
      go_ret
      exact ⟨rfl, HB⟩
  · simp only [if_pos (show (1048576 : Int) < (A.length : Int) by omega)] at sA
    go_enter Try.func3, Try.ntmps3
    go_wp2_with (go_at_call 4; refine (sA _).mono ?_; rintro e w1 ⟨rfl, rfl⟩)
    go_ret
    exact ⟨rfl, HB⟩
end Go.Proofs.Ytaoahghfmlegbac
