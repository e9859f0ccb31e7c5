/- The model's NetWithout and NetCover. -/
import Derived.Test.YtaoahghfmlegbaaPart
namespace Go.Proofs.Ytaoahghfmlegbaa
open Go.RowKit Go.Lib

/-- what both NetWithout answer -/
def fewOf (L O : List (Int × Int)) : List (Int × Int) := if okSet L = true ∧ okSet O = true then few (setOf L O) 16 0 else []
theorem few_yes {L O : List (Int × Int)} (h : okSet L = true) (k : okSet O = true) : fewOf L O = few (setOf L O) 16 0 := if_pos ⟨h, k⟩
theorem few_noL {L O : List (Int × Int)} (h : okSet L = false) : fewOf L O = [] := if_neg (fun k => by rw [h] at k; cases k.1)
theorem few_noO {L O : List (Int × Int)} (h : okSet O = false) : fewOf L O = [] := if_neg (fun k => by rw [h] at k; cases k.2)
theorem fewOf_small (L O : List (Int × Int)) : (fewOf L O).length ≤ 65536 := by
  unfold fewOf; split
  · exact few_len _ 16 0
  · simp
theorem ok_root : okP 0 0 = true := by decide

set_option maxRecDepth 100000 in
set_option maxHeartbeats 1000000 in
theorem without_any (L O : List (Int × Int)) (vL vO : Value) (w : World) (rL : Rd w vL L) (rO : Rd w vO O) :
    Calls Try.prog 14 #[vL, vO] w fun e w' => ∃ g cap, e = .returned (.slice (some ⟨g, 0, none⟩) (fewOf L O).length cap) ∧ RowS w' w.heap.size g cap (fewOf L O) ∧ Below w.heap.size w w' := by
  obtain ⟨pL, cL, rfl⟩ := rL.form
  obtain ⟨pO, cO, rfl⟩ := rO.form
  have sL : ∀ w', Below w.heap.size w w' → Calls Try.prog 46 #[.slice pL L.length cL] w' fun e w'' => e = .returned (.bool (okSet L)) ∧ Below w'.heap.size w' w'' := fun w' h => l3ok_any L _ w' (rL.below h)
  have sO : ∀ w', Below w.heap.size w w' → Calls Try.prog 46 #[.slice pO O.length cO] w' fun e w'' => e = .returned (.bool (okSet O)) ∧ Below w'.heap.size w' w'' := fun w' h => l3ok_any O _ w' (rO.below h)
  have HB := Below.refl w.heap.size w
  cases hL : okSet L with
  | false =>
    rw [few_noL hL]
    simp only [hL] at sL
    go_enter Try.func14, Try.ntmps14
    go_wp2_with (go_at_call_of 46 cL; refine (sL _ HB).mono ?_; rintro e w1 ⟨rfl, hb⟩; replace HB := below_then HB hb; clear sL)
    go_ret
    exact ⟨_, _, rfl, rows_none HB.size, HB.more _⟩
  | true =>
    simp only [hL] at sL
    cases hO : okSet O with
    | false =>
      rw [few_noO hO]
      simp only [hO] at sO
      go_enter Try.func14, Try.ntmps14
      go_wp2_with (first
        | (go_at_call_of 46 cL; refine (sL _ HB).mono ?_; rintro e w1 ⟨rfl, hb⟩; replace HB := below_then HB hb; clear sL)
        | (go_at_call_of 46 cO; refine (sO _ HB).mono ?_; rintro e w2 ⟨rfl, hb⟩; replace HB := below_then HB hb; clear sO))
      go_ret
      exact ⟨_, _, rfl, rows_none HB.size, HB.more _⟩
    | true =>
      rw [few_yes hL hO]
      simp only [hO] at sO
      obtain ⟨nL, oL⟩ := okSet_of hL
      obtain ⟨nO, oO⟩ := okSet_of hO
      have hp : ∀ w', Below w.heap.size w w' → Calls Try.prog 47 #[.agg #[.int .i64 0, .int .i64 0], .slice pL L.length cL, .slice pO O.length cO] w' fun e w'' => ∃ g cap, e = .returned (.slice (some ⟨g, 0, none⟩) (few (setOf L O) 16 0).length cap) ∧ RowS w'' w'.heap.size g cap (few (setOf L O) 16 0) ∧ Below w'.heap.size w' w'' :=
        fun w' h => part_any L O oL oO nL nO 16 0 0 _ _ w' ok_root (by decide) (rL.below h) (rO.below h)
      clear nL oL nO oO
      go_enter Try.func14, Try.ntmps14
      go_wp2_with (first
        | (go_at_call_of 46 cL; refine (sL _ HB).mono ?_; rintro e w1 ⟨rfl, hb⟩; replace HB := below_then HB hb; clear sL)
        | (go_at_call_of 46 cO; refine (sO _ HB).mono ?_; rintro e w2 ⟨rfl, hb⟩; replace HB := below_then HB hb; clear sO)
        | (go_at_call 47; refine (hp _ HB).mono ?_; rintro e w3 ⟨g, cap, rfl, hrow, hb⟩; clear hp))
      go_ret
      exact ⟨_, _, rfl, Row.mono hrow HB.size, below_then HB hb⟩

set_option maxRecDepth 100000 in
set_option maxHeartbeats 1000000 in
theorem cover_any (L : List (Int × Int)) (vL : Value) (w : World) (rL : Rd w vL L) :
    Calls Try.prog 20 #[vL] w fun e w' => ∃ g cap, e = .returned (.slice (some ⟨g, 0, none⟩) (fewOf L []).length cap) ∧ RowS w' w.heap.size g cap (fewOf L []) ∧ Below w.heap.size w w' := by
  obtain ⟨pL, cL, rfl⟩ := rL.form
  have sL : ∀ w', Below w.heap.size w w' → Calls Try.prog 46 #[.slice pL L.length cL] w' fun e w'' => e = .returned (.bool (okSet L)) ∧ Below w'.heap.size w' w'' := fun w' h => l3ok_any L _ w' (rL.below h)
  have HB := Below.refl w.heap.size w
  cases hL : okSet L with
  | false =>
    rw [few_noL hL]
    simp only [hL] at sL
    go_enter Try.func20, Try.ntmps20
    go_wp2_with (go_at_call_of 46 cL; refine (sL _ HB).mono ?_; rintro e w1 ⟨rfl, hb⟩; replace HB := below_then HB hb; clear sL)
    go_ret
    exact ⟨_, _, rfl, rows_none HB.size, HB.more _⟩
  | true =>
    simp only [hL] at sL
    rw [few_yes hL (by decide)]
    obtain ⟨nL, oL⟩ := okSet_of hL
    have hp : ∀ w', Below w.heap.size w w' → Calls Try.prog 47 #[.agg #[.int .i64 0, .int .i64 0], .slice pL L.length cL, .slice (some ⟨w'.heap.size, 0, none⟩) 0 0] (w'.alloc (.cells #[] 31)) fun e w'' => ∃ g cap, e = .returned (.slice (some ⟨g, 0, none⟩) (few (setOf L []) 16 0).length cap) ∧ RowS w'' (w'.alloc (.cells #[] 31)).heap.size g cap (few (setOf L []) 16 0) ∧ Below (w'.alloc (.cells #[] 31)).heap.size (w'.alloc (.cells #[] 31)) w'' :=
      fun w' h => part_any L [] oL rfl nL (by decide) 16 0 0 _ _ _ ok_root (by decide) ((rL.below h).alloc _) (Row.rd (rows_none (b := 0) (Nat.zero_le _)))
    clear nL oL
    go_enter Try.func20, Try.ntmps20
    go_wp2_with (first
      | (go_at_call_of 46 cL; refine (sL _ HB).mono ?_; rintro e w1 ⟨rfl, hb⟩; replace HB := below_then HB hb; clear sL)
      | (go_at_call 47; refine (hp _ HB).mono ?_; rintro e w3 ⟨g, cap, rfl, hrow, hb⟩; clear hp))
    go_ret
    exact ⟨_, _, rfl, Row.mono hrow (HB.more _).size, below_then (HB.more _) hb⟩
end Go.Proofs.Ytaoahghfmlegbaa
