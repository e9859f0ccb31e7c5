/- The contracts of the model's layer 1, second part: has, within, halves; and of the laws' own small functions on prefixes. -/
import Derived.Test.YtaoahghfmlegbaaL1
namespace Go.Proofs.Ytaoahghfmlegbaa
open Go.RowKit Go.Lib

/-- what a prefix has -/
def hasP (a l x : Int) : Bool := decide (a ≤ x ∧ x < a + sz l)

set_option maxRecDepth 100000 in
set_option maxHeartbeats 1000000 in
theorem has_any (a l x : Int) (w : World) (l1 : 0 ≤ l) (l2 : l ≤ 16) (a1 : 0 ≤ a) (a2 : a ≤ 65535) :
    Calls Try.prog 53 #[.agg #[.int .i64 a, .int .i64 l], .int .i64 x] w fun e w' => e = .returned (.bool (hasP a l x)) ∧ Below w.heap.size w w' := by
  by_cases hx : a ≤ x
  · obtain ⟨z, hz⟩ : ∃ z, z = sz l := ⟨_, rfl⟩
    have hb := sz_bd l l1
    rw [← hz] at hb
    obtain ⟨b1, b2⟩ := hb
    have HO : Hid (hasP a l x = decide (x < a + z)) := by
      unfold Hid hasP; rw [hz]; simp [hx]
    have hs := fun w => size_any l w l1 (by omega)
    rw [← hz] at hs
    clear hz
    go_enter Try.func53, Try.ntmps53
    go_wp2_with fail
    go_quiet ((go_at_call 49; exact Calls.quiet_of_same (hs _)))
    go_wp2
    go_ret
    refine ⟨ret_bool ?_, below_drewN ((Below.refl _ _).alloc (Nat.le_refl _) _) _⟩
    rw [HO.out]
  · have hd : decide (a ≤ x) = false := by simpa using hx
    have HO : Hid (hasP a l x = false) := by
      unfold Hid hasP
      exact decide_eq_false (by omega)
    go_enter Try.func53, Try.ntmps53
    go_wp2_with fail
    go_quiet (fail)
    go_wp2
    go_ret
    exact ⟨ret_bool HO.out.symm, below_drewN ((Below.refl _ _).alloc (Nat.le_refl _) _) _⟩

set_option maxRecDepth 100000 in
set_option maxHeartbeats 400000 in
theorem to_any (a l : Int) (w : World) :
    Calls Try.prog 35 #[.agg #[.int .i64 a, .int .i64 l]] w fun e w' => e = .returned (.agg #[.int .i64 a, .int .i64 l]) ∧ Below w.heap.size w w' := by
  go_enter Try.func35, Try.ntmps35
  go_wp2
  refine bodyPost_ret (v := .agg #[.int .i64 a, .int .i64 l]) (by simp [results, Try.results35, go_sem]) rfl ⟨rfl, ?_⟩
  exact (((Below.refl _ _).more _).more _).more _

theorem okP_of {a l : Int} (h : okP a l = true) : 0 ≤ l ∧ l ≤ 16 ∧ 0 ≤ a ∧ a ≤ 65535 ∧ a % sz l = 0 := of_decide_eq_true h

/-- NetHas of the model -/
def netHas (a l x : Int) : Bool := okP a l && hasP a l x

set_option maxRecDepth 100000 in
set_option maxHeartbeats 400000 in
theorem nethas_any (a l x : Int) (w : World) :
    Calls Try.prog 24 #[.agg #[.int .i64 a, .int .i64 l], .int .i64 x] w fun e w' => e = .returned (.bool (netHas a l x)) ∧ Below w.heap.size w w' := by
  have b0 : Below w.heap.size w (w.alloc (.cells #[.int .i64 a, .int .i64 l] 31)) := (Below.refl _ _).alloc (Nat.le_refl _) _
  cases ho : okP a l with
  | true =>
    have hp := okP_of ho
    have HP : Hid (0 ≤ l ∧ l ≤ 16 ∧ 0 ≤ a ∧ a ≤ 65535 ∧ a % sz l = 0) := hp
    have HO : Hid (netHas a l x = hasP a l x) := by unfold Hid netHas; rw [ho]; rfl
    clear hp
    go_enter Try.func24, Try.ntmps24
    go_wp2_with (first
      | (go_at_call 16; refine (ok_any _ _ _).mono ?_; rintro e w1 ⟨rfl, hb⟩; obtain ⟨hc, hf⟩ := bcell hb)
      | (go_at_call 53; refine (has_any _ _ _ _ HP.out.1 HP.out.2.1 HP.out.2.2.1 HP.out.2.2.2.1).mono ?_; rintro e w2 ⟨rfl, hb2⟩))
    go_ret
    exact ⟨ret_bool HO.out.symm, below_then (below_then b0 hb) hb2⟩
  | false =>
    have HO : Hid (netHas a l x = false) := by unfold Hid netHas; rw [ho]; rfl
    go_enter Try.func24, Try.ntmps24
    go_wp2_with (go_at_call 16; refine (ok_any _ _ _).mono ?_; rintro e w1 ⟨rfl, hb⟩; obtain ⟨hc, hf⟩ := bcell hb)
    go_ret
    exact ⟨ret_bool HO.out.symm, below_then b0 hb⟩

/-- one prefix in another one, both ok -/
def withinP (a l b m : Int) : Bool := decide (m ≤ l) && hasP b m a

set_option maxRecDepth 100000 in
set_option maxHeartbeats 400000 in
theorem within_any (a l b m : Int) (w : World) (m1 : 0 ≤ m) (m2 : m ≤ 16) (b1 : 0 ≤ b) (b2 : b ≤ 65535) :
    Calls Try.prog 66 #[.agg #[.int .i64 a, .int .i64 l], .agg #[.int .i64 b, .int .i64 m]] w fun e w' => e = .returned (.bool (withinP a l b m)) ∧ Below w.heap.size w w' := by
  have b0 : Below w.heap.size w ((w.alloc (.cells #[.int .i64 a, .int .i64 l] 31)).alloc (.cells #[.int .i64 b, .int .i64 m] 31)) := ((Below.refl _ _).more _).more _
  by_cases h : m ≤ l
  · have HO : Hid (withinP a l b m = hasP b m a) := by unfold Hid withinP; rw [decide_eq_true h]; rfl
    go_enter Try.func66, Try.ntmps66
    go_wp2_with (go_at_call 53; refine (has_any _ _ _ _ m1 m2 b1 b2).mono ?_; rintro e w2 ⟨rfl, hb2⟩)
    go_ret
    exact ⟨ret_bool HO.out.symm, below_then b0 hb2⟩
  · have HO : Hid (withinP a l b m = false) := by unfold Hid withinP; rw [decide_eq_false h]; rfl
    have hd : decide (m ≤ l) = false := decide_eq_false h
    go_enter Try.func66, Try.ntmps66
    go_wp2_with fail
    go_ret
    exact ⟨ret_bool HO.out.symm, b0⟩

/-- NetIn of the model -/
def netIn (a l b m : Int) : Bool := okP a l && (okP b m && withinP a l b m)

set_option maxRecDepth 100000 in
set_option maxHeartbeats 400000 in
theorem netin_any (a l b m : Int) (w : World) :
    Calls Try.prog 37 #[.agg #[.int .i64 a, .int .i64 l], .agg #[.int .i64 b, .int .i64 m]] w fun e w' => e = .returned (.bool (netIn a l b m)) ∧ Below w.heap.size w w' := by
  have b0 : Below w.heap.size w ((w.alloc (.cells #[.int .i64 a, .int .i64 l] 31)).alloc (.cells #[.int .i64 b, .int .i64 m] 31)) := ((Below.refl _ _).more _).more _
  cases ho : okP a l with
  | true =>
    cases hq : okP b m with
    | true =>
      have HP : Hid (0 ≤ m ∧ m ≤ 16 ∧ 0 ≤ b ∧ b ≤ 65535 ∧ b % sz m = 0) := okP_of hq
      have HO : Hid (netIn a l b m = withinP a l b m) := by unfold Hid netIn; rw [ho, hq]; rfl
      go_enter Try.func37, Try.ntmps37
      go_wp2_with (first
        | (go_at_call_of 16 l; refine (ok_any a l _).mono ?_; rintro e w1 ⟨rfl, hb⟩; obtain ⟨hc, hf⟩ := bcell hb; have hz1 : w.heap.size + 1 < w1.heap.size := size2 hb; have hz0 : w.heap.size < w1.heap.size := Nat.lt_of_succ_lt hz1)
        | (go_at_call_of 16 m; refine (ok_any b m _).mono ?_; rintro e w2 ⟨rfl, hb2⟩; obtain ⟨hc2, hf2⟩ := bcell hb2)
        | (go_at_call 66; refine (within_any _ _ _ _ _ HP.out.1 HP.out.2.1 HP.out.2.2.1 HP.out.2.2.2.1).mono ?_; rintro e w3 ⟨rfl, hb3⟩))
      go_ret
      exact ⟨ret_bool HO.out.symm, below_then (below_then (below_then b0 hb) hb2) hb3⟩
    | false =>
      have HO : Hid (netIn a l b m = false) := by unfold Hid netIn; rw [ho, hq]; rfl
      go_enter Try.func37, Try.ntmps37
      go_wp2_with (first
        | (go_at_call_of 16 l; refine (ok_any a l _).mono ?_; rintro e w1 ⟨rfl, hb⟩; obtain ⟨hc, hf⟩ := bcell hb; have hz1 : w.heap.size + 1 < w1.heap.size := size2 hb; have hz0 : w.heap.size < w1.heap.size := Nat.lt_of_succ_lt hz1)
        | (go_at_call_of 16 m; refine (ok_any b m _).mono ?_; rintro e w2 ⟨rfl, hb2⟩))
      go_ret
      exact ⟨ret_bool HO.out.symm, below_then (below_then b0 hb) hb2⟩
  | false =>
    have HO : Hid (netIn a l b m = false) := by unfold Hid netIn; rw [ho]; rfl
    go_enter Try.func37, Try.ntmps37
    go_wp2_with (go_at_call 16; refine (ok_any _ _ _).mono ?_; rintro e w1 ⟨rfl, hb⟩)
    go_ret
    exact ⟨ret_bool HO.out.symm, below_then b0 hb⟩

end Go.Proofs.Ytaoahghfmlegbaa
