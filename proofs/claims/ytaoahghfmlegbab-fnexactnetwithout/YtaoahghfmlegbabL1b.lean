/- The contracts of the model's layer 1, second part: has, within, halves; and of the laws' own small functions on prefixes. -/
import Derived.Test.YtaoahghfmlegbabL1
namespace Go.Proofs.Ytaoahghfmlegbab
open Go.RowKit Go.Lib

/-- what a prefix has -/
def hasP (a l x : Int) : Bool := decide (a ≤ x ∧ x < a + sz l)

set_option maxRecDepth 100000 in
set_option maxHeartbeats 1000000 in
theorem has_any (a l x : Int) (w : World) (l1 : 0 ≤ l) (l2 : l ≤ 16) (a1 : 0 ≤ a) (a2 : a ≤ 65535) :
    Calls Try.prog 60 #[.agg #[.int .i64 a, .int .i64 l], .int .i64 x] w fun e w' => e = .returned (.bool (hasP a l x)) ∧ Below w.heap.size w w' := by
  by_cases hx : a ≤ x
  · obtain ⟨z, hz⟩ : ∃ z, z = sz l := ⟨_, rfl⟩
    have hb := sz_bd l l1
    rw [← hz] at hb
    obtain ⟨b1, b2⟩ := hb
    have HO : Hid (hasP a l x = decide (x < a + z)) := by
      unfold Hid hasP; rw [hz]; simp [hx]
    have hs := fun w => size_any l w l1 (by omega)
    rw [← hz] at hs
    clear hz
    go_enter Try.func60, Try.ntmps60
    go_wp2_with fail
    go_quiet ((go_at_call 57; exact Calls.quiet_of_same (hs _)))
    go_wp2
    go_ret
    refine ⟨ret_bool ?_, below_drewN ((Below.refl _ _).alloc (Nat.le_refl _) _) _⟩
    rw [HO.out]
  · have hd : decide (a ≤ x) = false := by simpa using hx
    have HO : Hid (hasP a l x = false) := by
      unfold Hid hasP
      exact decide_eq_false (by omega)
    go_enter Try.func60, Try.ntmps60
    go_wp2_with fail
    go_quiet (fail)
    go_wp2
    go_ret
    exact ⟨ret_bool HO.out.symm, below_drewN ((Below.refl _ _).alloc (Nat.le_refl _) _) _⟩

set_option maxRecDepth 100000 in
set_option maxHeartbeats 400000 in
theorem to_any (a l : Int) (w : World) :
    Calls Try.prog 11 #[.agg #[.int .i64 a, .int .i64 l]] w fun e w' => e = .returned (.agg #[.int .i64 a, .int .i64 l]) ∧ Below w.heap.size w w' := by
  go_enter Try.func11, Try.ntmps11
  go_wp2
  refine bodyPost_ret (v := .agg #[.int .i64 a, .int .i64 l]) (by simp [results, Try.results11, go_sem]) rfl ⟨rfl, ?_⟩
  exact (((Below.refl _ _).more _).more _).more _

theorem okP_of {a l : Int} (h : okP a l = true) : 0 ≤ l ∧ l ≤ 16 ∧ 0 ≤ a ∧ a ≤ 65535 ∧ a % sz l = 0 := of_decide_eq_true h

/-- NetHas of the model -/
def netHas (a l x : Int) : Bool := okP a l && hasP a l x

set_option maxRecDepth 100000 in
set_option maxHeartbeats 400000 in
theorem nethas_any (a l x : Int) (w : World) :
    Calls Try.prog 40 #[.agg #[.int .i64 a, .int .i64 l], .int .i64 x] w fun e w' => e = .returned (.bool (netHas a l x)) ∧ Below w.heap.size w w' := by
  have b0 : Below w.heap.size w (w.alloc (.cells #[.int .i64 a, .int .i64 l] 24)) := (Below.refl _ _).alloc (Nat.le_refl _) _
  cases ho : okP a l with
  | true =>
    have hp := okP_of ho
    have HP : Hid (0 ≤ l ∧ l ≤ 16 ∧ 0 ≤ a ∧ a ≤ 65535 ∧ a % sz l = 0) := hp
    have HO : Hid (netHas a l x = hasP a l x) := by unfold Hid netHas; rw [ho]; rfl
    clear hp
    go_enter Try.func40, Try.ntmps40
    go_wp2_with (first
      | (go_at_call 36; refine (ok_any _ _ _).mono ?_; rintro e w1 ⟨rfl, hb⟩; obtain ⟨hc, hf⟩ := bcell hb)
      | (go_at_call 60; refine (has_any _ _ _ _ HP.out.1 HP.out.2.1 HP.out.2.2.1 HP.out.2.2.2.1).mono ?_; rintro e w2 ⟨rfl, hb2⟩))
    go_ret
    exact ⟨ret_bool HO.out.symm, below_then (below_then b0 hb) hb2⟩
  | false =>
    have HO : Hid (netHas a l x = false) := by unfold Hid netHas; rw [ho]; rfl
    go_enter Try.func40, Try.ntmps40
    go_wp2_with (go_at_call 36; refine (ok_any _ _ _).mono ?_; rintro e w1 ⟨rfl, hb⟩; obtain ⟨hc, hf⟩ := bcell hb)
    go_ret
    exact ⟨ret_bool HO.out.symm, below_then b0 hb⟩

/-- one prefix in another one, both ok -/
def withinP (a l b m : Int) : Bool := decide (m ≤ l) && hasP b m a

set_option maxRecDepth 100000 in
set_option maxHeartbeats 400000 in
theorem within_any (a l b m : Int) (w : World) (m1 : 0 ≤ m) (m2 : m ≤ 16) (b1 : 0 ≤ b) (b2 : b ≤ 65535) :
    Calls Try.prog 77 #[.agg #[.int .i64 a, .int .i64 l], .agg #[.int .i64 b, .int .i64 m]] w fun e w' => e = .returned (.bool (withinP a l b m)) ∧ Below w.heap.size w w' := by
  have b0 : Below w.heap.size w ((w.alloc (.cells #[.int .i64 a, .int .i64 l] 24)).alloc (.cells #[.int .i64 b, .int .i64 m] 24)) := ((Below.refl _ _).more _).more _
  by_cases h : m ≤ l
  · have HO : Hid (withinP a l b m = hasP b m a) := by unfold Hid withinP; rw [decide_eq_true h]; rfl
    go_enter Try.func77, Try.ntmps77
    go_wp2_with (go_at_call 60; refine (has_any _ _ _ _ m1 m2 b1 b2).mono ?_; rintro e w2 ⟨rfl, hb2⟩)
    go_ret
    exact ⟨ret_bool HO.out.symm, below_then b0 hb2⟩
  · have HO : Hid (withinP a l b m = false) := by unfold Hid withinP; rw [decide_eq_false h]; rfl
    have hd : decide (m ≤ l) = false := decide_eq_false h
    go_enter Try.func77, Try.ntmps77
    go_wp2_with fail
    go_ret
    exact ⟨ret_bool HO.out.symm, b0⟩

/-- NetIn of the model -/
def netIn (a l b m : Int) : Bool := okP a l && (okP b m && withinP a l b m)

set_option maxRecDepth 100000 in
set_option maxHeartbeats 400000 in
/-- the laws' own comparison of two prefixes -/
theorem eq_any (a l b m : Int) (w : World) :
    Calls Try.prog 13 #[.agg #[.int .i64 a, .int .i64 l], .agg #[.int .i64 b, .int .i64 m]] w fun e w' => e = .returned (.bool (decide (a = b ∧ l = m))) ∧ Below w.heap.size w w' := by
  have b0 : Below w.heap.size w ((w.alloc (.cells #[.int .i64 a, .int .i64 l] 24)).alloc (.cells #[.int .i64 b, .int .i64 m] 24)) := ((Below.refl _ _).more _).more _
  by_cases h1 : a = b
  · subst h1
    by_cases h2 : l = m
    · subst h2
      go_enter Try.func13, Try.ntmps13
      go_wp2
      go_ret
      exact ⟨ret_bool (by simp), b0⟩
    · have ht : (l != m) = true := by simpa using h2
      go_enter Try.func13, Try.ntmps13
      go_wp2
      go_ret
      exact ⟨ret_bool (by simp [h2]), b0⟩
  · have ht : (a != b) = true := by simpa using h1
    go_enter Try.func13, Try.ntmps13
    go_wp2
    go_ret
    exact ⟨ret_bool (by simp [h1]), b0⟩
end Go.Proofs.Ytaoahghfmlegbab
