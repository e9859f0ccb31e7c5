/- The contracts of the model's layer 1, second part: has, within, halves; and of the laws' own small functions on prefixes. -/
import Derived.Test.YtaoahghfmlegbacL1
namespace Go.Proofs.Ytaoahghfmlegbac
open Go.RowKit Go.Lib

/-- what a prefix has -/
def hasP (a l x : Int) : Bool := decide (a ≤ x ∧ x < a + sz l)

set_option maxRecDepth 100000 in
set_option maxHeartbeats 1000000 in
theorem has_any (a l x : Int) (w : World) (l1 : 0 ≤ l) (l2 : l ≤ 16) (a1 : 0 ≤ a) (a2 : a ≤ 65535) :
    Calls Try.prog 52 #[.agg #[.int .i64 a, .int .i64 l], .int .i64 x] w fun e w' => e = .returned (.bool (hasP a l x)) ∧ Below w.heap.size w w' := by
  by_cases hx : a ≤ x
  · obtain ⟨z, hz⟩ : ∃ z, z = sz l := ⟨_, rfl⟩
    have hb := sz_bd l l1
    rw [← hz] at hb
    obtain ⟨b1, b2⟩ := hb
    have HO : Hid (hasP a l x = decide (x < a + z)) := by
      unfold Hid hasP; rw [hz]; simp [hx]
    have hs := fun w => size_any l w l1 (by omega)
    rw [← hz] at hs
    clear hz
    go_enter Try.func52, Try.ntmps52
    go_wp2_with fail
    go_quiet ((go_at_call 34; exact Calls.quiet_of_same (hs _)))
    go_wp2
    go_ret
    refine ⟨ret_bool ?_, below_drewN ((Below.refl _ _).alloc (Nat.le_refl _) _) _⟩
    rw [HO.out]
  · have hd : decide (a ≤ x) = false := by simpa using hx
    have HO : Hid (hasP a l x = false) := by
      unfold Hid hasP
      exact decide_eq_false (by omega)
    go_enter Try.func52, Try.ntmps52
    go_wp2_with fail
    go_quiet (fail)
    go_wp2
    go_ret
    exact ⟨ret_bool HO.out.symm, below_drewN ((Below.refl _ _).alloc (Nat.le_refl _) _) _⟩

set_option maxRecDepth 100000 in
set_option maxHeartbeats 400000 in
theorem to_any (a l : Int) (w : World) :
    Calls Try.prog 25 #[.agg #[.int .i64 a, .int .i64 l]] w fun e w' => e = .returned (.agg #[.int .i64 a, .int .i64 l]) ∧ Below w.heap.size w w' := by
  go_enter Try.func25, Try.ntmps25
  go_wp2
  refine bodyPost_ret (v := .agg #[.int .i64 a, .int .i64 l]) (by simp [results, Try.results25, go_sem]) rfl ⟨rfl, ?_⟩
  exact (((Below.refl _ _).more _).more _).more _

theorem okP_of {a l : Int} (h : okP a l = true) : 0 ≤ l ∧ l ≤ 16 ∧ 0 ≤ a ∧ a ≤ 65535 ∧ a % sz l = 0 := of_decide_eq_true h

/-- NetHas of the model -/
def netHas (a l x : Int) : Bool := okP a l && hasP a l x

/-- one prefix in another one, both ok -/
def withinP (a l b m : Int) : Bool := decide (m ≤ l) && hasP b m a

/-- NetIn of the model -/
def netIn (a l b m : Int) : Bool := okP a l && (okP b m && withinP a l b m)

set_option maxRecDepth 100000 in
set_option maxHeartbeats 400000 in
/-- the laws' own comparison of two prefixes -/
theorem eq_any (a l b m : Int) (w : World) :
    Calls Try.prog 33 #[.agg #[.int .i64 a, .int .i64 l], .agg #[.int .i64 b, .int .i64 m]] w fun e w' => e = .returned (.bool (decide (a = b ∧ l = m))) ∧ Below w.heap.size w w' := by
  have b0 : Below w.heap.size w ((w.alloc (.cells #[.int .i64 a, .int .i64 l] 36)).alloc (.cells #[.int .i64 b, .int .i64 m] 36)) := ((Below.refl _ _).more _).more _
  by_cases h1 : a = b
  · subst h1
    by_cases h2 : l = m
    · subst h2
      go_enter Try.func33, Try.ntmps33
      go_wp2
      go_ret
      exact ⟨ret_bool (by simp), b0⟩
    · have ht : (l != m) = true := by simpa using h2
      go_enter Try.func33, Try.ntmps33
      go_wp2
      go_ret
      exact ⟨ret_bool (by simp [h2]), b0⟩
  · have ht : (a != b) = true := by simpa using h1
    go_enter Try.func33, Try.ntmps33
    go_wp2
    go_ret
    exact ⟨ret_bool (by simp [h1]), b0⟩
end Go.Proofs.Ytaoahghfmlegbac
