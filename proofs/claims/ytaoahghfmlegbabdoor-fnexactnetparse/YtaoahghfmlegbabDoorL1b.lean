/- The contracts of the model's layer 1, second part: has, within, halves; and of the laws' own small functions on prefixes. -/
import Derived.Test.YtaoahghfmlegbabDoorL1
namespace Go.Proofs.YtaoahghfmlegbabDoor
open Go.RowKit Go.Lib

/-- what a prefix has -/
def hasP (a l x : Int) : Bool := decide (a ≤ x ∧ x < a + sz l)

set_option maxRecDepth 100000 in
set_option maxHeartbeats 400000 in
theorem to_any (a l : Int) (w : World) :
    Calls Tryd.prog 12 #[.agg #[.int .i64 a, .int .i64 l]] w fun e w' => e = .returned (.agg #[.int .i64 a, .int .i64 l]) ∧ Below w.heap.size w w' := by
  go_enter Tryd.func12, Tryd.ntmps12
  go_wp2
  refine bodyPost_ret (v := .agg #[.int .i64 a, .int .i64 l]) (by simp [results, Tryd.results12, go_sem]) rfl ⟨rfl, ?_⟩
  exact (((Below.refl _ _).more _).more _).more _

theorem okP_of {a l : Int} (h : okP a l = true) : 0 ≤ l ∧ l ≤ 16 ∧ 0 ≤ a ∧ a ≤ 65535 ∧ a % sz l = 0 := of_decide_eq_true h

/-- NetHas of the model -/
def netHas (a l x : Int) : Bool := okP a l && hasP a l x

/-- one prefix in another one, both ok -/
def withinP (a l b m : Int) : Bool := decide (m ≤ l) && hasP b m a

/-- NetIn of the model -/
def netIn (a l b m : Int) : Bool := okP a l && (okP b m && withinP a l b m)

set_option maxRecDepth 100000 in
set_option maxHeartbeats 400000 in
/-- the laws' own comparison of two prefixes -/
theorem eq_any (a l b m : Int) (w : World) :
    Calls Tryd.prog 16 #[.agg #[.int .i64 a, .int .i64 l], .agg #[.int .i64 b, .int .i64 m]] w fun e w' => e = .returned (.bool (decide (a = b ∧ l = m))) ∧ Below w.heap.size w w' := by
  have b0 : Below w.heap.size w ((w.alloc (.cells #[.int .i64 a, .int .i64 l] 29)).alloc (.cells #[.int .i64 b, .int .i64 m] 29)) := ((Below.refl _ _).more _).more _
  by_cases h1 : a = b
  · subst h1
    by_cases h2 : l = m
    · subst h2
      go_enter Tryd.func16, Tryd.ntmps16
      go_wp2
      go_ret
      exact ⟨ret_bool (by simp), b0⟩
    · have ht : (l != m) = true := by simpa using h2
      go_enter Tryd.func16, Tryd.ntmps16
      go_wp2
      go_ret
      exact ⟨ret_bool (by simp [h2]), b0⟩
  · have ht : (a != b) = true := by simpa using h1
    go_enter Tryd.func16, Tryd.ntmps16
    go_wp2
    go_ret
    exact ⟨ret_bool (by simp [h1]), b0⟩
end Go.Proofs.YtaoahghfmlegbabDoor
