/- The law on NetHalves, walked: it returns true. -/
import Derived.Test.YtaoahghfmlegbabI1h
namespace Go.Proofs.Ytaoahghfmlegbab
open Go.RowKit Go.Lib

theorem lt_box {w w1 : World} {o : Obj} (hb : Below (w.alloc o).heap.size (w.alloc o) w1) : w.heap.size < w1.heap.size := by
  have := hb.size
  simp at this
  omega

theorem second_box {w w1 : World} {A : Obj} {x y : Int} {t : TypeId} (hb : Below ((w.alloc A).alloc (.cells #[.int .i64 x, .int .i64 y] t)).heap.size ((w.alloc A).alloc (.cells #[.int .i64 x, .int .i64 y] t)) w1) :
    ∀ j, j < 2 → w1.cell? ⟨w.heap.size + 1, j, none⟩ = some (.int .i64 (if j = 0 then x else y)) := by
  intro j hj
  rw [hb.cell (p := ⟨w.heap.size + 1, j, none⟩) (by simp), World.cell?_alloc_at _ _ _ _ (by simp)]
  have : j = 0 ∨ j = 1 := by omega
  rcases this with rfl | rfl <;> rfl
theorem two_later {w w1 : World} {A C : Obj} {g o : Nat} {v : Value} (hb : Below ((w.alloc A).alloc C).heap.size ((w.alloc A).alloc C) w1) (h : w.cell? ⟨g, o, none⟩ = some v) : w1.cell? ⟨g, o, none⟩ = some v := by
  have hg := cell_lt h
  rw [hb.cell (p := ⟨g, o, none⟩) (by simp; omega), World.cell?_alloc_lt _ _ _ (by simp; omega), World.cell?_alloc_lt _ _ _ hg]
  exact h

set_option maxRecDepth 100000 in
set_option maxHeartbeats 1000000 in
/-- the law's walk where both hand back the same three values -/
theorem law_halves_of (a l x1 x2 y1 y2 : Int) (k : Bool) (w : World)
    (h1 : ∀ w, Calls Try.prog 10 #[.agg #[.int .i64 a, .int .i64 l]] w fun e w' => e = .returned (.tuple #[.agg #[.int .i64 x1, .int .i64 x2], .agg #[.int .i64 y1, .int .i64 y2], .bool k]) ∧ Below w.heap.size w w')
    (h2 : ∀ w, Calls Try.prog 12 #[.agg #[.int .i64 a, .int .i64 l]] w fun e w' => e = .returned (.tuple #[.agg #[.int .i64 x1, .int .i64 x2], .agg #[.int .i64 y1, .int .i64 y2], .bool k]) ∧ Below w.heap.size w w') :
    Calls Try.prog 3 #[.agg #[.int .i64 a, .int .i64 l]] w fun e w' => e = .returned (.bool true) ∧ Below w.heap.size w w' := by
  have b0 : Below w.heap.size w (w.alloc (.cells #[.int .i64 a, .int .i64 l] 23)) := (Below.refl _ _).more _
  go_enter Try.func3, Try.ntmps3
  go_wp2_with (first
    | (go_at_call 11; refine (to_any _ _ _).mono ?_; rintro e w1 ⟨rfl, hb1⟩)
    | (go_at_call 10; refine (h1 _).mono ?_; rintro e w2 ⟨rfl, hb2⟩; have HB := below_then hb1 hb2; obtain ⟨r1, r2, _, _, r5⟩ := old_one HB))
  have C1 : Below w.heap.size w ((w2.alloc (.cells #[.int .i64 x1, .int .i64 x2] 24)).alloc (.cells #[.int .i64 y1, .int .i64 y2] 24)) := ((below_then b0 HB).more _).more _
  go_wp2_with (first
    | (go_at_call 12; refine (h2 _).mono ?_; rintro e w4 ⟨rfl, hb4⟩; have HB2 := below_then hb1 hb4; obtain ⟨s1, s2, _, _, s5⟩ := old_box HB2; obtain ⟨hc4, hf4⟩ := bcell HB2; have s6 := size2 HB2))
  have s3 : w4.cell? ⟨w2.heap.size + 1, 0, none⟩ = some (.int .i64 y1) := second_box HB2 0 (by decide)
  have s4 : w4.cell? ⟨w2.heap.size + 1, 1, none⟩ = some (.int .i64 y2) := second_box HB2 1 (by decide)
  have C2 : Below w.heap.size w ((w4.alloc (.cells #[.int .i64 x1, .int .i64 x2] 24)).alloc (.cells #[.int .i64 y1, .int .i64 y2] 24)) := ((below_then C1 HB2).more _).more _
  clear hc4 hf4 HB HB2 hb1 hb2 hb4 C1 b0 h1 h2 r1 r2
  go_wp2_with (first
    | (go_at_call_of 13 x1; refine (eq_any x1 x2 x1 x2 _).mono ?_; rintro e w5 ⟨rfl, hb5⟩; have p1 : w5.cell? ⟨w4.heap.size + 1, 0, none⟩ = some (.int .i64 y1) := second_box hb5 0 (by decide); have p2 : w5.cell? ⟨w4.heap.size + 1, 1, none⟩ = some (.int .i64 y2) := second_box hb5 1 (by decide); have p3 := two_later hb5 s3; have p4 := two_later hb5 s4))
  go_wp2_with (go_at_call 13; refine (eq_any y1 y2 y1 y2 _).mono ?_; rintro e w6 ⟨rfl, hb6⟩)
  go_ret
  exact ⟨rfl, below_then (below_then C2 hb5) hb6⟩

theorem law_halves (a l : Int) (w : World) :
    Calls Try.prog 3 #[.agg #[.int .i64 a, .int .i64 l]] w fun e w' => e = .returned (.bool true) ∧ Below w.heap.size w w' := by
  cases h : hasHalves a l with
  | false => exact law_halves_of a l 0 0 0 0 false w (fun w => nethalves_no a l w h) (fun w => inethalves_no a l w h)
  | true => exact law_halves_of a l a (l + 1) (a + sz (l + 1)) (l + 1) true w (fun w => nethalves_yes a l w h) (fun w => inethalves_yes a l w h)
end Go.Proofs.Ytaoahghfmlegbab
