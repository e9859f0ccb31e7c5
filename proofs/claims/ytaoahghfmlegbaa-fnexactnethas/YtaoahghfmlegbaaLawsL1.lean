/- The laws on the program's layer 1, walked: each returns true. -/
import Derived.Test.YtaoahghfmlegbaaI1
namespace Go.Proofs.Ytaoahghfmlegbaa
open Go.RowKit Go.Lib

set_option maxRecDepth 100000 in
set_option maxHeartbeats 400000 in
theorem law_has (a l x : Int) (w : World) (hx : x ≤ 9223372036854775807) :
    Calls Try.prog 9 #[.agg #[.int .i64 a, .int .i64 l], .int .i64 x] w fun e w' => e = .returned (.bool true) ∧ Below w.heap.size w w' := by
  have HX : Hid (x ≤ 9223372036854775807) := hx
  clear hx
  have b0 : Below w.heap.size w (w.alloc (.cells #[.int .i64 a, .int .i64 l] 58)) := (Below.refl _ _).more _
  have HB := Below.refl (w.alloc (.cells #[.int .i64 a, .int .i64 l] 58)).heap.size (w.alloc (.cells #[.int .i64 a, .int .i64 l] 58))
  go_enter Try.func9, Try.ntmps9
  go_wp2_with (first
    | (go_at_call 35; refine (to_any _ _ _).mono ?_; rintro e w1 ⟨rfl, hb⟩; replace HB := below_then HB hb; obtain ⟨hc, hf⟩ := bcell HB)
    | (go_at_call 24; refine (nethas_any _ _ _ _).mono ?_; rintro e w1 ⟨rfl, hb⟩; replace HB := below_then HB hb; obtain ⟨hc, hf⟩ := bcell HB)
    | (go_at_call 36; refine (inethas_any _ _ _ _ HX.out).mono ?_; rintro e w1 ⟨rfl, hb⟩; replace HB := below_then HB hb))
  go_ret
  exact ⟨rfl, below_then b0 HB⟩

/-- what holds in a region over two boxes: nothing below has turned, the boxes hold what they held -/
def S4 (W0 : World) (B : Nat) (a l b m : Int) (w' : World) : Prop :=
  w'.cell? ⟨B, 0, none⟩ = some (.int .i64 a) ∧ w'.cell? ⟨B, 1, none⟩ = some (.int .i64 l) ∧ w'.cell? ⟨B + 1, 0, none⟩ = some (.int .i64 b) ∧ w'.cell? ⟨B + 1, 1, none⟩ = some (.int .i64 m) ∧ Below W0.heap.size W0 w'
theorem s4_start (w : World) (a l b m : Int) (t : TypeId) : S4 ((w.alloc (.cells #[.int .i64 a, .int .i64 l] t)).alloc (.cells #[.int .i64 b, .int .i64 m] t)) w.heap.size a l b m ((w.alloc (.cells #[.int .i64 a, .int .i64 l] t)).alloc (.cells #[.int .i64 b, .int .i64 m] t)) := by
  obtain ⟨h1, h2, h3, h4, _⟩ := two_new w (.int .i64 a) (.int .i64 l) (.int .i64 b) (.int .i64 m) t
  exact ⟨h1, h2, h3, h4, Below.refl _ _⟩
theorem s4_drew {W0 wp : World} {B : Nat} {a l b m : Int} (h : S4 W0 B a l b m wp) : S4 W0 B a l b m wp.drew := ⟨h.1, h.2.1, h.2.2.1, h.2.2.2.1, h.2.2.2.2.drew⟩
theorem s4_next {W0 wp w1 : World} {B : Nat} {a l b m : Int} (hB : B + 1 < W0.heap.size) (h : S4 W0 B a l b m wp) (hb : Below wp.heap.size wp w1) : S4 W0 B a l b m w1 := by
  obtain ⟨h1, h2, h3, h4, h5⟩ := h
  have hs := h5.size
  refine ⟨?_, ?_, ?_, ?_, below_then h5 hb⟩
  · rw [hb.cell (p := ⟨B, 0, none⟩) (by simp; omega)]; exact h1
  · rw [hb.cell (p := ⟨B, 1, none⟩) (by simp; omega)]; exact h2
  · rw [hb.cell (p := ⟨B + 1, 0, none⟩) (by simp; omega)]; exact h3
  · rw [hb.cell (p := ⟨B + 1, 1, none⟩) (by simp; omega)]; exact h4

set_option maxRecDepth 100000 in
set_option maxHeartbeats 400000 in
theorem law_in (a l b m : Int) (w : World) :
    Calls Try.prog 10 #[.agg #[.int .i64 a, .int .i64 l], .agg #[.int .i64 b, .int .i64 m]] w fun e w' => e = .returned (.bool true) ∧ Below w.heap.size w w' := by
  have b0 : Below w.heap.size w ((w.alloc (.cells #[.int .i64 a, .int .i64 l] 58)).alloc (.cells #[.int .i64 b, .int .i64 m] 58)) := ((Below.refl _ _).more _).more _
  have hst := s4_start w a l b m 58
  have hB : w.heap.size + 1 < ((w.alloc (.cells #[.int .i64 a, .int .i64 l] 58)).alloc (.cells #[.int .i64 b, .int .i64 m] 58)).heap.size := by simp
  go_enter Try.func10, Try.ntmps10
  go_wp2_with fail
  generalize hW : (w.alloc (.cells #[.int .i64 a, .int .i64 l] 58)).alloc (.cells #[.int .i64 b, .int .i64 m] 58) = W0
  rw [hW] at b0 hst hB
  clear hW
  go_region_held3 (fun w' => w'.cell? ⟨w.heap.size, 0, none⟩ = some (.int .i64 a) ∧ w'.cell? ⟨w.heap.size, 1, none⟩ = some (.int .i64 l) ∧ w'.cell? ⟨w.heap.size + 1, 0, none⟩ = some (.int .i64 b) ∧ w'.cell? ⟨w.heap.size + 1, 1, none⟩ = some (.int .i64 m) ∧ Below W0.heap.size W0 w') (first | exact s4_drew hst | exact s4_next hB (by assumption) (by assumption)) (first
    | (go_at_call 35; refine (to_any _ _ _).mono ?_; rintro e w1 ⟨rfl, hb⟩)
    | (go_at_call 37; refine (netin_any _ _ _ _ _).mono ?_; rintro e w1 ⟨rfl, hb⟩))
  go_wp2_with fail
  have hS : S4 W0 w.heap.size a l b m w1 := by assumption
  clear hst
  go_region_held3 (fun w' => w'.cell? ⟨w.heap.size, 0, none⟩ = some (.int .i64 a) ∧ w'.cell? ⟨w.heap.size, 1, none⟩ = some (.int .i64 l) ∧ w'.cell? ⟨w.heap.size + 1, 0, none⟩ = some (.int .i64 b) ∧ w'.cell? ⟨w.heap.size + 1, 1, none⟩ = some (.int .i64 m) ∧ Below W0.heap.size W0 w') (first | exact s4_drew hS | exact s4_next hB (by assumption) (by assumption)) (first
    | (go_at_call 35; refine (to_any _ _ _).mono ?_; rintro e w1 ⟨rfl, hb⟩)
    | (go_at_call 38; refine (inetin_any _ _ _ _ _).mono ?_; rintro e w1 ⟨rfl, hb⟩))
  go_wp2
  have hS2 : S4 W0 w.heap.size a l b m w1 := by assumption
  go_ret
  exact ⟨rfl, below_then b0 hS2.2.2.2.2⟩
end Go.Proofs.Ytaoahghfmlegbaa
