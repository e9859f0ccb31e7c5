/- The program's put, one step down: where the node has no halves yet. -/
import Derived.Test.YtaoahghfmlegbabPutN
import Derived.Deep.DeepCutAuto
namespace Go.Proofs.Ytaoahghfmlegbab
open Go.RowKit Go.Lib

/-- a node that has just got two halves of its own value -/
def Split (n : Nat) (w : World) (B o : Nat) (u : Bool) (x y : Value) (H : Nat) (W : World) : Prop :=
  Two W B o (.bool u) (.pointer (some ⟨H, 0, none⟩)) ∧ Two W H 0 (.bool u) (.pointer none) ∧ Two W H 2 (.bool u) (.pointer none) ∧ W.cell? ⟨w.heap.size, 0, none⟩ = some x ∧ W.cell? ⟨w.heap.size, 1, none⟩ = some y ∧ Kept n w W B o [] ∧ w.heap.size < H ∧ w.heap.size < W.heap.size
theorem split_new {n : Nat} {w : World} {B o : Nat} {u : Bool} (hT : Two w B o (.bool u) (.pointer none)) (hn : n ≤ B) (x y : Value) (t s : TypeId) :
    Split n w B o u x y (w.heap.size + 1) (((w.setCell ⟨B, o + 1, none⟩ (.pointer (some ⟨w.heap.size + 1, 0, none⟩))).alloc (.cells #[x, y] t)).alloc (.cells #[.bool u, .pointer none, .bool u, .pointer none] s)).drew := by
  have hl := hT.lt
  generalize hp : Value.pointer (some (⟨w.heap.size + 1, 0, none⟩ : Addr)) = p
  have h0 : Two (w.setCell ⟨B, o + 1, none⟩ p) B o (.bool u) p := by
    refine ⟨?_, ?_, ?_, ?_⟩
    · rw [cell_other (fun e => by cases e)]; exact hT.1
    · exact World.cell?_setCell_same' _ _ _ (by rw [hT.2.1]; rfl)
    · rw [World.frozen?_setCell]; exact hT.2.2.1
    · rw [World.frozen?_setCell]; exact hT.2.2.2
  have hk : Kept n w (w.setCell ⟨B, o + 1, none⟩ p) B o [] := ⟨(Below.refl n w).setCell (p := ⟨B, o + 1, none⟩) hn _, fun c i _ _ ho => ⟨cell_other (fun e => ho (by cases e; exact ⟨rfl, .inr rfl⟩)), by rw [World.frozen?_setCell]⟩⟩
  have hs : (w.setCell ⟨B, o + 1, none⟩ p).heap.size = w.heap.size := by simp
  generalize w.setCell ⟨B, o + 1, none⟩ p = W0 at *
  have hb1 : Below W0.heap.size W0 (W0.alloc (.cells #[x, y] t)) := (Below.refl _ _).more _
  have hs1 : (W0.alloc (.cells #[x, y] t)).heap.size = w.heap.size + 1 := by simp [hs]
  have c0 : (W0.alloc (.cells #[x, y] t)).cell? ⟨w.heap.size, 0, none⟩ = some x := by rw [← hs]; simp
  have c1 : (W0.alloc (.cells #[x, y] t)).cell? ⟨w.heap.size, 1, none⟩ = some y := by rw [← hs]; simp
  generalize W0.alloc (.cells #[x, y] t) = W1 at *
  have hb2 : Below W1.heap.size W1 (W1.alloc (.cells #[.bool u, .pointer none, .bool u, .pointer none] s)) := (Below.refl _ _).more _
  have d : ∀ j, (W1.alloc (.cells #[.bool u, .pointer none, .bool u, .pointer none] s)).cell? ⟨w.heap.size + 1, j, none⟩ = #[.bool u, .pointer none, .bool u, .pointer none][j]? ∧ (W1.alloc (.cells #[.bool u, .pointer none, .bool u, .pointer none] s)).frozen? ⟨w.heap.size + 1, j, none⟩ = false := by
    intro j
    rw [← hs1]
    exact ⟨World.cell?_alloc_new _ _ _ _, fz_new _ _ _ _⟩
  have hsz : (W1.alloc (.cells #[.bool u, .pointer none, .bool u, .pointer none] s)).heap.size = w.heap.size + 1 + 1 := by simp [hs1]
  generalize W1.alloc (.cells #[.bool u, .pointer none, .bool u, .pointer none] s) = W2 at *
  subst hp
  have hB := below_then hb1 hb2
  refine ⟨((h0.below hB) : Two W2 B o _ _), ⟨(d 0).1, (d 1).1, (d 0).2, (d 1).2⟩, ⟨(d 2).1, (d 3).1, (d 2).2, (d 3).2⟩, ?_, ?_, ?_, by omega, by show _ < W2.heap.size; omega⟩
  · show W2.cell? _ = _
    rw [hb2.cell (p := ⟨w.heap.size, 0, none⟩) (show w.heap.size < W1.heap.size by omega)]; exact c0
  · show W2.cell? _ = _
    rw [hb2.cell (p := ⟨w.heap.size, 1, none⟩) (show w.heap.size < W1.heap.size by omega)]; exact c1
  · exact kept_drew (Kept.then (fq := []) hk (kept_of_below hB (by omega)) (by simp))

set_option maxRecDepth 100000 in
set_option maxHeartbeats 1000000 in
/-- one step down into the lesser half of a node that has none yet -/
theorem leaf_low (n B o : Nat) (b m d : Int) (u v : Bool) (x' : Tr) (w : World) (hT : Two w B o (.bool u) (.pointer none)) (hn : n ≤ B)
    (d1 : 0 ≤ d) (d2 : d ≤ 15) (b1 : 0 ≤ b) (b2 : b ≤ 65535) (hdm : d ≠ m) (hh : b / pw (15 - d).toNat % 2 = 0)
    (ih : ∀ H w, n ≤ H → Tri w H 0 (.leaf u) [] → Calls Try.prog 62 #[.pointer (some ⟨H, 0, none⟩), .agg #[.int .i64 b, .int .i64 m], .int .i64 (d + 1), .bool v] w fun e w' => (∃ u, e = .returned u) ∧ PutPost n w H 0 x' [] w') :
    Calls Try.prog 62 #[.pointer (some ⟨B, o, none⟩), .agg #[.int .i64 b, .int .i64 m], .int .i64 d, .bool v] w fun e w' => (∃ u, e = .returned u) ∧ PutPost n w B o (Tr.join x' (.leaf u)) [] w' := by
  have hl := hT.lt
  have hdm2 : (d == m) = false := by rw [beq_eq_false_iff_ne]; exact hdm
  have hf := fun w => half_any b d w d1 d2 b1 b2
  rw [hh] at hf
  have SP : Hid _ := split_new hT hn (.int .i64 b) (.int .i64 m) 24 122
  obtain ⟨t0, t1, t2, t3⟩ := hT
  have hn : Hid (n ≤ B) := hn
  clear hh hdm
  go_enter Try.func62, Try.ntmps62
  go_wp2_with fail
  go_cut [36] (fun q W => ∃ H, q = .pointer (some ⟨H, 0, none⟩) ∧ Split n w B o u (.int .i64 b) (.int .i64 m) H W)
  case first =>
    go_region
    all_goals
      go_wp2_with fail
      go_meet
      case rel => exact ⟨_, rfl, SP.out⟩
  case rest =>
    obtain ⟨H, rfl, hS⟩ := hcut
    obtain ⟨s1, s2, s3, p0, p1, s6, s7, s8⟩ := hS
    have G1 : Hid (Two wc B o (.bool u) (.pointer (some ⟨H, 0, none⟩))) := s1
    have hnH : n ≤ H := by have := hn.out; omega
    have BH : B ≠ H := by omega
    have t1 := s1.2.1
    have GX : Hid (Tri wc H 0 (.leaf u) []) := ⟨rfl, s2⟩
    have GY : Hid (Tri wc H 2 (.leaf u) []) := ⟨rfl, s3⟩
    have G7 : Hid (w.heap.size < wc.heap.size ∧ w.heap.size ∉ ([] : List Nat) ∧ w.heap.size ≠ H) := ⟨s8, by simp, by omega⟩
    have G8 : Hid (Kept n w wc B o []) := s6
    have G9 : Hid (H ∈ ([] : List Nat) ∨ w.heap.size ≤ H) := .inr (by omega)
    have HS0 : wc.drew.cell? ⟨B, o + 1, none⟩ = some (.pointer (some ⟨H, 0, none⟩)) ∧ wc.drew.cell? ⟨w.heap.size, 0, none⟩ = some (.int .i64 b) ∧ wc.drew.cell? ⟨w.heap.size, 1, none⟩ = some (.int .i64 m) := ⟨t1, p0, p1⟩
    clear s1 s2 s3 s6 s7 s8 SP t0 t2 t3 hl
    go_wp2_with fail
    go_region_held3 (fun w' => w'.cell? ⟨B, o + 1, none⟩ = some (.pointer (some ⟨H, 0, none⟩)) ∧ w'.cell? ⟨w.heap.size, 0, none⟩ = some (.int .i64 b) ∧ w'.cell? ⟨w.heap.size, 1, none⟩ = some (.int .i64 m)) (first | exact HS0 | exact HS) (first
      | (go_at_call 78; refine (hf _).mono ?_; rintro e w1 ⟨rfl, rfl⟩)
      | (go_at_call 62; rw [wadd1 d1 d2]; refine (ih H _ hnH GX.out.drew).mono ?_; rintro e w2 ⟨⟨u2, rfl⟩, fq, hq1, hq2, hq3⟩; obtain ⟨z1, z2, z3⟩ := put_half (c := 0) (c' := 2) (by decide) G1.out.drew GY.out.drew ⟨by simp, by simp, by simp⟩ ⟨BH, by simp, by simp⟩ hq2 hq3; have HS := three_kept hq3 G7.out z1 p0 p1; clear HS0))
    go_wp2_with (go_at_call 79; refine (join_any n B o H u x' (.leaf u) _ [] w2 z1 hq1 z2 z3 hn.out).mono ?_; rintro e w3 ⟨⟨u3, rfl⟩, fr, hr1, hr2, hr3⟩)
    go_end0
    exact ⟨⟨_, rfl⟩, put_fin (f2 := []) hnH (kept_drew G8.out) hq2 hq3 hr1 (fun b h => by have := hr2 b h; simp only [List.mem_cons, List.mem_append, List.not_mem_nil, or_false] at this; rcases this with h | h; exact .inl h; exact .inr (.inl h)) hr3 G9.out (by simp) (by simp)⟩

set_option maxRecDepth 100000 in
set_option maxHeartbeats 1000000 in
/-- one step down into the greater half of a node that has none yet -/
theorem leaf_high (n B o : Nat) (b m d : Int) (u v : Bool) (x' : Tr) (w : World) (hT : Two w B o (.bool u) (.pointer none)) (hn : n ≤ B)
    (d1 : 0 ≤ d) (d2 : d ≤ 15) (b1 : 0 ≤ b) (b2 : b ≤ 65535) (hdm : d ≠ m) (hh : b / pw (15 - d).toNat % 2 = 1)
    (ih : ∀ H w, n ≤ H → Tri w H 2 (.leaf u) [] → Calls Try.prog 62 #[.pointer (some ⟨H, 2, none⟩), .agg #[.int .i64 b, .int .i64 m], .int .i64 (d + 1), .bool v] w fun e w' => (∃ u, e = .returned u) ∧ PutPost n w H 2 x' [] w') :
    Calls Try.prog 62 #[.pointer (some ⟨B, o, none⟩), .agg #[.int .i64 b, .int .i64 m], .int .i64 d, .bool v] w fun e w' => (∃ u, e = .returned u) ∧ PutPost n w B o (Tr.join (.leaf u) x') [] w' := by
  have hl := hT.lt
  have hdm2 : (d == m) = false := by rw [beq_eq_false_iff_ne]; exact hdm
  have hf := fun w => half_any b d w d1 d2 b1 b2
  rw [hh] at hf
  have SP : Hid _ := split_new hT hn (.int .i64 b) (.int .i64 m) 24 122
  obtain ⟨t0, t1, t2, t3⟩ := hT
  have hn : Hid (n ≤ B) := hn
  clear hh hdm
  go_enter Try.func62, Try.ntmps62
  go_wp2_with fail
  go_cut [36] (fun q W => ∃ H, q = .pointer (some ⟨H, 0, none⟩) ∧ Split n w B o u (.int .i64 b) (.int .i64 m) H W)
  case first =>
    go_region
    all_goals
      go_wp2_with fail
      go_meet
      case rel => exact ⟨_, rfl, SP.out⟩
  case rest =>
    obtain ⟨H, rfl, hS⟩ := hcut
    obtain ⟨s1, s2, s3, p0, p1, s6, s7, s8⟩ := hS
    have G1 : Hid (Two wc B o (.bool u) (.pointer (some ⟨H, 0, none⟩))) := s1
    have hnH : n ≤ H := by have := hn.out; omega
    have BH : B ≠ H := by omega
    have t1 := s1.2.1
    have GX : Hid (Tri wc H 2 (.leaf u) []) := ⟨rfl, s3⟩
    have GY : Hid (Tri wc H 0 (.leaf u) []) := ⟨rfl, s2⟩
    have G7 : Hid (w.heap.size < wc.heap.size ∧ w.heap.size ∉ ([] : List Nat) ∧ w.heap.size ≠ H) := ⟨s8, by simp, by omega⟩
    have G8 : Hid (Kept n w wc B o []) := s6
    have G9 : Hid (H ∈ ([] : List Nat) ∨ w.heap.size ≤ H) := .inr (by omega)
    have HS0 : wc.drew.cell? ⟨B, o + 1, none⟩ = some (.pointer (some ⟨H, 0, none⟩)) ∧ wc.drew.cell? ⟨w.heap.size, 0, none⟩ = some (.int .i64 b) ∧ wc.drew.cell? ⟨w.heap.size, 1, none⟩ = some (.int .i64 m) := ⟨t1, p0, p1⟩
    clear s1 s2 s3 s6 s7 s8 SP t0 t2 t3 hl
    go_wp2_with fail
    go_region_held3 (fun w' => w'.cell? ⟨B, o + 1, none⟩ = some (.pointer (some ⟨H, 0, none⟩)) ∧ w'.cell? ⟨w.heap.size, 0, none⟩ = some (.int .i64 b) ∧ w'.cell? ⟨w.heap.size, 1, none⟩ = some (.int .i64 m)) (first | exact HS0 | exact HS) (first
      | (go_at_call 78; refine (hf _).mono ?_; rintro e w1 ⟨rfl, rfl⟩)
      | (go_at_call 62; rw [wadd1 d1 d2]; refine (ih H _ hnH GX.out.drew).mono ?_; rintro e w2 ⟨⟨u2, rfl⟩, fq, hq1, hq2, hq3⟩; obtain ⟨z1, z2, z3⟩ := put_half (c := 2) (c' := 0) (by decide) G1.out.drew GY.out.drew ⟨by simp, by simp, by simp⟩ ⟨BH, by simp, by simp⟩ hq2 hq3; have HS := three_kept hq3 G7.out z1 p0 p1; clear HS0))
    go_wp2_with (go_at_call 79; refine (join_any n B o H u (.leaf u) x' [] _ w2 z1 z2 hq1 ⟨z3.2.1, z3.1, fun b h k => z3.2.2 b k h⟩ hn.out).mono ?_; rintro e w3 ⟨⟨u3, rfl⟩, fr, hr1, hr2, hr3⟩)
    go_end0
    exact ⟨⟨_, rfl⟩, put_fin (f2 := []) hnH (kept_drew G8.out) hq2 hq3 hr1 (fun b h => by have := hr2 b h; simp only [List.mem_cons, List.mem_append, List.not_mem_nil, false_or] at this; rcases this with h | h; exact .inl h; exact .inr (.inl h)) hr3 G9.out (by simp) (by simp)⟩
end Go.Proofs.Ytaoahghfmlegbab
