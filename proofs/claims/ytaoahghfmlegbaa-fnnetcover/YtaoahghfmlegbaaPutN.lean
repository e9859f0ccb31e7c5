/- The program's put, one step down: where the node has halves. -/
import Derived.Test.YtaoahghfmlegbaaPut
import Derived.Test.YtaoahghfmlegbaaL1h
namespace Go.Proofs.Ytaoahghfmlegbaa
open Go.RowKit Go.Lib

set_option maxRecDepth 100000 in
set_option maxHeartbeats 2000000 in
/-- one step down into the lesser half, where the node has halves -/
theorem node_low (n B o H : Nat) (b m d : Int) (u v : Bool) (t y x' : Tr) (f1 f2 : List Nat) (w : World) (hT : Two w B o (.bool u) (.pointer (some ⟨H, 0, none⟩)))
    (hx : Tri w H 0 t f1) (hy : Tri w H 2 y f2) (hd : H ∉ f1 ∧ H ∉ f2 ∧ ∀ b ∈ f1, b ∉ f2) (hB : B ≠ H ∧ B ∉ f1 ∧ B ∉ f2) (hn : n ≤ B ∧ n ≤ H)
    (d1 : 0 ≤ d) (d2 : d ≤ 15) (b1 : 0 ≤ b) (b2 : b ≤ 65535) (hdm : d ≠ m) (hh : b / pw (15 - d).toNat % 2 = 0)
    (ih : ∀ w, Tri w H 0 t f1 → Calls Try.prog 70 #[.pointer (some ⟨H, 0, none⟩), .agg #[.int .i64 b, .int .i64 m], .int .i64 (d + 1), .bool v] w fun e w' => (∃ u, e = .returned u) ∧ PutPost n w H 0 x' f1 w') :
    Calls Try.prog 70 #[.pointer (some ⟨B, o, none⟩), .agg #[.int .i64 b, .int .i64 m], .int .i64 d, .bool v] w fun e w' => (∃ u, e = .returned u) ∧ PutPost n w B o (Tr.join x' y) (H :: (f1 ++ f2)) w' := by
  have hl := hT.lt
  have hlx := hx.lt
  have b0 : Below w.heap.size w (w.alloc (.cells #[.int .i64 b, .int .i64 m] 31)) := (Below.refl _ _).more _
  have hT1 := hT.below b0
  have hx1 := hx.below b0
  have hy1 := hy.below b0
  have hP : w.heap.size < (w.alloc (.cells #[.int .i64 b, .int .i64 m] 31)).heap.size ∧ w.heap.size ∉ f1 ∧ w.heap.size ≠ H := ⟨by simp, fun e => by have := hlx.2 _ e; omega, fun e => by have := hlx.1; omega⟩
  have p0 : (w.alloc (.cells #[.int .i64 b, .int .i64 m] 31)).cell? ⟨w.heap.size, 0, none⟩ = some (.int .i64 b) := by simp
  have p1 : (w.alloc (.cells #[.int .i64 b, .int .i64 m] 31)).cell? ⟨w.heap.size, 1, none⟩ = some (.int .i64 m) := by simp
  have hdm2 : (d == m) = false := by rw [beq_eq_false_iff_ne]; exact hdm
  have hf := fun w => half_any b d w d1 d2 b1 b2
  rw [hh] at hf
  have HK : Kept n w (w.alloc (.cells #[.int .i64 b, .int .i64 m] 31)) B o [] := kept_of_below b0 (by omega)
  have FH : H ∈ H :: (f1 ++ f2) ∨ w.heap.size ≤ H := .inl (by simp)
  have F1 : ∀ b ∈ f1, b ∈ H :: (f1 ++ f2) ∨ w.heap.size ≤ b := fun b h => .inl (by simp [h])
  have F2 : ∀ b ∈ f2, b ∈ H :: (f1 ++ f2) ∨ w.heap.size ≤ b := fun b h => .inl (by simp [h])
  have t1 := hT1.2.1
  have G1 : Hid (Two _ B o _ _) := hT1
  have G2 : Hid (Tri _ H 0 t f1) := hx1
  have G3 : Hid (Tri _ H 2 y f2) := hy1
  have G4 : Hid (H ∉ f1 ∧ H ∉ f2 ∧ ∀ b ∈ f1, b ∉ f2) := hd
  have G5 : Hid (B ≠ H ∧ B ∉ f1 ∧ B ∉ f2) := hB
  have G6 : Hid (n ≤ B ∧ n ≤ H) := hn
  have G7 : Hid (_ ∧ w.heap.size ∉ f1 ∧ w.heap.size ≠ H) := hP
  have G8 : Hid (Kept n w _ B o []) := HK
  have G9 : Hid (H ∈ H :: (f1 ++ f2) ∨ w.heap.size ≤ H) := FH
  have G10 : Hid (∀ b ∈ f1, b ∈ H :: (f1 ++ f2) ∨ w.heap.size ≤ b) := F1
  have G11 : Hid (∀ b ∈ f2, b ∈ H :: (f1 ++ f2) ∨ w.heap.size ≤ b) := F2
  clear hh b0 hT hx hy hlx hl hT1 hx1 hy1 hd hB hn hP HK FH F1 F2 hdm
  go_enter Try.func70, Try.ntmps70
  go_wp2_with fail
  generalize w.alloc (.cells #[.int .i64 b, .int .i64 m] 31) = W at *
  have HS0 : W.drew.cell? ⟨B, o + 1, none⟩ = some (.pointer (some ⟨H, 0, none⟩)) ∧ W.drew.cell? ⟨w.heap.size, 0, none⟩ = some (.int .i64 b) ∧ W.drew.cell? ⟨w.heap.size, 1, none⟩ = some (.int .i64 m) := ⟨t1, p0, p1⟩
  go_region_held3 (fun w' => w'.cell? ⟨B, o + 1, none⟩ = some (.pointer (some ⟨H, 0, none⟩)) ∧ w'.cell? ⟨w.heap.size, 0, none⟩ = some (.int .i64 b) ∧ w'.cell? ⟨w.heap.size, 1, none⟩ = some (.int .i64 m)) (first | exact HS0 | exact HS) (first
    | (go_at_call 91; refine (hf _).mono ?_; rintro e w1 ⟨rfl, rfl⟩)
    | (go_at_call 70; rw [wadd1 d1 d2]; refine (ih _ G2.out.drew).mono ?_; rintro e w2 ⟨⟨u2, rfl⟩, fq, hq1, hq2, hq3⟩; obtain ⟨z1, z2, z3⟩ := put_half (c := 0) (c' := 2) (by decide) G1.out.drew G3.out.drew G4.out G5.out hq2 hq3; have HS := three_kept hq3 G7.out z1 p0 p1; clear HS0))
  go_wp2_with (go_at_call 92; refine (join_any n B o H u x' y _ f2 w2 z1 hq1 z2 z3 G6.out.1).mono ?_; rintro e w3 ⟨⟨u3, rfl⟩, fr, hr1, hr2, hr3⟩)
  go_end0
  exact ⟨⟨_, rfl⟩, put_fin G6.out.2 (kept_drew G8.out) hq2 hq3 hr1 (fun b h => by have := hr2 b h; simp only [List.mem_cons, List.mem_append] at this; rcases this with h | h | h; exact .inl h; exact .inr (.inl h); exact .inr (.inr h)) hr3 G9.out G10.out G11.out⟩

set_option maxRecDepth 100000 in
set_option maxHeartbeats 2000000 in
/-- one step down into the greater half, where the node has halves -/
theorem node_high (n B o H : Nat) (b m d : Int) (u v : Bool) (t y x' : Tr) (f1 f2 : List Nat) (w : World) (hT : Two w B o (.bool u) (.pointer (some ⟨H, 0, none⟩)))
    (hx : Tri w H 2 t f1) (hy : Tri w H 0 y f2) (hd : H ∉ f1 ∧ H ∉ f2 ∧ ∀ b ∈ f1, b ∉ f2) (hB : B ≠ H ∧ B ∉ f1 ∧ B ∉ f2) (hn : n ≤ B ∧ n ≤ H)
    (d1 : 0 ≤ d) (d2 : d ≤ 15) (b1 : 0 ≤ b) (b2 : b ≤ 65535) (hdm : d ≠ m) (hh : b / pw (15 - d).toNat % 2 = 1)
    (ih : ∀ w, Tri w H 2 t f1 → Calls Try.prog 70 #[.pointer (some ⟨H, 2, none⟩), .agg #[.int .i64 b, .int .i64 m], .int .i64 (d + 1), .bool v] w fun e w' => (∃ u, e = .returned u) ∧ PutPost n w H 2 x' f1 w') :
    Calls Try.prog 70 #[.pointer (some ⟨B, o, none⟩), .agg #[.int .i64 b, .int .i64 m], .int .i64 d, .bool v] w fun e w' => (∃ u, e = .returned u) ∧ PutPost n w B o (Tr.join y x') (H :: (f1 ++ f2)) w' := by
  have hl := hT.lt
  have hlx := hx.lt
  have b0 : Below w.heap.size w (w.alloc (.cells #[.int .i64 b, .int .i64 m] 31)) := (Below.refl _ _).more _
  have hT1 := hT.below b0
  have hx1 := hx.below b0
  have hy1 := hy.below b0
  have hP : w.heap.size < (w.alloc (.cells #[.int .i64 b, .int .i64 m] 31)).heap.size ∧ w.heap.size ∉ f1 ∧ w.heap.size ≠ H := ⟨by simp, fun e => by have := hlx.2 _ e; omega, fun e => by have := hlx.1; omega⟩
  have p0 : (w.alloc (.cells #[.int .i64 b, .int .i64 m] 31)).cell? ⟨w.heap.size, 0, none⟩ = some (.int .i64 b) := by simp
  have p1 : (w.alloc (.cells #[.int .i64 b, .int .i64 m] 31)).cell? ⟨w.heap.size, 1, none⟩ = some (.int .i64 m) := by simp
  have hdm2 : (d == m) = false := by rw [beq_eq_false_iff_ne]; exact hdm
  have hf := fun w => half_any b d w d1 d2 b1 b2
  rw [hh] at hf
  have HK : Kept n w (w.alloc (.cells #[.int .i64 b, .int .i64 m] 31)) B o [] := kept_of_below b0 (by omega)
  have FH : H ∈ H :: (f1 ++ f2) ∨ w.heap.size ≤ H := .inl (by simp)
  have F1 : ∀ b ∈ f1, b ∈ H :: (f1 ++ f2) ∨ w.heap.size ≤ b := fun b h => .inl (by simp [h])
  have F2 : ∀ b ∈ f2, b ∈ H :: (f1 ++ f2) ∨ w.heap.size ≤ b := fun b h => .inl (by simp [h])
  have t1 := hT1.2.1
  have G1 : Hid (Two _ B o _ _) := hT1
  have G2 : Hid (Tri _ H 2 t f1) := hx1
  have G3 : Hid (Tri _ H 0 y f2) := hy1
  have G4 : Hid (H ∉ f1 ∧ H ∉ f2 ∧ ∀ b ∈ f1, b ∉ f2) := hd
  have G5 : Hid (B ≠ H ∧ B ∉ f1 ∧ B ∉ f2) := hB
  have G6 : Hid (n ≤ B ∧ n ≤ H) := hn
  have G7 : Hid (_ ∧ w.heap.size ∉ f1 ∧ w.heap.size ≠ H) := hP
  have G8 : Hid (Kept n w _ B o []) := HK
  have G9 : Hid (H ∈ H :: (f1 ++ f2) ∨ w.heap.size ≤ H) := FH
  have G10 : Hid (∀ b ∈ f1, b ∈ H :: (f1 ++ f2) ∨ w.heap.size ≤ b) := F1
  have G11 : Hid (∀ b ∈ f2, b ∈ H :: (f1 ++ f2) ∨ w.heap.size ≤ b) := F2
  clear hh b0 hT hx hy hlx hl hT1 hx1 hy1 hd hB hn hP HK FH F1 F2 hdm
  go_enter Try.func70, Try.ntmps70
  go_wp2_with fail
  generalize w.alloc (.cells #[.int .i64 b, .int .i64 m] 31) = W at *
  have HS0 : W.drew.cell? ⟨B, o + 1, none⟩ = some (.pointer (some ⟨H, 0, none⟩)) ∧ W.drew.cell? ⟨w.heap.size, 0, none⟩ = some (.int .i64 b) ∧ W.drew.cell? ⟨w.heap.size, 1, none⟩ = some (.int .i64 m) := ⟨t1, p0, p1⟩
  go_region_held3 (fun w' => w'.cell? ⟨B, o + 1, none⟩ = some (.pointer (some ⟨H, 0, none⟩)) ∧ w'.cell? ⟨w.heap.size, 0, none⟩ = some (.int .i64 b) ∧ w'.cell? ⟨w.heap.size, 1, none⟩ = some (.int .i64 m)) (first | exact HS0 | exact HS) (first
    | (go_at_call 91; refine (hf _).mono ?_; rintro e w1 ⟨rfl, rfl⟩)
    | (go_at_call 70; rw [wadd1 d1 d2]; refine (ih _ G2.out.drew).mono ?_; rintro e w2 ⟨⟨u2, rfl⟩, fq, hq1, hq2, hq3⟩; obtain ⟨z1, z2, z3⟩ := put_half (c := 2) (c' := 0) (by decide) G1.out.drew G3.out.drew G4.out G5.out hq2 hq3; have HS := three_kept hq3 G7.out z1 p0 p1; clear HS0))
  go_wp2_with (go_at_call 92; refine (join_any n B o H u y x' f2 _ w2 z1 z2 hq1 ⟨z3.2.1, z3.1, fun b h k => z3.2.2 b k h⟩ G6.out.1).mono ?_; rintro e w3 ⟨⟨u3, rfl⟩, fr, hr1, hr2, hr3⟩)
  go_end0
  exact ⟨⟨_, rfl⟩, put_fin G6.out.2 (kept_drew G8.out) hq2 hq3 hr1 (fun b h => by have := hr2 b h; simp only [List.mem_cons, List.mem_append] at this; rcases this with h | h | h; exact .inl h; exact .inr (.inr h); exact .inr (.inl h)) hr3 G9.out G10.out G11.out⟩
end Go.Proofs.Ytaoahghfmlegbaa
