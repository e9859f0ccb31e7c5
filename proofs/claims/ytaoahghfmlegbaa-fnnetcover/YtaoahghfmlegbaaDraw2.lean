/- The draws of prefixes: l5Prefix, l5Spoil. -/
import Derived.Test.YtaoahghfmlegbaaDraw
import Derived.Test.YtaoahghfmlegbaaL1b
namespace Go.Proofs.Ytaoahghfmlegbaa
open Go.RowKit Go.Lib

/-- an address made a prefix's first -/
theorem first_ok {a l : Int} (a1 : 0 ≤ a) (a2 : a ≤ 65535) (l1 : 0 ≤ l) (l2 : l ≤ 16) : okP (a - a % sz l) l = true := by
  have hz := sz_bd l l1
  have h1 := Int.emod_nonneg a (show sz l ≠ 0 by omega)
  have h2 : a % sz l ≤ a := by
    have := Int.emod_add_mul_ediv a (sz l)
    have h3 : 0 ≤ sz l * (a / sz l) := Int.mul_nonneg (by omega) (Int.ediv_nonneg a1 (by omega))
    omega
  unfold okP
  refine decide_eq_true ⟨l1, l2, by omega, by omega, ?_⟩
  have h4 : a - a % sz l = sz l * (a / sz l) := by have := Int.emod_add_mul_ediv a (sz l); omega
  rw [h4]
  exact Int.mul_emod_right _ _
theorem tab6 {r : Nat} (h : (r : Int) < 6) : ∃ l : Int, #[Value.int .i64 0, .int .i64 1, .int .i64 2, .int .i64 8, .int .i64 15, .int .i64 16][r]? = some (.int .i64 l) ∧ 0 ≤ l ∧ l ≤ 16 := by
  have : r = 0 ∨ r = 1 ∨ r = 2 ∨ r = 3 ∨ r = 4 ∨ r = 5 := by omega
  rcases this with rfl | rfl | rfl | rfl | rfl | rfl
  · exact ⟨0, rfl, by omega, by omega⟩
  · exact ⟨1, rfl, by omega, by omega⟩
  · exact ⟨2, rfl, by omega, by omega⟩
  · exact ⟨8, rfl, by omega, by omega⟩
  · exact ⟨15, rfl, by omega, by omega⟩
  · exact ⟨16, rfl, by omega, by omega⟩
theorem tab5 {r : Nat} {a b c d e : Int} (h : (r : Int) < 5) (ha : 0 ≤ a ∧ a ≤ 65535) (hb : 0 ≤ b ∧ b ≤ 65535) (hc : 0 ≤ c ∧ c ≤ 65535) (hd : 0 ≤ d ∧ d ≤ 65535) (he : 0 ≤ e ∧ e ≤ 65535) :
    ∃ l : Int, #[Value.int .i64 a, .int .i64 b, .int .i64 c, .int .i64 d, .int .i64 e][r]? = some (.int .i64 l) ∧ 0 ≤ l ∧ l ≤ 65535 := by
  have : r = 0 ∨ r = 1 ∨ r = 2 ∨ r = 3 ∨ r = 4 := by omega
  rcases this with rfl | rfl | rfl | rfl | rfl
  · exact ⟨a, rfl, ha⟩
  · exact ⟨b, rfl, hb⟩
  · exact ⟨c, rfl, hc⟩
  · exact ⟨d, rfl, hd⟩
  · exact ⟨e, rfl, he⟩
/-- the result's own box -/
def BoxR (W : World) (K : Nat) : Prop := W.cell? ⟨K, 0, none⟩ = some (.int .i64 0) ∧ W.cell? ⟨K, 1, none⟩ = some (.int .i64 0) ∧ W.frozen? ⟨K, 0, none⟩ = false ∧ W.frozen? ⟨K, 1, none⟩ = false
theorem BoxR.grown {w W : World} {R K : Nat} (h : BoxR w K) (hg : w.grownBy W (some R)) (hK : K ≠ R) : BoxR W K := ⟨grown_cell hg hK h.1, grown_cell hg hK h.2.1, grown_fz hg hK h.1 h.2.2.1, grown_fz hg hK h.2.1 h.2.2.2⟩
theorem BoxR.alloc {w : World} {K : Nat} (h : BoxR w K) (o : Obj) : BoxR (w.alloc o) K := by
  have hb : Below w.heap.size w (w.alloc o) := (Below.refl _ _).more _
  have hl := cell_lt h.1
  exact ⟨(hb.cell (p := ⟨K, 0, none⟩) hl).trans h.1, (hb.cell (p := ⟨K, 1, none⟩) hl).trans h.2.1, (hb.frozen (p := ⟨K, 0, none⟩) hl).trans h.2.2.1, (hb.frozen (p := ⟨K, 1, none⟩) hl).trans h.2.2.2⟩
theorem tab_cell {w W : World} {R : Nat} {cs : Array Value} {t : TypeId} {r : Nat} {v : Value} (hg : (w.alloc (.cells cs t)).grownBy W (some R)) (hR : R < w.heap.size) (h : cs[r]? = some v) : W.cell? ⟨w.heap.size, r, none⟩ = some v :=
  grown_cell hg (by omega) (by rw [World.cell?_alloc_new]; exact h)

theorem Drew.weak {w W : World} {R n cap : Nat} {q : Option Addr} {p c d : Int} (h : Drew w R q n cap p c W) (hd : c ≤ d) : Drew w R q n cap p d W := by
  obtain ⟨hg, p', h1, h2, h3⟩ := h; exact ⟨hg, p', h1, by omega, h3⟩
theorem drew_set {w W : World} {R n cap K j : Nat} {q : Option Addr} {p c : Int} (h0 : Rdr w R q n cap p) (h : Drew w R q n cap p c W) (hK : w.heap.size ≤ K) (u : Value) : Drew w R q n cap p c (W.setCell ⟨K, j, none⟩ u) := by
  obtain ⟨hg, p', h1, h2, h3⟩ := h
  have hR := h0.lt
  obtain ⟨a1, a2, a3, a4, a5, a6⟩ := h3
  refine ⟨⟨hg.os, hg.tape, hg.output, by have := hg.size; simpa using this, fun k hk hr => (Below.heap_setCell _ _ _ _ (by simp; omega)).trans (hg.block k hk hr)⟩, p', h1, h2, ?_, ?_, ?_, a4, a5, ?_⟩
  · rw [World.cell?_setCell_other _ _ _ _ (fun e => by cases e; omega)]; exact a1
  · rw [World.cell?_setCell_other _ _ _ _ (fun e => by cases e; omega)]; exact a2
  · rw [World.frozen?_setCell]; exact a3
  · rcases h0.2.2.2.2.2 with hn | ⟨g0, o0, q0, gR, gl, _⟩
    · exact .inl hn
    · rcases a6 with hn | ⟨g, o, hq, hgR, hl, hc⟩
      · exact .inl hn
      · rw [q0] at hq
        cases hq
        refine .inr ⟨_, _, q0, gR, by simpa using hl, fun i hi => ?_⟩
        obtain ⟨y, hy, k⟩ := hc i hi
        exact ⟨y, by rw [World.cell?_setCell_other _ _ _ _ (fun e => by cases e; omega)]; exact hy, k⟩
theorem drew_set2 {w W : World} {R n cap K : Nat} {q : Option Addr} {p c : Int} (h0 : Rdr w R q n cap p) (h : Drew w R q n cap p c W) (hK : w.heap.size ≤ K) (i j : Nat) (u v : Value) : Drew w R q n cap p c ((W.setCell ⟨K, i, none⟩ u).setCell ⟨K, j, none⟩ v) := drew_set h0 (drew_set h0 h hK u) hK v

set_option maxRecDepth 100000 in
set_option maxHeartbeats 2000000 in
theorem pre_any (R : Nat) (q : Option Addr) (n cap : Nat) (p : Int) (w : World) (h : Rdr w R q n cap p) (hp : p ≤ 1073741800) :
    Calls Try.prog 68 #[.pointer (some ⟨R, 0, none⟩)] w fun e w' => ∃ a l : Int, e = .returned (.agg #[.int .i64 a, .int .i64 l]) ∧ okP a l = true ∧ Drew w R q n cap p 20 w' := by
  have hR := h.lt
  have HD := (Drew.refl h).alloc (.cells #[.int .i64 0, .int .i64 0] 31)
  have HX : BoxR (w.alloc (.cells #[.int .i64 0, .int .i64 0] 31)) w.heap.size := ⟨by simp, by simp, fz_new _ _ _ _, fz_new _ _ _ _⟩
  have hKR : w.heap.size ≠ R := by omega
  have H0 : Hid (Rdr w R q n cap p) := h
  clear h
  go_enter Try.func68, Try.ntmps68
  have C := pick_more HD 17 (by omega) (by omega) (by omega)
  clear HD
  go_wp2_with (go_at_call 41; refine C.mono ?_; clear C; rintro e W1 ⟨r1, rfl, b1, HD, g1⟩)
  replace HX := HX.grown g1 hKR
  clear g1
  have C := pick_more HD 3 (by omega) (by omega) (by omega)
  clear HD
  go_wp2_with (go_at_call 41; refine C.mono ?_; clear C; rintro e W2 ⟨r2, rfl, b2, HD, g2⟩)

  · replace HX := HX.grown g2 hKR
    have hR2 : R < W2.heap.size := by obtain ⟨hg, _⟩ := HD; have := hg.size; omega
    clear g2
    have HD2 := HD.alloc (.cells #[.int .i64 0, .int .i64 1, .int .i64 2, .int .i64 8, .int .i64 15, .int .i64 16] 3)
    have C := pick_more HD2 6 (by omega) (by omega) (by omega)
    replace HX := HX.alloc (.cells #[.int .i64 0, .int .i64 1, .int .i64 2, .int .i64 8, .int .i64 15, .int .i64 16] 3)
    clear HD HD2
    go_wp2_with (go_at_call 41; refine C.mono ?_; clear C; rintro e W3 ⟨r3, rfl, b3, HD, g3⟩; obtain ⟨l, hl, l1, l2⟩ := tab6 b3; have x3 := tab_cell g3 hR2 hl)
    replace HX := HX.grown g3 hKR
    clear g3 hl x3
    have C := pick_more HD 65536 (by omega) (by omega) (by omega)
    clear HD
    go_wp2_with (go_at_call 41; refine C.mono ?_; clear C; rintro e V1 ⟨s1, rfl, c1, HD, g1⟩)
    replace HX := HX.grown g1 hKR
    clear g1
    have C := pick_more HD 4 (by omega) (by omega) (by omega)
    clear HD
    go_wp2_with (go_at_call 41; refine C.mono ?_; clear C; rintro e V2 ⟨s2, rfl, c2, HD, g2⟩)
    replace HX := HX.grown g2 hKR
    clear g2
    have C := pick_more HD 9 (by omega) (by omega) (by omega)
    clear HD
    go_wp2_with (go_at_call 41; refine C.mono ?_; clear C; rintro e V3 ⟨s3, rfl, c3, HD, g3⟩)
    replace HX := HX.grown g3 hKR
    clear g3
    have C := pick_more HD 16 (by omega) (by omega) (by omega)
    clear HD
    go_wp2_with (go_at_call 41; refine C.mono ?_; clear C; rintro e V4 ⟨s4, rfl, c4, HD, g4⟩)
    replace HX := HX.grown g4 hKR
    clear g4
    have C := pick_more HD 16 (by omega) (by omega) (by omega)
    clear HD
    go_wp2_with (go_at_call 41; refine C.mono ?_; clear C; rintro e V5 ⟨s5, rfl, c5, HD, g5⟩)
    replace HX := HX.grown g5 hKR
    clear g5
    have hR5 : R < V5.heap.size := by obtain ⟨hg, _⟩ := HD; have := hg.size; omega
    have HD5 := HD.alloc (.cells #[.int .i64 (s1 : Int), .int .i64 (256 * (s2 : Int)), .int .i64 (65535 - (s3 : Int)), .int .i64 (s4 : Int), .int .i64 (4656 + (s5 : Int))] 3)
    have C := pick_more HD5 5 (by omega) (by omega) (by omega)
    replace HX := HX.alloc (.cells #[.int .i64 (s1 : Int), .int .i64 (256 * (s2 : Int)), .int .i64 (65535 - (s3 : Int)), .int .i64 (s4 : Int), .int .i64 (4656 + (s5 : Int))] 3)
    clear HD HD5
    go_wp2_with (go_at_call 41; refine C.mono ?_; clear C; rintro e V6 ⟨s6, rfl, c6, HD, g6⟩; obtain ⟨a, ha, a1, a2⟩ := tab5 (a := (s1 : Int)) (b := 256 * (s2 : Int)) (c := 65535 - (s3 : Int)) (d := (s4 : Int)) (e := 4656 + (s5 : Int)) c6 ⟨by omega, by omega⟩ ⟨by omega, by omega⟩ ⟨by omega, by omega⟩ ⟨by omega, by omega⟩ ⟨by omega, by omega⟩; have x6 := tab_cell g6 hR5 ha)
    replace HX := HX.grown g6 hKR
    obtain ⟨k0, k1, k2, k3⟩ := HX
    have hz := sz_bd l l1
    obtain ⟨z, hz'⟩ : ∃ z, z = sz l := ⟨_, rfl⟩
    have hs := fun w => size_any l w l1 (by omega)
    have HO : Hid (okP (a - a % z) l = true) := by rw [hz']; exact first_ok a1 a2 l1 l2
    rw [← hz'] at hz hs
    clear hz' x6 ha g6
    have hz0 : (z == 0) = false := by rw [beq_eq_false_iff_ne]; omega
    have hz1 : ¬ z = 0 := by omega
    have hm1 : 0 ≤ a % z := Int.emod_nonneg _ (by omega)
    have hm2 : a % z < z := Int.emod_lt_of_pos _ (by omega)
    go_wp2_with (go_at_call 49; refine (hs _).mono ?_; clear hs; rintro e w' ⟨rfl, hw⟩; obtain rfl := hw.symm)
    refine bodyPost_ret (v := .agg #[.int .i64 (a - a % z), .int .i64 l]) (by simp [results, Try.results68, go_sem, k0, k1]) rfl ⟨_, _, rfl, HO.out, ?_⟩
    exact drew_set2 H0.out (HD.weak (by omega)) (Nat.le_refl _) _ _ _ _
  · replace HX := HX.grown g2 hKR
    clear g2
    obtain ⟨l, hl, l1, l2⟩ : ∃ l : Int, (r1 : Int) = l ∧ 0 ≤ l ∧ l ≤ 16 := ⟨_, rfl, by omega, by omega⟩
    rw [hl]
    clear hl
    have C := pick_more HD 65536 (by omega) (by omega) (by omega)
    clear HD
    go_wp2_with (go_at_call 41; refine C.mono ?_; clear C; rintro e V1 ⟨s1, rfl, c1, HD, g1⟩)
    replace HX := HX.grown g1 hKR
    clear g1
    have C := pick_more HD 4 (by omega) (by omega) (by omega)
    clear HD
    go_wp2_with (go_at_call 41; refine C.mono ?_; clear C; rintro e V2 ⟨s2, rfl, c2, HD, g2⟩)
    replace HX := HX.grown g2 hKR
    clear g2
    have C := pick_more HD 9 (by omega) (by omega) (by omega)
    clear HD
    go_wp2_with (go_at_call 41; refine C.mono ?_; clear C; rintro e V3 ⟨s3, rfl, c3, HD, g3⟩)
    replace HX := HX.grown g3 hKR
    clear g3
    have C := pick_more HD 16 (by omega) (by omega) (by omega)
    clear HD
    go_wp2_with (go_at_call 41; refine C.mono ?_; clear C; rintro e V4 ⟨s4, rfl, c4, HD, g4⟩)
    replace HX := HX.grown g4 hKR
    clear g4
    have C := pick_more HD 16 (by omega) (by omega) (by omega)
    clear HD
    go_wp2_with (go_at_call 41; refine C.mono ?_; clear C; rintro e V5 ⟨s5, rfl, c5, HD, g5⟩)
    replace HX := HX.grown g5 hKR
    clear g5
    have hR5 : R < V5.heap.size := by obtain ⟨hg, _⟩ := HD; have := hg.size; omega
    have HD5 := HD.alloc (.cells #[.int .i64 (s1 : Int), .int .i64 (256 * (s2 : Int)), .int .i64 (65535 - (s3 : Int)), .int .i64 (s4 : Int), .int .i64 (4656 + (s5 : Int))] 3)
    have C := pick_more HD5 5 (by omega) (by omega) (by omega)
    replace HX := HX.alloc (.cells #[.int .i64 (s1 : Int), .int .i64 (256 * (s2 : Int)), .int .i64 (65535 - (s3 : Int)), .int .i64 (s4 : Int), .int .i64 (4656 + (s5 : Int))] 3)
    clear HD HD5
    go_wp2_with (go_at_call 41; refine C.mono ?_; clear C; rintro e V6 ⟨s6, rfl, c6, HD, g6⟩; obtain ⟨a, ha, a1, a2⟩ := tab5 (a := (s1 : Int)) (b := 256 * (s2 : Int)) (c := 65535 - (s3 : Int)) (d := (s4 : Int)) (e := 4656 + (s5 : Int)) c6 ⟨by omega, by omega⟩ ⟨by omega, by omega⟩ ⟨by omega, by omega⟩ ⟨by omega, by omega⟩ ⟨by omega, by omega⟩; have x6 := tab_cell g6 hR5 ha)
    replace HX := HX.grown g6 hKR
    obtain ⟨k0, k1, k2, k3⟩ := HX
    have hz := sz_bd l l1
    obtain ⟨z, hz'⟩ : ∃ z, z = sz l := ⟨_, rfl⟩
    have hs := fun w => size_any l w l1 (by omega)
    have HO : Hid (okP (a - a % z) l = true) := by rw [hz']; exact first_ok a1 a2 l1 l2
    rw [← hz'] at hz hs
    clear hz' x6 ha g6
    have hz0 : (z == 0) = false := by rw [beq_eq_false_iff_ne]; omega
    have hz1 : ¬ z = 0 := by omega
    have hm1 : 0 ≤ a % z := Int.emod_nonneg _ (by omega)
    have hm2 : a % z < z := Int.emod_lt_of_pos _ (by omega)
    go_wp2_with (go_at_call 49; refine (hs _).mono ?_; clear hs; rintro e w' ⟨rfl, hw⟩; obtain rfl := hw.symm)
    refine bodyPost_ret (v := .agg #[.int .i64 (a - a % z), .int .i64 l]) (by simp [results, Try.results68, go_sem, k0, k1]) rfl ⟨_, _, rfl, HO.out, ?_⟩
    exact drew_set2 H0.out (HD.weak (by omega)) (Nat.le_refl _) _ _ _ _
end Go.Proofs.Ytaoahghfmlegbaa
