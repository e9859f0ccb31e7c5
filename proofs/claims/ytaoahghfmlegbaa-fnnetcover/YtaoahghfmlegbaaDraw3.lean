/- The draws of prefixes, further: l5Spoil, l5Addr. -/
import Derived.Test.YtaoahghfmlegbaaDraw2
import Derived.Deep.RegionHeld3
namespace Go.Proofs.Ytaoahghfmlegbaa
open Go.RowKit Go.Lib

/-- a box of two cells -/
def Bx (W : World) (K : Nat) (x y : Value) : Prop := W.cell? ⟨K, 0, none⟩ = some x ∧ W.cell? ⟨K, 1, none⟩ = some y ∧ W.frozen? ⟨K, 0, none⟩ = false ∧ W.frozen? ⟨K, 1, none⟩ = false
theorem Bx.grown {w W : World} {R K : Nat} {x y : Value} (h : Bx w K x y) (hg : w.grownBy W (some R)) (hK : K ≠ R) : Bx W K x y := ⟨grown_cell hg hK h.1, grown_cell hg hK h.2.1, grown_fz hg hK h.1 h.2.2.1, grown_fz hg hK h.2.1 h.2.2.2⟩
theorem Bx.below {w w' : World} {K : Nat} {x y : Value} (h : Bx w K x y) (hb : Below w.heap.size w w') : Bx w' K x y := by
  have hl := cell_lt h.1
  exact ⟨(hb.cell (p := ⟨K, 0, none⟩) hl).trans h.1, (hb.cell (p := ⟨K, 1, none⟩) hl).trans h.2.1, (hb.frozen (p := ⟨K, 0, none⟩) hl).trans h.2.2.1, (hb.frozen (p := ⟨K, 1, none⟩) hl).trans h.2.2.2⟩
theorem Bx.alloc {w : World} {K : Nat} {x y : Value} (h : Bx w K x y) (o : Obj) : Bx (w.alloc o) K x y := h.below ((Below.refl _ _).more _)
theorem Bx.new (w : World) (x y : Value) (t : TypeId) : Bx (w.alloc (.cells #[x, y] t)) w.heap.size x y := ⟨by simp, by simp, fz_new _ _ _ _, fz_new _ _ _ _⟩
theorem tab4 {r : Nat} {a b c d : Int} (h : (r : Int) < 4) (P : Int → Prop) (ha : P a) (hb : P b) (hc : P c) (hd : P d) : ∃ l : Int, #[Value.int .i64 a, .int .i64 b, .int .i64 c, .int .i64 d][r]? = some (.int .i64 l) ∧ P l := by
  have : r = 0 ∨ r = 1 ∨ r = 2 ∨ r = 3 := by omega
  rcases this with rfl | rfl | rfl | rfl
  · exact ⟨a, rfl, ha⟩
  · exact ⟨b, rfl, hb⟩
  · exact ⟨c, rfl, hc⟩
  · exact ⟨d, rfl, hd⟩
/-- a number far from the ends -/
def Mid (x : Int) : Prop := -4611686018427387904 ≤ x ∧ x ≤ 4611686018427387904

set_option maxRecDepth 100000 in
set_option maxHeartbeats 2000000 in
theorem spoil_any (R : Nat) (q : Option Addr) (n cap : Nat) (p a l : Int) (w : World) (h : Rdr w R q n cap p) (hp : p ≤ 1073741800) (a1 : -1073741824 ≤ a) (a2 : a ≤ 1073741824) (l1 : -1073741824 ≤ l) (l2 : l ≤ 1073741824) :
    Calls Try.prog 69 #[.pointer (some ⟨R, 0, none⟩), .agg #[.int .i64 a, .int .i64 l]] w fun e w' => ∃ b m : Int, e = .returned (.agg #[.int .i64 b, .int .i64 m]) ∧ Mid b ∧ Mid m ∧ Drew w R q n cap p 20 w' := by
  have hR := h.lt
  have HD := ((Drew.refl h).alloc (.cells #[.int .i64 a, .int .i64 l] 31)).alloc (.cells #[.int .i64 0, .int .i64 0] 31)
  have HX := (Bx.new w (.int .i64 a) (.int .i64 l) 31).alloc (.cells #[.int .i64 0, .int .i64 0] 31)
  have HY := Bx.new (w.alloc (.cells #[.int .i64 a, .int .i64 l] 31)) (.int .i64 0) (.int .i64 0) 31
  rw [World.size_alloc] at HY
  have hKR : w.heap.size ≠ R := by omega
  have hKR2 : w.heap.size + 1 ≠ R := by omega
  have H0 : Hid (Rdr w R q n cap p) := h
  have M1 : Hid (Mid a ∧ Mid l ∧ Mid (a + 1) ∧ Mid (l - 1)) := by unfold Hid Mid; omega
  clear h
  go_enter Try.func69, Try.ntmps69
  have C := pick_more HD 4 (by omega) (by omega) (by omega)
  clear HD
  go_wp2_with (go_at_call 41; refine C.mono ?_; clear C; rintro e W1 ⟨r1, rfl, b1, HD, g1⟩; replace HX := HX.grown g1 hKR; replace HY := HY.grown g1 hKR2; clear g1; have hR1 : R < W1.heap.size := (by obtain ⟨hg, _⟩ := HD; have := hg.size; omega); have ⟨x0, x1, x2, x3⟩ := HX; have ⟨y0, y1, y2, y3⟩ := HY)
  · have HD2 := HD.alloc (.cells #[.int .i64 (-1), .int .i64 17, .int .i64 16, .int .i64 0] 3)
    have C := pick_more HD2 4 (by omega) (by omega) (by omega)
    replace HX := HX.alloc (.cells #[.int .i64 (-1), .int .i64 17, .int .i64 16, .int .i64 0] 3)
    replace HY := HY.alloc (.cells #[.int .i64 (-1), .int .i64 17, .int .i64 16, .int .i64 0] 3)
    clear HD HD2 x0 x1 x2 x3 y0 y1 y2 y3
    go_wp2_with (go_at_call 41; refine C.mono ?_; clear C; rintro e W2 ⟨r2, rfl, b2, HD, g2⟩; replace HX := HX.grown g2 hKR; replace HY := HY.grown g2 hKR2; obtain ⟨t, ht, mt⟩ := tab4 (a := -1) (b := 17) (c := 16) (d := 0) b2 Mid (by unfold Mid; omega) (by unfold Mid; omega) (by unfold Mid; omega) (by unfold Mid; omega); have x6 := tab_cell g2 hR1 ht; clear g2; obtain ⟨x0, x1, x2, x3⟩ := HX; obtain ⟨y0, y1, y2, y3⟩ := HY)
    refine bodyPost_ret (v := .agg #[.int .i64 a, .int .i64 t]) (by simp [results, Try.results69, go_sem, y0, y1]) rfl ⟨_, _, rfl, M1.out.1, mt, ?_⟩
    repeat (refine drew_set H0.out ?_ (by omega) _)
    exact HD.weak (by omega)
  · refine bodyPost_ret (v := .agg #[.int .i64 (a + 1), .int .i64 l]) (by simp [results, Try.results69, go_sem, y0, y1]) rfl ⟨_, _, rfl, M1.out.2.2.1, M1.out.2.1, ?_⟩
    repeat (refine drew_set H0.out ?_ (by omega) _)
    exact HD.weak (by omega)
  · have HD2 := HD.alloc (.cells #[.int .i64 (-1), .int .i64 65536, .int .i64 (-65536), .int .i64 1099511627776] 3)
    have C := pick_more HD2 4 (by omega) (by omega) (by omega)
    replace HX := HX.alloc (.cells #[.int .i64 (-1), .int .i64 65536, .int .i64 (-65536), .int .i64 1099511627776] 3)
    replace HY := HY.alloc (.cells #[.int .i64 (-1), .int .i64 65536, .int .i64 (-65536), .int .i64 1099511627776] 3)
    clear HD HD2 x0 x1 x2 x3 y0 y1 y2 y3
    go_wp2_with (go_at_call 41; refine C.mono ?_; clear C; rintro e W2 ⟨r2, rfl, b2, HD, g2⟩; replace HX := HX.grown g2 hKR; replace HY := HY.grown g2 hKR2; obtain ⟨t, ht, mt⟩ := tab4 (a := -1) (b := 65536) (c := -65536) (d := 1099511627776) b2 Mid (by unfold Mid; omega) (by unfold Mid; omega) (by unfold Mid; omega) (by unfold Mid; omega); have x6 := tab_cell g2 hR1 ht; clear g2; obtain ⟨x0, x1, x2, x3⟩ := HX; obtain ⟨y0, y1, y2, y3⟩ := HY)
    refine bodyPost_ret (v := .agg #[.int .i64 t, .int .i64 l]) (by simp [results, Try.results69, go_sem, y0, y1]) rfl ⟨_, _, rfl, mt, M1.out.2.1, ?_⟩
    repeat (refine drew_set H0.out ?_ (by omega) _)
    exact HD.weak (by omega)
  · refine bodyPost_ret (v := .agg #[.int .i64 a, .int .i64 (l - 1)]) (by simp [results, Try.results69, go_sem, y0, y1]) rfl ⟨_, _, rfl, M1.out.1, M1.out.2.2.2, ?_⟩
    repeat (refine drew_set H0.out ?_ (by omega) _)
    exact HD.weak (by omega)

theorem tab5m {r : Nat} {a b c d e : Int} (h : (r : Int) < 5) (P : Int → Prop) (ha : P a) (hb : P b) (hc : P c) (hd : P d) (he : P e) :
    ∃ l : Int, #[Value.int .i64 a, .int .i64 b, .int .i64 c, .int .i64 d, .int .i64 e][r]? = some (.int .i64 l) ∧ P l := by
  have : r = 0 ∨ r = 1 ∨ r = 2 ∨ r = 3 ∨ r = 4 := by omega
  rcases this with rfl | rfl | rfl | rfl | rfl
  · exact ⟨a, rfl, ha⟩
  · exact ⟨b, rfl, hb⟩
  · exact ⟨c, rfl, hc⟩
  · exact ⟨d, rfl, hd⟩
  · exact ⟨e, rfl, he⟩
theorem Drew.drew {w W : World} {R n cap : Nat} {q : Option Addr} {p c : Int} (h : Drew w R q n cap p c W) : Drew w R q n cap p c W.drew := h.below (Below.refl _ _).drew
theorem wsum {a t : Int} (a1 : 0 ≤ a) (a2 : a ≤ 65535) (t1 : -1 ≤ t) (t2 : t ≤ 65536) : IntKind.i64.wrap (a + t) = a + t := by rw [IntKind.wrap_i64]; omega
/-- two cells that nothing turns -/
theorem two_grown {w W : World} {R K : Nat} {x y : Value} (hg : w.grownBy W (some R)) (hK : K ≠ R) (h : w.cell? ⟨K, 0, none⟩ = some x ∧ w.cell? ⟨K, 1, none⟩ = some y) : W.cell? ⟨K, 0, none⟩ = some x ∧ W.cell? ⟨K, 1, none⟩ = some y := ⟨grown_cell hg hK h.1, grown_cell hg hK h.2⟩
theorem two_alloc {w : World} {K : Nat} {x y : Value} (h : w.cell? ⟨K, 0, none⟩ = some x ∧ w.cell? ⟨K, 1, none⟩ = some y) (o : Obj) : (w.alloc o).cell? ⟨K, 0, none⟩ = some x ∧ (w.alloc o).cell? ⟨K, 1, none⟩ = some y :=
  ⟨(World.cell?_alloc_lt _ _ _ (cell_lt h.1)).trans h.1, (World.cell?_alloc_lt _ _ _ (cell_lt h.1)).trans h.2⟩

set_option maxRecDepth 100000 in
set_option maxHeartbeats 2000000 in
theorem addr_any (R : Nat) (q : Option Addr) (n cap : Nat) (p a l : Int) (w : World) (h : Rdr w R q n cap p) (hp : p ≤ 1073741800) :
    Calls Try.prog 50 #[.pointer (some ⟨R, 0, none⟩), .agg #[.int .i64 a, .int .i64 l]] w fun e w' => ∃ x : Int, e = .returned (.int .i64 x) ∧ Mid x ∧ Drew w R q n cap p 20 w' := by
  have hR := h.lt
  have HD := (Drew.refl h).alloc (.cells #[.int .i64 a, .int .i64 l] 31)
  have HX : (w.alloc (.cells #[.int .i64 a, .int .i64 l] 31)).cell? ⟨w.heap.size, 0, none⟩ = some (.int .i64 a) ∧ (w.alloc (.cells #[.int .i64 a, .int .i64 l] 31)).cell? ⟨w.heap.size, 1, none⟩ = some (.int .i64 l) := ⟨by simp, by simp⟩
  have hKR : w.heap.size ≠ R := by omega
  have HX : Hid _ := HX
  clear h
  cases ho : okP a l with
  | false =>
    have hn := fun w => ok_any a l w
    simp only [ho] at hn
    go_enter Try.func50, Try.ntmps50
    go_wp2_with (go_at_call 16; refine (hn _).mono ?_; clear hn; rintro e W1 ⟨rfl, hb⟩; replace HD := HD.below hb; clear hb)
    have C := pick_more HD 65536 (by omega) (by omega) (by omega)
    clear HD
    go_wp2_with (go_at_call 41; refine C.mono ?_; clear C; rintro e V1 ⟨s1, rfl, c1, HD, g1⟩; clear g1)
    have hR1 : R < V1.heap.size := by obtain ⟨hg, _⟩ := HD; have := hg.size; omega
    have HD2 := HD.alloc (.cells #[.int .i64 (s1 : Int), .int .i64 (-1), .int .i64 65536, .int .i64 0, .int .i64 65535] 3)
    have C := pick_more HD2 5 (by omega) (by omega) (by omega)
    clear HD HD2
    go_wp2_with (go_at_call 41; refine C.mono ?_; clear C; rintro e V2 ⟨s2, rfl, c2, HD, g2⟩; obtain ⟨t, ht, mt⟩ := tab5m (a := (s1 : Int)) (b := -1) (c := 65536) (d := 0) (e := 65535) c2 Mid (by unfold Mid; omega) (by unfold Mid; omega) (by unfold Mid; omega) (by unfold Mid; omega) (by unfold Mid; omega); have x6 := tab_cell g2 hR1 ht; clear g2)
    go_ret
    exact ⟨_, rfl, mt, HD.weak (by omega)⟩
  | true =>
    obtain ⟨l1, l2, a1, a2, _⟩ := okP_of ho
    have hn := fun w => ok_any a l w
    simp only [ho] at hn
    go_enter Try.func50, Try.ntmps50
    go_wp2_with (go_at_call 16; refine (hn _).mono ?_; clear hn; rintro e W0 ⟨rfl, hb⟩; replace HD := HD.below hb; have HX := (show _ ∧ _ from ⟨(hb.cell (p := ⟨w.heap.size, 0, none⟩) (by simp)).trans HX.out.1, (hb.cell (p := ⟨w.heap.size, 1, none⟩) (by simp)).trans HX.out.2⟩); have HX : Hid _ := HX; clear hb)
    have C := pick_more HD 4 (by omega) (by omega) (by omega)
    clear HD
    go_wp2_with (go_at_call 41; refine C.mono ?_; clear C; rintro e W1 ⟨r1, rfl, b1, HD, g1⟩; have HX := two_grown g1 hKR HX.out; have HX : Hid _ := HX; clear g1)
    · have C := pick_more HD 65536 (by omega) (by omega) (by omega)
      clear HD
      go_wp2_with (go_at_call 41; refine C.mono ?_; clear C; rintro e V1 ⟨s1, rfl, c1, HD, g1⟩; clear g1)
      have hR1 : R < V1.heap.size := by obtain ⟨hg, _⟩ := HD; have := hg.size; omega
      have HD2 := HD.alloc (.cells #[.int .i64 (s1 : Int), .int .i64 (-1), .int .i64 65536, .int .i64 0, .int .i64 65535] 3)
      have C := pick_more HD2 5 (by omega) (by omega) (by omega)
      clear HD HD2
      go_wp2_with (go_at_call 41; refine C.mono ?_; clear C; rintro e V2 ⟨s2, rfl, c2, HD, g2⟩; obtain ⟨t, ht, mt⟩ := tab5m (a := (s1 : Int)) (b := -1) (c := 65536) (d := 0) (e := 65535) c2 Mid (by unfold Mid; omega) (by unfold Mid; omega) (by unfold Mid; omega) (by unfold Mid; omega) (by unfold Mid; omega); have x6 := tab_cell g2 hR1 ht; clear g2)
      go_ret
      exact ⟨_, rfl, mt, HD.weak (by omega)⟩
    · have HS0 : W1.drew.cell? ⟨w.heap.size, 0, none⟩ = some (.int .i64 a) ∧ W1.drew.cell? ⟨w.heap.size, 1, none⟩ = some (.int .i64 l) := HX.out
      have HDa := HD.drew
      have hR1 : R < W1.heap.size := by obtain ⟨hg, _⟩ := HD; have := hg.size; omega
      have hz := sz_bd l l1
      obtain ⟨z, hz'⟩ : ∃ z, z = sz l := ⟨_, rfl⟩
      have hs := fun w => size_any l w l1 (by omega)
      rw [← hz'] at hz hs
      have wz : IntKind.i64.wrap (z - 1) = z - 1 := by rw [IntKind.wrap_i64]; omega
      clear hz' HD HX
      refine wp_region_held_drew (S := fun w' => w'.cell? ⟨w.heap.size, 0, none⟩ = some (.int .i64 a) ∧ w'.cell? ⟨w.heap.size, 1, none⟩ = some (.int .i64 l)) (by kernel_rfl) HS0 (fun hHeld => ?_)
      refine wpAnyH_take (i := 0) (oi := ⟨_, _, _, _, _, _⟩) (v := ?_) rfl (by kernel_rfl) (by kernel_rfl) (by kernel_rfl) (fun _ _ _ h => h) (Or.inl ⟨by rfl, ?_⟩) (by assumption) ?_
      rotate_left
      · (intro w hSw; (try dsimp only at hSw); go_simp; try with_reducible rfl)
      simp only [Act.put, List.setIfInBounds_toArray, List.set_cons_zero, List.set_cons_succ]
      refine wpAnyH_take (i := 1) (oi := ⟨_, _, _, _, _, _⟩) (v := ?_) rfl (by kernel_rfl) (by kernel_rfl) (by kernel_rfl) (fun _ _ _ h => h) (Or.inl ⟨by rfl, ?_⟩) (by assumption) ?_
      rotate_left
      · (intro w hSw; (try dsimp only at hSw); go_simp; try with_reducible rfl)
      simp only [Act.put, List.setIfInBounds_toArray, List.set_cons_zero, List.set_cons_succ]
      refine wpAnyH_take (i := 2) (oi := ⟨_, _, _, _, _, _⟩) (v := ?_) rfl (by kernel_rfl) (by kernel_rfl) (by kernel_rfl) (fun _ _ _ h => h) (Or.inl ⟨by rfl, ?_⟩) (by assumption) ?_
      rotate_left
      · (intro w hSw; (try dsimp only at hSw); go_simp; try with_reducible rfl)
      simp only [Act.put, List.setIfInBounds_toArray, List.set_cons_zero, List.set_cons_succ]
      refine wpAnyH_take (i := 3) (oi := ⟨_, _, _, _, _, _⟩) (v := ?_) rfl (by kernel_rfl) (by kernel_rfl) (by kernel_rfl) (fun _ _ _ h => h) (Or.inl ⟨by rfl, ?_⟩) (by assumption) ?_
      rotate_left
      · (intro w hSw; (try dsimp only at hSw); go_simp; try with_reducible rfl)
      simp only [Act.put, List.setIfInBounds_toArray, List.set_cons_zero, List.set_cons_succ]
      refine wpAnyH_take (i := 5) (oi := ⟨_, _, _, _, _, _⟩) (v := ?_) rfl (by kernel_rfl) (by kernel_rfl) (by kernel_rfl) (fun _ _ _ h => h) (Or.inl ⟨by rfl, ?_⟩) (by assumption) ?_
      rotate_left
      · (intro w hSw; (try dsimp only at hSw); go_simp; try with_reducible rfl)
      simp only [Act.put, List.setIfInBounds_toArray, List.set_cons_zero, List.set_cons_succ]
      refine wpAnyH_take (i := 6) (oi := ⟨_, _, _, _, _, _⟩) (v := ?_) rfl (by kernel_rfl) (by kernel_rfl) (by kernel_rfl) (fun _ _ _ h => h) (Or.inl ⟨by rfl, ?_⟩) (by assumption) ?_
      rotate_left
      · (intro w hSw; (try dsimp only at hSw); go_simp; try with_reducible rfl)
      simp only [Act.put, List.setIfInBounds_toArray, List.set_cons_zero, List.set_cons_succ]
      refine wpAnyH_take (i := 9) (oi := ⟨_, _, _, _, _, _⟩) (v := ?_) rfl (by kernel_rfl) (by kernel_rfl) (by kernel_rfl) (fun _ _ _ h => h) (Or.inl ⟨by rfl, ?_⟩) (by assumption) ?_
      rotate_left
      · (intro w hSw; (try dsimp only at hSw); go_simp; try with_reducible rfl)
      simp only [Act.put, List.setIfInBounds_toArray, List.set_cons_zero, List.set_cons_succ]
      refine wpAnyH_take (i := 10) (oi := ⟨_, _, _, _, _, _⟩) (v := ?_) rfl (by kernel_rfl) (by kernel_rfl) (by kernel_rfl) (fun _ _ _ h => h) (Or.inl ⟨by rfl, ?_⟩) (by assumption) ?_
      rotate_left
      · (intro w hSw; (try dsimp only at hSw); go_simp; try with_reducible rfl)
      simp only [Act.put, List.setIfInBounds_toArray, List.set_cons_zero, List.set_cons_succ]
      refine wpAnyH_take (i := 11) (oi := ⟨_, _, _, _, _, _⟩) (v := ?_) rfl (by kernel_rfl) (by kernel_rfl) (by kernel_rfl) (fun _ _ _ h => h) (Or.inl ⟨by rfl, ?_⟩) (by assumption) ?_
      rotate_left
      · (intro w hSw; (try dsimp only at hSw); go_simp; try with_reducible rfl)
      simp only [Act.put, List.setIfInBounds_toArray, List.set_cons_zero, List.set_cons_succ]
      refine wpAnyH_take (i := 15) (oi := ⟨_, _, _, _, _, _⟩) (v := ?_) rfl (by kernel_rfl) (by kernel_rfl) (by kernel_rfl) (fun _ _ _ h => h) (Or.inl ⟨by rfl, ?_⟩) (by assumption) ?_
      rotate_left
      · (intro w hSw; (try dsimp only at hSw); go_simp; try with_reducible rfl)
      simp only [Act.put, List.setIfInBounds_toArray, List.set_cons_zero, List.set_cons_succ]
      refine wpAnyH_ready (rs := [4]) (by kernel_rfl) (by simp) (AllReadyH.cons (o := ⟨_, _, _, _, _, _⟩) rfl (fun K hK => ?_) AllReadyH.nil)
      go_simp
      go_at_call 49
      refine (hs _).mono ?_
      rintro e wx ⟨rfl, hw⟩
      obtain rfl := hw.symm
      go_wp2_with fail
      refine hK.out _ _ hHeld (fun hHeld => ?_)
      clear hK K
      try simp only [Act.put, List.setIfInBounds_toArray, List.set_cons_zero, List.set_cons_succ]
      refine wpAnyH_ready (rs := [7]) (by kernel_rfl) (by simp) (AllReadyH.cons (o := ⟨_, _, _, _, _, _⟩) rfl (fun K hK => ?_) AllReadyH.nil)
      go_simp
      go_at_call 49
      refine (hs _).mono ?_
      rintro e wx ⟨rfl, hw⟩
      obtain rfl := hw.symm
      go_wp2_with fail
      refine hK.out _ _ hHeld (fun hHeld => ?_)
      clear hK K
      try simp only [Act.put, List.setIfInBounds_toArray, List.set_cons_zero, List.set_cons_succ]
      refine wpAnyH_take (i := 8) (oi := ⟨_, _, _, _, _, _⟩) (v := ?_) rfl (by kernel_rfl) (by kernel_rfl) (by kernel_rfl) (fun _ _ _ h => h) (Or.inl ⟨by rfl, ?_⟩) (by assumption) ?_
      rotate_left
      · (intro w hSw; (try dsimp only at hSw); go_simp; try with_reducible rfl)
      simp only [Act.put, List.setIfInBounds_toArray, List.set_cons_zero, List.set_cons_succ]
      refine wpAnyH_ready (rs := [12]) (by kernel_rfl) (by simp) (AllReadyH.cons (o := ⟨_, _, _, _, _, _⟩) rfl (fun K hK => ?_) AllReadyH.nil)
      go_simp
      go_at_call 49
      refine (hs _).mono ?_
      rintro e wx ⟨rfl, hw⟩
      obtain rfl := hw.symm
      go_wp2_with fail
      refine hK.out _ _ hHeld (fun hHeld => ?_)
      clear hK K
      try simp only [Act.put, List.setIfInBounds_toArray, List.set_cons_zero, List.set_cons_succ]
      refine wpAnyH_ready (rs := [13]) (by kernel_rfl) (by simp) (AllReadyH.cons (o := ⟨_, _, _, _, _, _⟩) rfl (fun K hK => ?_) AllReadyH.nil)
      go_simp
      go_at_call 41
      refine (pick_more HDa z (by omega) (by omega) (by omega)).mono ?_
      clear HDa
      rintro e V1 ⟨s1, rfl, c1, HDb, g1⟩
      have HS1 := two_grown g1 hKR HS0
      have hR2 : R < V1.heap.size := by obtain ⟨hg, _⟩ := HDb; have := hg.size; omega
      go_wp2_with fail
      refine hK.out _ _ HS1 (fun hHeld => ?_)
      clear hK K g1 hHeld
      try simp only [Act.put, List.setIfInBounds_toArray, List.set_cons_zero, List.set_cons_succ]
      have TB : ∀ s2 : Nat, (s2 : Int) < 5 → ∃ t : Int, #[Value.int .i64 0, .int .i64 (-1), .int .i64 z, .int .i64 (z - 1), .int .i64 (s1 : Int)][s2]? = some (.int .i64 t) ∧ (-1 ≤ t ∧ t ≤ 65536) := fun s2 h => tab5m h (fun t => -1 ≤ t ∧ t ≤ 65536) (by omega) (by omega) (by omega) (by omega) (by omega)
      have TB : Hid _ := TB
      refine wpAnyH_ready (rs := [14, 16]) (by kernel_rfl) (by simp) (AllReadyH.cons (o := ⟨_, _, _, _, _, _⟩) rfl (fun K hK => ?_) (AllReadyH.cons (o := ⟨_, _, _, _, _, _⟩) rfl (fun K hK => ?_) AllReadyH.nil))
      · go_simp
        have HS1a := two_alloc HS1 (.cells #[.int .i64 0, .int .i64 (-1), .int .i64 z, .int .i64 (z - 1), .int .i64 (s1 : Int)] 3)
        refine hK.out _ _ HS1a (fun hHeld => ?_)
        clear hK K
        try simp only [Act.put, List.setIfInBounds_toArray, List.set_cons_zero, List.set_cons_succ]
        refine wpAnyH_ready (rs := [16]) (by kernel_rfl) (by simp) (AllReadyH.cons (o := ⟨_, _, _, _, _, _⟩) rfl (fun K hK => ?_) AllReadyH.nil)
        go_simp
        go_at_call 41
        refine (pick_more (HDb.alloc (.cells #[.int .i64 0, .int .i64 (-1), .int .i64 z, .int .i64 (z - 1), .int .i64 (s1 : Int)] 3)) 5 (by omega) (by omega) (by omega)).mono ?_
        rintro e V2 ⟨s2, rfl, c2, HD, g2⟩
        have HS2 := two_grown g2 hKR HS1a
        obtain ⟨t, ht, mt⟩ := TB.out s2 c2
        have x6 := tab_cell g2 hR2 ht
        clear g2 HDb HS1a hHeld ht
        go_wp2_with fail
        refine hK.out _ _ HS2 (fun hHeld => ?_)
        clear hK K
        try simp only [Act.put, List.setIfInBounds_toArray, List.set_cons_zero, List.set_cons_succ]
        refine wpAnyH_take (i := 17) (oi := ⟨_, _, _, _, _, _⟩) (v := ?_) rfl (by kernel_rfl) (by kernel_rfl) (by kernel_rfl) (fun _ _ _ h => h) (Or.inl ⟨by rfl, ?_⟩) (by assumption) ?_
        rotate_left
        · (intro w hSw; (try dsimp only at hSw); go_simp; try with_reducible rfl)
        simp only [Act.put, List.setIfInBounds_toArray, List.set_cons_zero, List.set_cons_succ]
        refine wpAnyH_ready (rs := [18]) (by kernel_rfl) (by simp) (AllReadyH.cons (o := ⟨_, _, _, _, _, _⟩) rfl (fun K hK => ?_) AllReadyH.nil)
        go_simp
        refine hK.out _ _ HS2 (fun hHeld => ?_)
        clear hK K
        try simp only [Act.put, List.setIfInBounds_toArray, List.set_cons_zero, List.set_cons_succ]
        refine wpAnyH_take (i := 19) (oi := ⟨_, _, _, _, _, _⟩) (v := ?_) rfl (by kernel_rfl) (by kernel_rfl) (by kernel_rfl) (fun _ _ _ h => h) (Or.inl ⟨by rfl, ?_⟩) (by assumption) ?_
        rotate_left
        · (intro w hSw; (try dsimp only at hSw); go_simp; try with_reducible rfl)
        simp only [Act.put, List.setIfInBounds_toArray, List.set_cons_zero, List.set_cons_succ]
        refine wpAnyH_take (i := 20) (oi := ⟨_, _, _, _, _, _⟩) (v := ?_) rfl (by kernel_rfl) (by kernel_rfl) (by kernel_rfl) (fun _ _ _ h => h) (Or.inl ⟨by rfl, ?_⟩) (by assumption) ?_
        rotate_left
        · (intro w hSw; (try dsimp only at hSw); go_simp; try with_reducible rfl)
        simp only [Act.put, List.setIfInBounds_toArray, List.set_cons_zero, List.set_cons_succ]
        refine wpAnyH_done (by kernel_rfl) ?_ _
        go_wp2
        go_ret
        exact ⟨_, rfl, by unfold Mid; rw [wsum a1 a2 mt.1 mt.2]; omega, HD.weak (by omega)⟩
      · go_simp
        go_at_call 41
        refine (pick_more HDb 5 (by omega) (by omega) (by omega)).mono ?_
        rintro e V2 ⟨s2, rfl, c2, HD, g2⟩
        have HS2 := two_grown g2 hKR HS1
        obtain ⟨t, ht, mt⟩ := TB.out s2 c2
        clear g2 HDb
        go_wp2_with fail
        refine hK.out _ _ HS2 (fun hHeld => ?_)
        clear hK K hHeld
        try simp only [Act.put, List.setIfInBounds_toArray, List.set_cons_zero, List.set_cons_succ]
        refine wpAnyH_ready (rs := [14]) (by kernel_rfl) (by simp) (AllReadyH.cons (o := ⟨_, _, _, _, _, _⟩) rfl (fun K hK => ?_) AllReadyH.nil)
        go_simp
        have x6 : (V2.alloc (.cells #[.int .i64 0, .int .i64 (-1), .int .i64 z, .int .i64 (z - 1), .int .i64 (s1 : Int)] 3)).cell? ⟨V2.heap.size, s2, none⟩ = some (.int .i64 t) := by rw [World.cell?_alloc_new]; exact ht
        replace HS2 := two_alloc HS2 (.cells #[.int .i64 0, .int .i64 (-1), .int .i64 z, .int .i64 (z - 1), .int .i64 (s1 : Int)] 3)
        replace HD := HD.alloc (.cells #[.int .i64 0, .int .i64 (-1), .int .i64 z, .int .i64 (z - 1), .int .i64 (s1 : Int)] 3)
        clear ht
        refine hK.out _ _ HS2 (fun hHeld => ?_)
        clear hK K
        try simp only [Act.put, List.setIfInBounds_toArray, List.set_cons_zero, List.set_cons_succ]
        refine wpAnyH_take (i := 17) (oi := ⟨_, _, _, _, _, _⟩) (v := ?_) rfl (by kernel_rfl) (by kernel_rfl) (by kernel_rfl) (fun _ _ _ h => h) (Or.inl ⟨by rfl, ?_⟩) (by assumption) ?_
        rotate_left
        · (intro w hSw; (try dsimp only at hSw); go_simp; try with_reducible rfl)
        simp only [Act.put, List.setIfInBounds_toArray, List.set_cons_zero, List.set_cons_succ]
        refine wpAnyH_ready (rs := [18]) (by kernel_rfl) (by simp) (AllReadyH.cons (o := ⟨_, _, _, _, _, _⟩) rfl (fun K hK => ?_) AllReadyH.nil)
        go_simp
        refine hK.out _ _ HS2 (fun hHeld => ?_)
        clear hK K
        try simp only [Act.put, List.setIfInBounds_toArray, List.set_cons_zero, List.set_cons_succ]
        refine wpAnyH_take (i := 19) (oi := ⟨_, _, _, _, _, _⟩) (v := ?_) rfl (by kernel_rfl) (by kernel_rfl) (by kernel_rfl) (fun _ _ _ h => h) (Or.inl ⟨by rfl, ?_⟩) (by assumption) ?_
        rotate_left
        · (intro w hSw; (try dsimp only at hSw); go_simp; try with_reducible rfl)
        simp only [Act.put, List.setIfInBounds_toArray, List.set_cons_zero, List.set_cons_succ]
        refine wpAnyH_take (i := 20) (oi := ⟨_, _, _, _, _, _⟩) (v := ?_) rfl (by kernel_rfl) (by kernel_rfl) (by kernel_rfl) (fun _ _ _ h => h) (Or.inl ⟨by rfl, ?_⟩) (by assumption) ?_
        rotate_left
        · (intro w hSw; (try dsimp only at hSw); go_simp; try with_reducible rfl)
        simp only [Act.put, List.setIfInBounds_toArray, List.set_cons_zero, List.set_cons_succ]
        refine wpAnyH_done (by kernel_rfl) ?_ _
        go_wp2
        go_ret
        exact ⟨_, rfl, by unfold Mid; rw [wsum a1 a2 mt.1 mt.2]; omega, HD.weak (by omega)⟩
end Go.Proofs.Ytaoahghfmlegbaa
