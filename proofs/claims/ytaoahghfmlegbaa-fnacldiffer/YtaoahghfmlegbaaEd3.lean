/- The program's map of edges: putRule. -/
import Derived.Test.YtaoahghfmlegbaaEd2
namespace Go.Proofs.Ytaoahghfmlegbaa
open Go.RowKit Go.Lib Go.Maps

/-- the edges of a rule put -/
def ruleE (E : List (Int × Int)) (r : Ru) : List (Int × Int) :=
  let E4 := addE (addE (addE (addE E 0 r.2.1.1) 0 (r.2.1.1 + sz r.2.1.2)) 1 r.2.2.1.1) 1 (r.2.2.1.1 + sz r.2.2.1.2)
  if r.2.2.2 = 0 then E4 else addE (addE E4 2 r.2.2.2) 2 (r.2.2.2 + 1)
theorem wadd_k {k : Int} (h1 : 0 ≤ k) (h2 : k ≤ 7) : IntKind.i64.wrap (k + 1) = k + 1 := by rw [IntKind.wrap_i64]; omega
theorem wadd_z {a z : Int} (h1 : 0 ≤ a) (h2 : a ≤ 65535) (h3 : 1 ≤ z) (h4 : z ≤ 65536) : IntKind.i64.wrap (a + z) = a + z := by rw [IntKind.wrap_i64]; omega

set_option maxRecDepth 100000 in
set_option maxHeartbeats 2000000 in
theorem rule_any (mb n : Nat) (E : List (Int × Int)) (q : Bool) (a l c m k : Int) (w : World) (hm : EdM w mb n E) (hn : n ≤ 900) (hok : okR (q, (a, l), (c, m), k) = true) :
    Calls Try.prog 89 #[.map (some mb), ruV (q, (a, l), (c, m), k)] w fun e w' => e = .returned (.tuple #[]) ∧ EdM w' mb (n + 6) (ruleE E (q, (a, l), (c, m), k)) ∧ w.grownBy w' (some mb) := by
  obtain ⟨o1, o2, k0, k7⟩ := okR_of hok
  obtain ⟨la, lb, aa, ab, _⟩ := okP_of o1
  obtain ⟨ma, mb', ca, cb, _⟩ := okP_of o2
  simp only at la lb aa ab ma mb' ca cb k0 k7
  have hzl := sz_bd l la
  have hzm := sz_bd m ma
  have HR : Hid (ruleE E (q, (a, l), (c, m), k) = if k = 0 then addE (addE (addE (addE E 0 a) 0 (a + sz l)) 1 c) 1 (c + sz m) else addE (addE (addE (addE (addE (addE E 0 a) 0 (a + sz l)) 1 c) 1 (c + sz m)) 2 k) 2 (k + 1)) := rfl
  clear o1 o2 hok
  have hmw := hm.lt
  have hXb : w.heap.size ≠ mb := by omega
  have m0 := hm.below ((Below.refl w.heap.size w).more (.cells #[.bool q, .int .i64 a, .int .i64 l, .int .i64 c, .int .i64 m, .int .i64 k] 48))
  have hbox : ∀ W, (w.alloc (.cells #[.bool q, .int .i64 a, .int .i64 l, .int .i64 c, .int .i64 m, .int .i64 k] 48)).grownBy W (some mb) → W.cell? ⟨w.heap.size, 1, none⟩ = some (.int .i64 a) ∧ W.cell? ⟨w.heap.size, 2, none⟩ = some (.int .i64 l) ∧ W.cell? ⟨w.heap.size, 3, none⟩ = some (.int .i64 c) ∧ W.cell? ⟨w.heap.size, 4, none⟩ = some (.int .i64 m) ∧ W.cell? ⟨w.heap.size, 5, none⟩ = some (.int .i64 k) := fun W h => by
    have e : ∀ j, W.cell? ⟨w.heap.size, j, none⟩ = (w.alloc (.cells #[.bool q, .int .i64 a, .int .i64 l, .int .i64 c, .int .i64 m, .int .i64 k] 48)).cell? ⟨w.heap.size, j, none⟩ := fun j => h.cell_far ⟨w.heap.size, j, none⟩ (by simp) (by simpa using hXb)
    rw [e, e, e, e, e]
    simp
  have hG : ∀ W, (w.alloc (.cells #[.bool q, .int .i64 a, .int .i64 l, .int .i64 c, .int .i64 m, .int .i64 k] 48)).grownBy W (some mb) → w.grownBy W (some mb) := fun W h => (World.grownBy_alloc _ _ _).trans h
  have hwa := fun z => wadd_z (a := a) (z := z) aa ab
  have hwc := fun z => wadd_z (a := c) (z := z) ca cb
  have hwk := wadd_k k0 k7
  obtain ⟨za, hza⟩ : ∃ z, sz l = z := ⟨_, rfl⟩
  obtain ⟨zc, hzc⟩ : ∃ z, sz m = z := ⟨_, rfl⟩
  have hsa := fun W => isz_any a l W la lb
  have hsc := fun W => isz_any c m W ma mb'
  rw [hza] at hzl
  rw [hzc] at hzm
  simp only [hza, hzc] at HR hsa hsc
  replace hwa := hwa za hzl.1 hzl.2
  replace hwc := hwc zc hzm.1 hzm.2
  clear hza hzc
  have hz1 := hzl.1
  have hz2 := hzl.2
  have hz3 := hzm.1
  have hz4 := hzm.2
  clear hzl hzm
  have G0 : (w.alloc (.cells #[.bool q, .int .i64 a, .int .i64 l, .int .i64 c, .int .i64 m, .int .i64 k] 48)).grownBy (w.alloc (.cells #[.bool q, .int .i64 a, .int .i64 l, .int .i64 c, .int .i64 m, .int .i64 k] 48)) (some mb) := grown_refl _ _
  go_enter Try.func89, Try.ntmps89
  go_wp2_with (go_at_call 88; generalize hV : w.alloc (.cells #[.bool q, .int .i64 a, .int .i64 l, .int .i64 c, .int .i64 m, .int .i64 k] 48) = V at *; generalize w.heap.size = X at *; refine (putE_any mb n E 0 a _ m0 (by omega) (i64_of (by omega) (by omega)) (i64_of (by omega) (by omega))).mono ?_; rintro e W1 ⟨rfl, m1, G1⟩)
  have s2 : ∀ w', V.grownBy w' (some mb) → (fun w' => w'.cell? ⟨X, 1, none⟩ = some (.int .i64 a) ∧ w'.cell? ⟨X, 2, none⟩ = some (.int .i64 l)) w' := fun w' h => ⟨(hbox w' h).1, (hbox w' h).2.1⟩
  refine wp_region_held_drew (S := fun w' => w'.cell? ⟨X, 1, none⟩ = some (.int .i64 a) ∧ w'.cell? ⟨X, 2, none⟩ = some (.int .i64 l)) (by kernel_rfl) (s2 _ (G1.trans (grown_drewB _ _))) (fun hHeld => ?_)
  refine wpAnyH_take (i := 0) (oi := ⟨_, _, _, _, _, _⟩) (v := ?_) rfl (by kernel_rfl) (by kernel_rfl) (by kernel_rfl) (fun _ _ _ h => h) (Or.inl ⟨by rfl, ?_⟩) (by assumption) ?_
  rotate_left
  · (intro w hSw; (try dsimp only at hSw); go_simp; try with_reducible rfl)
  simp only [Act.put, List.setIfInBounds_toArray, List.set_cons_zero, List.set_cons_succ]
  refine wpAnyH_take (i := 1) (oi := ⟨_, _, _, _, _, _⟩) (v := ?_) rfl (by kernel_rfl) (by kernel_rfl) (by kernel_rfl) (fun _ _ _ h => h) (Or.inl ⟨by rfl, ?_⟩) (by assumption) ?_
  rotate_left
  · (intro w hSw; (try dsimp only at hSw); go_simp; try with_reducible rfl)
  simp only [Act.put, List.setIfInBounds_toArray, List.set_cons_zero, List.set_cons_succ]
  refine wpAnyH_take (i := 2) (oi := ⟨_, _, _, _, _, _⟩) (v := ?_) rfl (by kernel_rfl) (by kernel_rfl) (by kernel_rfl) (fun _ _ _ h => h) (Or.inl ⟨by rfl, ?_⟩) (by assumption) ?_
  rotate_left
  · (intro w hSw; (try dsimp only at hSw); go_simp; try with_reducible rfl)
  simp only [Act.put, List.setIfInBounds_toArray, List.set_cons_zero, List.set_cons_succ]
  refine wpAnyH_take (i := 3) (oi := ⟨_, _, _, _, _, _⟩) (v := ?_) rfl (by kernel_rfl) (by kernel_rfl) (by kernel_rfl) (fun _ _ _ h => h) (Or.inl ⟨by rfl, ?_⟩) (by assumption) ?_
  rotate_left
  · (intro w hSw; (try dsimp only at hSw); go_simp; try with_reducible rfl)
  simp only [Act.put, List.setIfInBounds_toArray, List.set_cons_zero, List.set_cons_succ]
  refine wpAnyH_take (i := 4) (oi := ⟨_, _, _, _, _, _⟩) (v := ?_) rfl (by kernel_rfl) (by kernel_rfl) (by kernel_rfl) (fun _ _ _ h => h) (Or.inl ⟨by rfl, ?_⟩) (by assumption) ?_
  rotate_left
  · (intro w hSw; (try dsimp only at hSw); go_simp; try with_reducible rfl)
  simp only [Act.put, List.setIfInBounds_toArray, List.set_cons_zero, List.set_cons_succ]
  refine wpAnyH_take (i := 5) (oi := ⟨_, _, _, _, _, _⟩) (v := ?_) rfl (by kernel_rfl) (by kernel_rfl) (by kernel_rfl) (fun _ _ _ h => h) (Or.inl ⟨by rfl, ?_⟩) (by assumption) ?_
  rotate_left
  · (intro w hSw; (try dsimp only at hSw); go_simp; try with_reducible rfl)
  simp only [Act.put, List.setIfInBounds_toArray, List.set_cons_zero, List.set_cons_succ]
  refine wpAnyH_ready (rs := [6]) (by kernel_rfl) (by simp) (AllReadyH.cons (o := ⟨_, _, _, _, _, _⟩) rfl (fun K hK => ?_) AllReadyH.nil)
  go_simp
  go_at_call 75
  refine (hsa _).mono ?_
  rintro e U2 ⟨rfl, hu2⟩
  have GU2 : V.grownBy U2 (some mb) := (G1.trans (grown_drewB _ _)).trans (grown_below hu2 _)
  have mU2 : EdM U2 mb (n + 1) (addE E 0 a) := (m1.below ((Below.refl _ _).drew)).below hu2
  go_wp2_with fail
  refine hK.out _ _ (s2 _ GU2) (fun hHeld => ?_)
  clear hK K
  try simp only [Act.put, List.setIfInBounds_toArray, List.set_cons_zero, List.set_cons_succ]
  refine wpAnyH_take (i := 7) (oi := ⟨_, _, _, _, _, _⟩) (v := ?_) rfl (by kernel_rfl) (by kernel_rfl) (by kernel_rfl) (fun _ _ _ h => h) (Or.inl ⟨by rfl, ?_⟩) (by assumption) ?_
  rotate_left
  · (intro w hSw; (try dsimp only at hSw); go_simp; try with_reducible rfl)
  simp only [Act.put, List.setIfInBounds_toArray, List.set_cons_zero, List.set_cons_succ]
  try rw [hwa]
  refine wpAnyH_ready (rs := [8]) (by kernel_rfl) (by simp) (AllReadyH.cons (o := ⟨_, _, _, _, _, _⟩) rfl (fun K hK => ?_) AllReadyH.nil)
  go_simp
  go_at_call 88
  refine (putE_any mb (n + 1) (addE E 0 a) 0 (a + za) _ mU2 (by omega) (i64_of (by omega) (by omega)) (i64_of (by omega) (by omega))).mono ?_
  rintro e W2 ⟨rfl, m2, g2⟩
  have G2 : V.grownBy W2 (some mb) := GU2.trans g2
  go_wp2_with fail
  refine hK.out _ _ (s2 _ G2) (fun hHeld => ?_)
  clear hK K
  try simp only [Act.put, List.setIfInBounds_toArray, List.set_cons_zero, List.set_cons_succ]
  refine wpAnyH_done (by kernel_rfl) ?_ _
  clear s2 hHeld mU2 GU2 hu2 g2
  have f3 := hbox W2 G2
  obtain ⟨b1, b2, b3, b4, b5⟩ := f3
  have hT3 : Hid True := trivial
  go_wp2_with (go_at_call 88; clear hT3; refine (putE_any mb (n + 1 + 1) (addE (addE E 0 a) 0 (a + za)) 1 c _ m2 (by omega) (i64_of (by omega) (by omega)) (i64_of (by omega) (by omega))).mono ?_; rintro e W3 ⟨rfl, m3, g3⟩; have G3 : V.grownBy W3 (some mb) := G2.trans g3; obtain ⟨b1, b2, b3, b4, b5⟩ := hbox W3 G3)
  clear g3
  have s4 : ∀ w', V.grownBy w' (some mb) → (fun w' => w'.cell? ⟨X, 3, none⟩ = some (.int .i64 c) ∧ w'.cell? ⟨X, 4, none⟩ = some (.int .i64 m)) w' := fun w' h => ⟨(hbox w' h).2.2.1, (hbox w' h).2.2.2.1⟩
  refine wp_region_held_drew (S := fun w' => w'.cell? ⟨X, 3, none⟩ = some (.int .i64 c) ∧ w'.cell? ⟨X, 4, none⟩ = some (.int .i64 m)) (by kernel_rfl) (s4 _ (G3.trans (grown_drewB _ _))) (fun hHeld => ?_)
  refine wpAnyH_take (i := 0) (oi := ⟨_, _, _, _, _, _⟩) (v := ?_) rfl (by kernel_rfl) (by kernel_rfl) (by kernel_rfl) (fun _ _ _ h => h) (Or.inl ⟨by rfl, ?_⟩) (by assumption) ?_
  rotate_left
  · (intro w hSw; (try dsimp only at hSw); go_simp; try with_reducible rfl)
  simp only [Act.put, List.setIfInBounds_toArray, List.set_cons_zero, List.set_cons_succ]
  refine wpAnyH_take (i := 1) (oi := ⟨_, _, _, _, _, _⟩) (v := ?_) rfl (by kernel_rfl) (by kernel_rfl) (by kernel_rfl) (fun _ _ _ h => h) (Or.inl ⟨by rfl, ?_⟩) (by assumption) ?_
  rotate_left
  · (intro w hSw; (try dsimp only at hSw); go_simp; try with_reducible rfl)
  simp only [Act.put, List.setIfInBounds_toArray, List.set_cons_zero, List.set_cons_succ]
  refine wpAnyH_take (i := 2) (oi := ⟨_, _, _, _, _, _⟩) (v := ?_) rfl (by kernel_rfl) (by kernel_rfl) (by kernel_rfl) (fun _ _ _ h => h) (Or.inl ⟨by rfl, ?_⟩) (by assumption) ?_
  rotate_left
  · (intro w hSw; (try dsimp only at hSw); go_simp; try with_reducible rfl)
  simp only [Act.put, List.setIfInBounds_toArray, List.set_cons_zero, List.set_cons_succ]
  refine wpAnyH_take (i := 3) (oi := ⟨_, _, _, _, _, _⟩) (v := ?_) rfl (by kernel_rfl) (by kernel_rfl) (by kernel_rfl) (fun _ _ _ h => h) (Or.inl ⟨by rfl, ?_⟩) (by assumption) ?_
  rotate_left
  · (intro w hSw; (try dsimp only at hSw); go_simp; try with_reducible rfl)
  simp only [Act.put, List.setIfInBounds_toArray, List.set_cons_zero, List.set_cons_succ]
  refine wpAnyH_take (i := 4) (oi := ⟨_, _, _, _, _, _⟩) (v := ?_) rfl (by kernel_rfl) (by kernel_rfl) (by kernel_rfl) (fun _ _ _ h => h) (Or.inl ⟨by rfl, ?_⟩) (by assumption) ?_
  rotate_left
  · (intro w hSw; (try dsimp only at hSw); go_simp; try with_reducible rfl)
  simp only [Act.put, List.setIfInBounds_toArray, List.set_cons_zero, List.set_cons_succ]
  refine wpAnyH_take (i := 5) (oi := ⟨_, _, _, _, _, _⟩) (v := ?_) rfl (by kernel_rfl) (by kernel_rfl) (by kernel_rfl) (fun _ _ _ h => h) (Or.inl ⟨by rfl, ?_⟩) (by assumption) ?_
  rotate_left
  · (intro w hSw; (try dsimp only at hSw); go_simp; try with_reducible rfl)
  simp only [Act.put, List.setIfInBounds_toArray, List.set_cons_zero, List.set_cons_succ]
  refine wpAnyH_ready (rs := [6]) (by kernel_rfl) (by simp) (AllReadyH.cons (o := ⟨_, _, _, _, _, _⟩) rfl (fun K hK => ?_) AllReadyH.nil)
  go_simp
  go_at_call 75
  refine (hsc _).mono ?_
  rintro e U4 ⟨rfl, hu4⟩
  have GU4 : V.grownBy U4 (some mb) := (G3.trans (grown_drewB _ _)).trans (grown_below hu4 _)
  have mU4 : EdM U4 mb (n + 1 + 1 + 1) (addE (addE (addE E 0 a) 0 (a + za)) 1 c) := (m3.below ((Below.refl _ _).drew)).below hu4
  go_wp2_with fail
  refine hK.out _ _ (s4 _ GU4) (fun hHeld => ?_)
  clear hK K
  try simp only [Act.put, List.setIfInBounds_toArray, List.set_cons_zero, List.set_cons_succ]
  refine wpAnyH_take (i := 7) (oi := ⟨_, _, _, _, _, _⟩) (v := ?_) rfl (by kernel_rfl) (by kernel_rfl) (by kernel_rfl) (fun _ _ _ h => h) (Or.inl ⟨by rfl, ?_⟩) (by assumption) ?_
  rotate_left
  · (intro w hSw; (try dsimp only at hSw); go_simp; try with_reducible rfl)
  simp only [Act.put, List.setIfInBounds_toArray, List.set_cons_zero, List.set_cons_succ]
  try rw [hwc]
  refine wpAnyH_ready (rs := [8]) (by kernel_rfl) (by simp) (AllReadyH.cons (o := ⟨_, _, _, _, _, _⟩) rfl (fun K hK => ?_) AllReadyH.nil)
  go_simp
  go_at_call 88
  refine (putE_any mb (n + 1 + 1 + 1) (addE (addE (addE E 0 a) 0 (a + za)) 1 c) 1 (c + zc) _ mU4 (by omega) (i64_of (by omega) (by omega)) (i64_of (by omega) (by omega))).mono ?_
  rintro e W4 ⟨rfl, m4, g4⟩
  have G4 : V.grownBy W4 (some mb) := GU4.trans g4
  go_wp2_with fail
  refine hK.out _ _ (s4 _ G4) (fun hHeld => ?_)
  clear hK K
  try simp only [Act.put, List.setIfInBounds_toArray, List.set_cons_zero, List.set_cons_succ]
  refine wpAnyH_done (by kernel_rfl) ?_ _
  clear s4 hHeld mU4 GU4 hu4 g4
  by_cases hk : k = 0
  · subst hk
    have HR2 := HR.out
    rw [if_pos rfl] at HR2
    have HR2 : Hid (_ = _) := HR2
    clear HR
    obtain ⟨b1, b2, b3, b4, b5⟩ := hbox W4 G4
    go_wp2_with fail
    go_end0
    exact ⟨rfl, by rw [HR2.out]; exact m4.mono (by omega), hG _ G4⟩
  · have HR2 := HR.out
    rw [if_neg hk] at HR2
    have HR2 : Hid (_ = _) := HR2
    clear HR
    have hkb : (k != 0) = true := by simp [hk]
    have f5 := hbox W4 G4
    obtain ⟨b1, b2, b3, b4, b5⟩ := f5
    have hT5 : Hid True := trivial
    go_wp2_with (go_at_call 88; clear hT5; refine (putE_any mb (n + 1 + 1 + 1 + 1) (addE (addE (addE (addE E 0 a) 0 (a + za)) 1 c) 1 (c + zc)) 2 k _ m4 (by omega) (i64_of (by omega) (by omega)) (i64_of (by omega) (by omega))).mono ?_; rintro e W5 ⟨rfl, m5, g5⟩; have G5 : V.grownBy W5 (some mb) := G4.trans g5; obtain ⟨b1, b2, b3, b4, b5⟩ := hbox W5 G5)
    clear g5
    have f6 := hbox W5 G5
    obtain ⟨b1, b2, b3, b4, b5⟩ := f6
    have hT6 : Hid True := trivial
    go_wp2_with (go_at_call 88; clear hT6; refine (putE_any mb (n + 1 + 1 + 1 + 1 + 1) (addE (addE (addE (addE (addE E 0 a) 0 (a + za)) 1 c) 1 (c + zc)) 2 k) 2 (k + 1) _ m5 (by omega) (i64_of (by omega) (by omega)) (i64_of (by omega) (by omega))).mono ?_; rintro e W6 ⟨rfl, m6, g6⟩; have G6 : V.grownBy W6 (some mb) := G5.trans g6; obtain ⟨b1, b2, b3, b4, b5⟩ := hbox W6 G6)
    clear g6
    go_end0
    exact ⟨rfl, by rw [HR2.out]; exact m6, hG _ G6⟩
end Go.Proofs.Ytaoahghfmlegbaa
