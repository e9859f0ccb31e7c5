/- The draws of lists: l5List. -/
import Derived.Test.YtaoahghfmlegbaaDraw4
namespace Go.Proofs.Ytaoahghfmlegbaa
open Go.RowKit Go.Lib

set_option maxRecDepth 100000 in
set_option maxHeartbeats 8000000 in
theorem list_any (R : Nat) (q : Option Addr) (n cap : Nat) (p : Int) (most : Nat) (w : World) (h : Rdr w R q n cap p) (hp : p ≤ 1073740000) (m1 : 1 ≤ most) (m2 : most ≤ 12) :
    Calls Try.prog 40 #[.pointer (some ⟨R, 0, none⟩), .int .i64 (most : Int)] w fun e w' => ∃ v L, e = .returned v ∧ Row w' w.heap.size v L ∧ L.length < most ∧ (∀ x ∈ L, Mid x.1 ∧ Mid x.2) ∧ Drew w R q n cap p 500 w' := by
  have hR := h.lt
  obtain ⟨i0, hi, hz0, hz1, hz2⟩ := info_parts infoP
  have HD := (Drew.refl h).alloc (.cells #[] 31)
  have HX := row_nil_new w
  have H0 : Hid (Rdr w R q n cap p) := h
  clear h
  go_enter Try.func40, Try.ntmps40
  have C := pick_more HD (most : Int) (by omega) (by omega) (by omega)
  clear HD
  go_wp2_with (go_at_call 41; refine C.mono ?_; clear C; rintro e W1 ⟨r0, rfl, b0, HD, g1⟩; replace HX := row_drew HX g1 hR; clear g1)
  go_loopw [5, 6] (fun v i wr => ∃ (L : List (Int × Int)) (m : Nat), i = .int .i64 (m : Int) ∧ L.length + m = r0 ∧ Hid (Row wr w.heap.size v L) ∧ Hid (allOk L = true) ∧ Hid (Drew w R q n cap p (1 + 30 * (L.length : Int)) wr)) (fun _ i _ => (intOf i).toNat)
  case atStart => exact ⟨[], r0, rfl, by simp, HX, rfl, by unfold Hid; simpa using HD⟩
  case round =>
    clear HD HX
    obtain ⟨L, m, rfl, hm, hrow, hall, hD⟩ := hrel
    obtain ⟨pv, cv, rfl⟩ := hrow.out.form
    by_cases hm0 : m = 0
    · subst hm0
      have hD2 := hD.out
      have HX := hrow.out
      have C := pick_more hD2 30 (by omega) (by omega) (by omega)
      clear hD hD2 hrow
      by_cases hl : L.length = 0
      · obtain rfl := List.length_eq_zero_iff.1 hl
        have HX : Row wr w.heap.size (.slice pv 0 cv) [] := HX
        clear hl
        go_wp2_with (go_at_call 41; refine C.mono ?_; clear C; rintro e W9 ⟨r9, rfl, b9, HD, g9⟩; replace HX := row_drew HX g9 hR; clear g9)
        all_goals
          go_ret
          exact ⟨_, [], rfl, HX, by simp; omega, by simp, HD.weak (by simp)⟩
      · have hlb : decide (0 < (L.length : Int)) = true := decide_eq_true (by omega)
        go_wp2_with (first | (go_at_call 41; refine C.mono ?_; clear C; rintro e W9 ⟨r9, rfl, b9, HD, g9⟩; replace HX := row_drew HX g9 hR; clear g9; obtain ⟨gr, hpv, hgr, d0, d1⟩ := HX.rd.at (i := 0) (by omega); have hq := allOk_of hall.out (List.getElem_mem (show 0 < L.length by omega)); obtain ⟨qa, hqa⟩ : ∃ qa, L[0].1 = qa := ⟨_, rfl⟩; obtain ⟨ql, hql⟩ : ∃ ql, L[0].2 = ql := ⟨_, rfl⟩; rw [hqa] at d0 hq; rw [hql] at d1 hq; subst hpv; have hgw := (World.ownsRow.lt HX gr rfl).1; clear hqa hql) | (go_at_call 69; refine (spoil_more HD (by omega) hq).mono ?_; clear HD; rintro e V9 ⟨sb, sm, rfl, ms, mm, HD, g10⟩; replace HX := row_drew HX g10 hR; replace d0 := grown_cell g10 (show gr ≠ R by omega) d0; replace d1 := grown_cell g10 (show gr ≠ R by omega) d1; have f0 := World.ownsRow.frozenAt HX 0; have f1 := World.ownsRow.frozenAt HX 1; clear g10))
        · go_ret
          exact ⟨_, L.set 0 (sb, sm), rfl, row_head HX sb sm, by rw [List.length_set]; omega, mid_set (mid_all hall.out) ms mm, drew_set2 H0.out (HD.weak (by omega)) hgw _ _ _ _⟩
        · go_ret
          exact ⟨_, L, rfl, HX, by omega, mid_all hall.out, HD.weak (by omega)⟩
    · have hm1 : decide (0 < (m : Int)) = true := decide_eq_true (by omega)
      have C := pre_more hD.out (by omega)
      clear hD
      by_cases hl : L.length = 0
      · obtain rfl := List.length_eq_zero_iff.1 hl
        have hrow : Hid (Row wr w.heap.size (.slice pv 0 cv) []) := hrow
        have hm : 0 + m = r0 := hm
        clear hl
        go_upto_if 30 with (go_at_call 68; refine C.mono ?_; clear C; rintro e W2 ⟨a, l, rfl, ho, HD, g2⟩; have HX := row_drew hrow.out g2 hR; clear g2 hrow)
        have BX := Bx.new W2 (.int .i64 a) (.int .i64 l) 31
        replace HD := HD.alloc (.cells #[.int .i64 a, .int .i64 l] 31)
        replace HX := HX.alloc (.cells #[.int .i64 a, .int .i64 l] 31)
        generalize W2.alloc (.cells #[.int .i64 a, .int .i64 l] 31) = W3 at *
        generalize W2.heap.size = K7 at *
        obtain ⟨z0, z1, z2, z3⟩ := BX
        go_wp2_with (at_builtin; refine wpList_append_own _ rfl _ _ 23 rfl w.heap.size 31 i0 (.agg #[.int .i64 0, .int .i64 0]) 2 16 Try.underlying23 hi hz0 hz1 hz2 rfl (by decide) _ _ _ rfl (HX.alloc _) ⟨W3.heap.size, 0, none⟩ 1 1 [.int .i64 a, .int .i64 l] rfl rfl (cell_pr _ _ _ _) (pr_one _ _) (by unfold maxLen; omega) (by omega) (by have := HD.1.size; simp; omega) ?_; intro v' W9 hown' hgrow _; obtain ⟨k1, k2, k3⟩ := list_round H0.out (HX.alloc _) (HD.alloc _) hall.out ho (by omega) hown' hgrow; obtain ⟨pv', cv', rfl⟩ := k1.form; rw [snoc_len] at k1; clear hown' hgrow)
        go_roundw
        case rel => exact ⟨_, m - 1, by congr 1; omega, by rw [List.length_append]; simp; omega, k1, k2, k3⟩
        case measure => simp [intOf]; omega
      · have hl1 : decide (0 < (L.length : Int)) = true := decide_eq_true (by omega)
        go_wp2_with (go_at_call 68; refine C.mono ?_; clear C; rintro e W2 ⟨a, l, rfl, ho, HD, g2⟩; have HX := row_drew hrow.out g2 hR; clear g2 hrow)
        have BX := Bx.new W2 (.int .i64 a) (.int .i64 l) 31
        have hK7 : W2.heap.size ≠ R := by have := HD.1.size; omega
        have hw2 : w.heap.size ≤ W2.heap.size := HD.1.size
        have LT2 : ∀ k, (Value.slice pv L.length cv).ownBlock = some k → k < W2.heap.size := fun k e => (World.ownsRow.lt HX k e).2
        replace HD := HD.alloc (.cells #[.int .i64 a, .int .i64 l] 31)
        replace HX := HX.alloc (.cells #[.int .i64 a, .int .i64 l] 31)
        have C := pick_more HD 2 (by omega) (by omega) (by omega)
        clear HD
        generalize hK : W2.heap.size = K7 at *
        go_upto_if 30 with (go_at_call 41; refine C.mono ?_; clear C; rintro e W3 ⟨r3, rfl, b3, HD, g3⟩; replace HX := row_drew HX g3 hR; replace BX := BX.grown g3 hK7; clear g3)
        go_cut [8] (fun _ W => ∃ x y : Int, Bx W K7 (.int .i64 x) (.int .i64 y) ∧ okP x y = true ∧ Row W w.heap.size (.slice pv L.length cv) L ∧ Drew w R q n cap p (1 + 30 * (L.length : Int) + 29) W)
        case first =>
          by_cases hr3 : r3 = 0
          · have hb3 : ((r3 : Int) == 0) = true := by subst hr3; rfl
            have C := pick_more HD (L.length : Int) (by omega) (by omega) (by omega)
            clear HD
            go_wp2_with (go_at_call 41; refine C.mono ?_; clear C; rintro e W4 ⟨r4, rfl, b4, HD, g4⟩; replace HX := row_drew HX g4 hR; replace BX := BX.grown g4 hK7; obtain ⟨gr, hpv, hgr, d0, d1⟩ := HX.rd.at (i := r4) (by omega); have hq := allOk_of hall.out (List.getElem_mem (show r4 < L.length by omega)); obtain ⟨qa, hqa⟩ : ∃ qa, L[r4].1 = qa := ⟨_, rfl⟩; obtain ⟨ql, hql⟩ : ∃ ql, L[r4].2 = ql := ⟨_, rfl⟩; rw [hqa] at d0 hq; rw [hql] at d1 hq; subst hpv; clear g4 hqa hql)
            have BQ := Bx.new W4 (.int .i64 qa) (.int .i64 ql) 31
            have hK8 : W4.heap.size ≠ R := by have := HD.1.size; omega
            have hK78 : K7 < W4.heap.size := cell_lt BX.1
            replace HD := HD.alloc (.cells #[.int .i64 qa, .int .i64 ql] 31)
            replace HX := HX.alloc (.cells #[.int .i64 qa, .int .i64 ql] 31)
            replace BX := BX.alloc (.cells #[.int .i64 qa, .int .i64 ql] 31)
            have C := pick_more HD 3 (by omega) (by omega) (by omega)
            clear HD d0 d1
            obtain ⟨q1, q2, q3, q4, q5⟩ := okP_of hq
            have Q5 : Hid (qa % sz ql = 0) := q5
            clear q5
            generalize hK8' : W4.heap.size = K8 at *
            go_wp2_with (first | (go_at_call 41; refine C.mono ?_; clear C; rintro e W5 ⟨r5, rfl, b5, HD, g5⟩; replace HX := row_drew HX g5 hR; replace BX := BX.grown g5 hK7; replace BQ := BQ.grown g5 hK8; have ⟨z0, z1, z2, z3⟩ := BX; have ⟨y0, y1, y2, y3⟩ := BQ; clear g5) | (go_at_call 42; refine (halves_any qa ql _ q1 (by omega) q3 q4).mono ?_; rintro e W6 ⟨rfl, hb6⟩))
            · have hl0 : 0 < ql := by assumption
              have hz := sz_bd (ql - 1) (by omega)
              have hs := fun w => size_any (ql - 1) w (by omega) (by omega)
              have ho1 := first_ok q3 q4 (show 0 ≤ ql - 1 by omega) (by omega)
              obtain ⟨zq, hzq⟩ : ∃ zq, zq = sz (ql - 1) := ⟨_, rfl⟩
              rw [← hzq] at hz hs ho1
              have he1 := Int.emod_nonneg qa (show zq ≠ 0 by omega)
              obtain ⟨a0, ha0⟩ : ∃ a0, a0 = qa - qa % zq := ⟨_, rfl⟩
              rw [← ha0] at ho1
              obtain ⟨_, _, a01, a02, _⟩ := okP_of ho1
              have wq : IntKind.i64.wrap (ql - 1) = ql - 1 := by rw [IntKind.wrap_i64]; omega
              have wa : IntKind.i64.wrap (qa - qa.tmod zq) = a0 := by rw [ha0, Int.tmod_eq_emod_of_nonneg q3, IntKind.wrap_i64]; omega
              have hzq0 : (zq == 0) = false := by rw [beq_eq_false_iff_ne]; omega
              have hzq1 : ¬ zq = 0 := by omega
              have hh := fun w => halves_any a0 (ql - 1) w (by omega) (by omega) a01 a02
              have eq1 : ql - 1 + 1 = ql := by omega
              rw [eq1] at hh
              have hq2 := half_ok ho1 (show ql - 1 < 16 by omega)
              rw [eq1] at hq2
              generalize sz ql = zz at *
              have n1 := World.new_ne W5 ⟨K8, 0, none⟩ y0
              have HS0 : W5.drew.cell? ⟨K8, 0, none⟩ = some (.int .i64 qa) ∧ W5.drew.cell? ⟨K8, 1, none⟩ = some (.int .i64 ql) := ⟨y0, y1⟩
              have hl8 : K8 < W5.drew.heap.size := cell_lt y0
              have hl7 : K7 < W5.heap.size := cell_lt z0
              have hRw : R < W5.heap.size := by have := HD.1.size; omega
              clear ha0 hzq
              have h5 : ((r5 : Int) == 0) = true := by assumption
              rw [h5]
              go_cut [9, 10] (fun c d W => ∃ K1 K2, c = .pointer (some ⟨K1, 0, none⟩) ∧ d = .pointer (some ⟨K2, 0, none⟩) ∧ W5.heap.size ≤ K1 ∧ W5.heap.size ≤ K2 ∧ (W.cell? ⟨K1, 0, none⟩ = some (.int .i64 a0) ∧ W.cell? ⟨K1, 1, none⟩ = some (.int .i64 ql) ∧ W.cell? ⟨K2, 0, none⟩ = some (.int .i64 (a0 + zz)) ∧ W.cell? ⟨K2, 1, none⟩ = some (.int .i64 ql)) ∧ Below W5.heap.size W5 W)
              case first =>
                have hl85 : K8 < W5.heap.size := cell_lt y0
                have HSB : SB W5 K8 (.int .i64 qa) (.int .i64 ql) W5.drew := ⟨y0, y1, (Below.refl _ _).drew⟩
                clear HS0 hl8 BX BQ HX HD z0 z1 z2 z3 y0 y1 y2 y3
                refine wp_region_held_drew (S := fun w' => w'.cell? ⟨K8, 0, none⟩ = some (.int .i64 qa) ∧ w'.cell? ⟨K8, 1, none⟩ = some (.int .i64 ql) ∧ Below W5.heap.size W5 w') (by kernel_rfl) HSB (fun hHeld => ?_)
                refine wpAnyH_take (i := 0) (oi := ⟨_, _, _, _, _, _⟩) (v := ?_) rfl (by kernel_rfl) (by kernel_rfl) (by kernel_rfl) (fun _ _ _ h => h) (Or.inl ⟨by rfl, ?_⟩) (by assumption) ?_
                rotate_left
                · (intro w hSw; (try dsimp only at hSw); go_simp; try with_reducible rfl)
                simp only [Act.put, List.setIfInBounds_toArray, List.set_cons_zero, List.set_cons_succ]
                refine wpAnyH_take (i := 1) (oi := ⟨_, _, _, _, _, _⟩) (v := ?_) rfl (by kernel_rfl) (by kernel_rfl) (by kernel_rfl) (fun _ _ _ h => h) (Or.inl ⟨by rfl, ?_⟩) (by assumption) ?_
                rotate_left
                · (intro w hSw; (try dsimp only at hSw); go_simp; try with_reducible rfl)
                simp only [Act.put, List.setIfInBounds_toArray, List.set_cons_zero, List.set_cons_succ]
                refine wpAnyH_take (i := 2) (oi := ⟨_, _, _, _, _, _⟩) (v := ?_) rfl (by kernel_rfl) (by kernel_rfl) (by kernel_rfl) (fun _ _ _ h => h) (Or.inl ⟨by rfl, ?_⟩) (by assumption) ?_
                rotate_left
                · (intro w hSw; (try dsimp only at hSw); go_simp; try with_reducible rfl)
                simp only [Act.put, List.setIfInBounds_toArray, List.set_cons_zero, List.set_cons_succ]
                refine wpAnyH_take (i := 3) (oi := ⟨_, _, _, _, _, _⟩) (v := ?_) rfl (by kernel_rfl) (by kernel_rfl) (by kernel_rfl) (fun _ _ _ h => h) (Or.inl ⟨by rfl, ?_⟩) (by assumption) ?_
                rotate_left
                · (intro w hSw; (try dsimp only at hSw); go_simp; try with_reducible rfl)
                simp only [Act.put, List.setIfInBounds_toArray, List.set_cons_zero, List.set_cons_succ]
                refine wpAnyH_take (i := 4) (oi := ⟨_, _, _, _, _, _⟩) (v := ?_) rfl (by kernel_rfl) (by kernel_rfl) (by kernel_rfl) (fun _ _ _ h => h) (Or.inl ⟨by rfl, ?_⟩) (by assumption) ?_
                rotate_left
                · (intro w hSw; (try dsimp only at hSw); go_simp; try with_reducible rfl)
                simp only [Act.put, List.setIfInBounds_toArray, List.set_cons_zero, List.set_cons_succ]
                refine wpAnyH_take (i := 5) (oi := ⟨_, _, _, _, _, _⟩) (v := ?_) rfl (by kernel_rfl) (by kernel_rfl) (by kernel_rfl) (fun _ _ _ h => h) (Or.inl ⟨by rfl, ?_⟩) (by assumption) ?_
                rotate_left
                · (intro w hSw; (try dsimp only at hSw); go_simp; try with_reducible rfl)
                simp only [Act.put, List.setIfInBounds_toArray, List.set_cons_zero, List.set_cons_succ]
                refine wpAnyH_take (i := 6) (oi := ⟨_, _, _, _, _, _⟩) (v := ?_) rfl (by kernel_rfl) (by kernel_rfl) (by kernel_rfl) (fun _ _ _ h => h) (Or.inl ⟨by rfl, ?_⟩) (by assumption) ?_
                rotate_left
                · (intro w hSw; (try dsimp only at hSw); go_simp; try with_reducible rfl)
                simp only [Act.put, List.setIfInBounds_toArray, List.set_cons_zero, List.set_cons_succ]
                refine wpAnyH_take (i := 10) (oi := ⟨_, _, _, _, _, _⟩) (v := ?_) rfl (by kernel_rfl) (by kernel_rfl) (by kernel_rfl) (fun _ _ _ h => h) (Or.inl ⟨by rfl, ?_⟩) (by assumption) ?_
                rotate_left
                · (intro w hSw; (try dsimp only at hSw); go_simp; try with_reducible rfl)
                simp only [Act.put, List.setIfInBounds_toArray, List.set_cons_zero, List.set_cons_succ]
                refine wpAnyH_take (i := 11) (oi := ⟨_, _, _, _, _, _⟩) (v := ?_) rfl (by kernel_rfl) (by kernel_rfl) (by kernel_rfl) (fun _ _ _ h => h) (Or.inl ⟨by rfl, ?_⟩) (by assumption) ?_
                rotate_left
                · (intro w hSw; (try dsimp only at hSw); go_simp; try with_reducible rfl)
                simp only [Act.put, List.setIfInBounds_toArray, List.set_cons_zero, List.set_cons_succ]
                refine wpAnyH_take (i := 12) (oi := ⟨_, _, _, _, _, _⟩) (v := ?_) rfl (by kernel_rfl) (by kernel_rfl) (by kernel_rfl) (fun _ _ _ h => h) (Or.inl ⟨by rfl, ?_⟩) (by assumption) ?_
                rotate_left
                · (intro w hSw; (try dsimp only at hSw); go_simp; try with_reducible rfl)
                simp only [Act.put, List.setIfInBounds_toArray, List.set_cons_zero, List.set_cons_succ]
                generalize W5.drew = V0 at *
                refine wpAnyH_ready (rs := [7, 18, 19]) (by kernel_rfl) (by simp) (AllReadyH.cons (o := ⟨_, _, _, _, _, _⟩) rfl (fun K hK => ?_) (AllReadyH.cons (o := ⟨_, _, _, _, _, _⟩) rfl (fun K hK => ?_) (AllReadyH.cons (o := ⟨_, _, _, _, _, _⟩) rfl (fun K hK => ?_) AllReadyH.nil)))
                · go_simp
                  go_at_call 49
                  refine (hs _).mono ?_
                  rintro e wx ⟨rfl, hw⟩
                  obtain rfl := hw.symm
                  go_wp2_with fail
                  refine hK.out _ _ HSB (fun hHeld => ?_)
                  clear hK K
                  try simp only [Act.put, List.setIfInBounds_toArray, List.set_cons_zero, List.set_cons_succ]
                  refine wpAnyH_take (i := 8) (oi := ⟨_, _, _, _, _, _⟩) (v := ?_) rfl (by kernel_rfl) (by kernel_rfl) (by kernel_rfl) (fun _ _ _ h => h) (Or.inl ⟨by rfl, ?_⟩) (by assumption) ?_
                  rotate_left
                  · (intro w hSw; (try dsimp only at hSw); go_simp; try with_reducible rfl)
                  simp only [Act.put, List.setIfInBounds_toArray, List.set_cons_zero, List.set_cons_succ]
                  refine wpAnyH_take (i := 9) (oi := ⟨_, _, _, _, _, _⟩) (v := ?_) rfl (by kernel_rfl) (by kernel_rfl) (by kernel_rfl) (fun _ _ _ h => h) (Or.inl ⟨by rfl, ?_⟩) (by assumption) ?_
                  rotate_left
                  · (intro w hSw; (try dsimp only at hSw); go_simp; try with_reducible rfl)
                  simp only [Act.put, List.setIfInBounds_toArray, List.set_cons_zero, List.set_cons_succ]
                  refine wpAnyH_take (i := 13) (oi := ⟨_, _, _, _, _, _⟩) (v := ?_) rfl (by kernel_rfl) (by kernel_rfl) (by kernel_rfl) (fun _ _ _ h => h) (Or.inl ⟨by rfl, ?_⟩) (by assumption) ?_
                  rotate_left
                  · (intro w hSw; (try dsimp only at hSw); go_simp; try with_reducible rfl)
                  simp only [Act.put, List.setIfInBounds_toArray, List.set_cons_zero, List.set_cons_succ]
                  refine wpAnyH_ready (rs := [14, 18, 19]) (by kernel_rfl) (by simp) (AllReadyH.cons (o := ⟨_, _, _, _, _, _⟩) rfl (fun K hK => ?_) (AllReadyH.cons (o := ⟨_, _, _, _, _, _⟩) rfl (fun K hK => ?_) (AllReadyH.cons (o := ⟨_, _, _, _, _, _⟩) rfl (fun K hK => ?_) AllReadyH.nil)))
                  · go_simp
                    try rw [wa]
                    go_at_call 42
                    refine (hh _).mono ?_
                    rintro e V2 ⟨rfl, hb2⟩
                    have HB2 := sb_next hl85 HSB hb2
                    go_wp2_with fail
                    refine hK.out _ _ HB2 (fun hHeld => ?_)
                    clear hK K
                    try simp only [Act.put, List.setIfInBounds_toArray, List.set_cons_zero, List.set_cons_succ]
                    refine wpAnyH_take (i := 15) (oi := ⟨_, _, _, _, _, _⟩) (v := ?_) rfl (by kernel_rfl) (by kernel_rfl) (by kernel_rfl) (fun _ _ _ h => h) (Or.inl ⟨by rfl, ?_⟩) (by assumption) ?_
                    rotate_left
                    · (intro w hSw; (try dsimp only at hSw); go_simp; try with_reducible rfl)
                    simp only [Act.put, List.setIfInBounds_toArray, List.set_cons_zero, List.set_cons_succ]
                    refine wpAnyH_take (i := 16) (oi := ⟨_, _, _, _, _, _⟩) (v := ?_) rfl (by kernel_rfl) (by kernel_rfl) (by kernel_rfl) (fun _ _ _ h => h) (Or.inl ⟨by rfl, ?_⟩) (by assumption) ?_
                    rotate_left
                    · (intro w hSw; (try dsimp only at hSw); go_simp; try with_reducible rfl)
                    simp only [Act.put, List.setIfInBounds_toArray, List.set_cons_zero, List.set_cons_succ]
                    refine wpAnyH_take (i := 17) (oi := ⟨_, _, _, _, _, _⟩) (v := ?_) rfl (by kernel_rfl) (by kernel_rfl) (by kernel_rfl) (fun _ _ _ h => h) (Or.inl ⟨by rfl, ?_⟩) (by assumption) ?_
                    rotate_left
                    · (intro w hSw; (try dsimp only at hSw); go_simp; try with_reducible rfl)
                    simp only [Act.put, List.setIfInBounds_toArray, List.set_cons_zero, List.set_cons_succ]
                    refine wpAnyH_ready (rs := [18, 19]) (by kernel_rfl) (by simp) (AllReadyH.cons (o := ⟨_, _, _, _, _, _⟩) rfl (fun K hK => ?_) (AllReadyH.cons (o := ⟨_, _, _, _, _, _⟩) rfl (fun K hK => ?_) AllReadyH.nil))
                    · go_simp
                      have HB3 := sb_alloc HB2 (.cells #[.int .i64 0, .int .i64 0] 31)
                      have BC3 := Bx.new V2 (.int .i64 0) (.int .i64 0) 31
                      have hKC3 : W5.heap.size ≤ V2.heap.size := HB2.2.2.size
                      refine hK.out _ _ HB3 (fun hHeld => ?_)
                      clear hK K hHeld
                      try simp only [Act.put, List.setIfInBounds_toArray, List.set_cons_zero, List.set_cons_succ]
                      generalize V2.alloc (.cells #[.int .i64 0, .int .i64 0] 31) = V3 at *
                      generalize V2.heap.size = KC3 at *
                      refine wpAnyH_ready (rs := [19]) (by kernel_rfl) (by simp) (AllReadyH.cons (o := ⟨_, _, _, _, _, _⟩) rfl (fun K hK => ?_) AllReadyH.nil)
                      go_simp
                      have HB4 := sb_alloc HB3 (.cells #[.int .i64 0, .int .i64 0] 31)
                      have BD4 := Bx.new V3 (.int .i64 0) (.int .i64 0) 31
                      have hKD4 : W5.heap.size ≤ V3.heap.size := HB3.2.2.size
                      have BC4 := BC3.alloc (.cells #[.int .i64 0, .int .i64 0] 31)
                      have ne4 : KC3 ≠ V3.heap.size := Nat.ne_of_lt (cell_lt BC3.1)
                      refine hK.out _ _ HB4 (fun hHeld => ?_)
                      clear hK K hHeld
                      try simp only [Act.put, List.setIfInBounds_toArray, List.set_cons_zero, List.set_cons_succ]
                      generalize V3.alloc (.cells #[.int .i64 0, .int .i64 0] 31) = V4 at *
                      generalize V3.heap.size = KD4 at *
                      refine wpAnyH_ready (rs := [20]) (by kernel_rfl) (by simp) (AllReadyH.cons (o := ⟨_, _, _, _, _, _⟩) rfl (fun K hK => ?_) AllReadyH.nil)
                      have ⟨x0, x1, x2, x3⟩ := BC4
                      go_simp
                      have HB5 := sb_set2 hl85 HB4 hKC3 (.int .i64 (a0)) (.int .i64 (ql))
                      have BC5 := BC4.set2 (.int .i64 (a0)) (.int .i64 (ql))
                      have BD5 := bx_keep BD4 (show KD4 ≠ KC3 by first | assumption | exact Ne.symm (by assumption)) (.int .i64 (a0)) (.int .i64 (ql))
                      refine hK.out _ _ HB5 (fun hHeld => ?_)
                      clear hK K hHeld x0 x1 x2 x3
                      try simp only [Act.put, List.setIfInBounds_toArray, List.set_cons_zero, List.set_cons_succ]
                      generalize (V4.setCell ⟨KC3, 0, none⟩ (.int .i64 (a0))).setCell ⟨KC3, 1, none⟩ (.int .i64 (ql)) = V5 at *
                      refine wpAnyH_ready (rs := [21]) (by kernel_rfl) (by simp) (AllReadyH.cons (o := ⟨_, _, _, _, _, _⟩) rfl (fun K hK => ?_) AllReadyH.nil)
                      have ⟨x0, x1, x2, x3⟩ := BD5
                      go_simp
                      have HB6 := sb_set2 hl85 HB5 hKD4 (.int .i64 (a0 + zz)) (.int .i64 (ql))
                      have BD6 := BD5.set2 (.int .i64 (a0 + zz)) (.int .i64 (ql))
                      have BC6 := bx_keep BC5 (show KC3 ≠ KD4 by first | assumption | exact Ne.symm (by assumption)) (.int .i64 (a0 + zz)) (.int .i64 (ql))
                      refine hK.out _ _ HB6 (fun hHeld => ?_)
                      clear hK K hHeld x0 x1 x2 x3
                      try simp only [Act.put, List.setIfInBounds_toArray, List.set_cons_zero, List.set_cons_succ]
                      generalize (V5.setCell ⟨KD4, 0, none⟩ (.int .i64 (a0 + zz))).setCell ⟨KD4, 1, none⟩ (.int .i64 (ql)) = V6 at *
                      refine wpAnyH_done (by kernel_rfl) ?_ _
                      go_wp2_with fail
                      go_meet
                      case rel => exact ⟨KC3, KD4, rfl, rfl, hKC3, hKD4, ⟨BC6.1, BC6.2.1, BD6.1, BD6.2.1⟩, HB6.2.2⟩
                    · go_simp
                      have HB7 := sb_alloc HB2 (.cells #[.int .i64 0, .int .i64 0] 31)
                      have BD7 := Bx.new V2 (.int .i64 0) (.int .i64 0) 31
                      have hKD7 : W5.heap.size ≤ V2.heap.size := HB2.2.2.size
                      refine hK.out _ _ HB7 (fun hHeld => ?_)
                      clear hK K hHeld
                      try simp only [Act.put, List.setIfInBounds_toArray, List.set_cons_zero, List.set_cons_succ]
                      generalize V2.alloc (.cells #[.int .i64 0, .int .i64 0] 31) = V7 at *
                      generalize V2.heap.size = KD7 at *
                      refine wpAnyH_ready (rs := [18]) (by kernel_rfl) (by simp) (AllReadyH.cons (o := ⟨_, _, _, _, _, _⟩) rfl (fun K hK => ?_) AllReadyH.nil)
                      go_simp
                      have HB8 := sb_alloc HB7 (.cells #[.int .i64 0, .int .i64 0] 31)
                      have BC8 := Bx.new V7 (.int .i64 0) (.int .i64 0) 31
                      have hKC8 : W5.heap.size ≤ V7.heap.size := HB7.2.2.size
                      have BD8 := BD7.alloc (.cells #[.int .i64 0, .int .i64 0] 31)
                      have ne8 : KD7 ≠ V7.heap.size := Nat.ne_of_lt (cell_lt BD7.1)
                      refine hK.out _ _ HB8 (fun hHeld => ?_)
                      clear hK K hHeld
                      try simp only [Act.put, List.setIfInBounds_toArray, List.set_cons_zero, List.set_cons_succ]
                      generalize V7.alloc (.cells #[.int .i64 0, .int .i64 0] 31) = V8 at *
                      generalize V7.heap.size = KC8 at *
                      refine wpAnyH_ready (rs := [20]) (by kernel_rfl) (by simp) (AllReadyH.cons (o := ⟨_, _, _, _, _, _⟩) rfl (fun K hK => ?_) AllReadyH.nil)
                      have ⟨x0, x1, x2, x3⟩ := BC8
                      go_simp
                      have HB9 := sb_set2 hl85 HB8 hKC8 (.int .i64 (a0)) (.int .i64 (ql))
                      have BC9 := BC8.set2 (.int .i64 (a0)) (.int .i64 (ql))
                      have BD9 := bx_keep BD8 (show KD7 ≠ KC8 by first | assumption | exact Ne.symm (by assumption)) (.int .i64 (a0)) (.int .i64 (ql))
                      refine hK.out _ _ HB9 (fun hHeld => ?_)
                      clear hK K hHeld x0 x1 x2 x3
                      try simp only [Act.put, List.setIfInBounds_toArray, List.set_cons_zero, List.set_cons_succ]
                      generalize (V8.setCell ⟨KC8, 0, none⟩ (.int .i64 (a0))).setCell ⟨KC8, 1, none⟩ (.int .i64 (ql)) = V9 at *
                      refine wpAnyH_ready (rs := [21]) (by kernel_rfl) (by simp) (AllReadyH.cons (o := ⟨_, _, _, _, _, _⟩) rfl (fun K hK => ?_) AllReadyH.nil)
                      have ⟨x0, x1, x2, x3⟩ := BD9
                      go_simp
                      have HB10 := sb_set2 hl85 HB9 hKD7 (.int .i64 (a0 + zz)) (.int .i64 (ql))
                      have BD10 := BD9.set2 (.int .i64 (a0 + zz)) (.int .i64 (ql))
                      have BC10 := bx_keep BC9 (show KC8 ≠ KD7 by first | assumption | exact Ne.symm (by assumption)) (.int .i64 (a0 + zz)) (.int .i64 (ql))
                      refine hK.out _ _ HB10 (fun hHeld => ?_)
                      clear hK K hHeld x0 x1 x2 x3
                      try simp only [Act.put, List.setIfInBounds_toArray, List.set_cons_zero, List.set_cons_succ]
                      generalize (V9.setCell ⟨KD7, 0, none⟩ (.int .i64 (a0 + zz))).setCell ⟨KD7, 1, none⟩ (.int .i64 (ql)) = V10 at *
                      refine wpAnyH_done (by kernel_rfl) ?_ _
                      go_wp2_with fail
                      go_meet
                      case rel => exact ⟨KC8, KD7, rfl, rfl, hKC8, hKD7, ⟨BC10.1, BC10.2.1, BD10.1, BD10.2.1⟩, HB10.2.2⟩
                  · go_simp
                    have HB11 := sb_alloc HSB (.cells #[.int .i64 0, .int .i64 0] 31)
                    have BC11 := Bx.new V0 (.int .i64 0) (.int .i64 0) 31
                    have hKC11 : W5.heap.size ≤ V0.heap.size := HSB.2.2.size
                    refine hK.out _ _ HB11 (fun hHeld => ?_)
                    clear hK K hHeld
                    try simp only [Act.put, List.setIfInBounds_toArray, List.set_cons_zero, List.set_cons_succ]
                    generalize V0.alloc (.cells #[.int .i64 0, .int .i64 0] 31) = V11 at *
                    generalize V0.heap.size = KC11 at *
                    refine wpAnyH_ready (rs := [14, 19]) (by kernel_rfl) (by simp) (AllReadyH.cons (o := ⟨_, _, _, _, _, _⟩) rfl (fun K hK => ?_) (AllReadyH.cons (o := ⟨_, _, _, _, _, _⟩) rfl (fun K hK => ?_) AllReadyH.nil))
                    · go_simp
                      try rw [wa]
                      go_at_call 42
                      refine (hh _).mono ?_
                      rintro e V12 ⟨rfl, hb12⟩
                      have HB12 := sb_next hl85 HB11 hb12
                      have BC12 := BC11.below hb12
                      go_wp2_with fail
                      refine hK.out _ _ HB12 (fun hHeld => ?_)
                      clear hK K
                      try simp only [Act.put, List.setIfInBounds_toArray, List.set_cons_zero, List.set_cons_succ]
                      refine wpAnyH_take (i := 15) (oi := ⟨_, _, _, _, _, _⟩) (v := ?_) rfl (by kernel_rfl) (by kernel_rfl) (by kernel_rfl) (fun _ _ _ h => h) (Or.inl ⟨by rfl, ?_⟩) (by assumption) ?_
                      rotate_left
                      · (intro w hSw; (try dsimp only at hSw); go_simp; try with_reducible rfl)
                      simp only [Act.put, List.setIfInBounds_toArray, List.set_cons_zero, List.set_cons_succ]
                      refine wpAnyH_take (i := 16) (oi := ⟨_, _, _, _, _, _⟩) (v := ?_) rfl (by kernel_rfl) (by kernel_rfl) (by kernel_rfl) (fun _ _ _ h => h) (Or.inl ⟨by rfl, ?_⟩) (by assumption) ?_
                      rotate_left
                      · (intro w hSw; (try dsimp only at hSw); go_simp; try with_reducible rfl)
                      simp only [Act.put, List.setIfInBounds_toArray, List.set_cons_zero, List.set_cons_succ]
                      refine wpAnyH_take (i := 17) (oi := ⟨_, _, _, _, _, _⟩) (v := ?_) rfl (by kernel_rfl) (by kernel_rfl) (by kernel_rfl) (fun _ _ _ h => h) (Or.inl ⟨by rfl, ?_⟩) (by assumption) ?_
                      rotate_left
                      · (intro w hSw; (try dsimp only at hSw); go_simp; try with_reducible rfl)
                      simp only [Act.put, List.setIfInBounds_toArray, List.set_cons_zero, List.set_cons_succ]
                      refine wpAnyH_ready (rs := [19]) (by kernel_rfl) (by simp) (AllReadyH.cons (o := ⟨_, _, _, _, _, _⟩) rfl (fun K hK => ?_) AllReadyH.nil)
                      go_simp
                      have HB13 := sb_alloc HB12 (.cells #[.int .i64 0, .int .i64 0] 31)
                      have BD13 := Bx.new V12 (.int .i64 0) (.int .i64 0) 31
                      have hKD13 : W5.heap.size ≤ V12.heap.size := HB12.2.2.size
                      have BC13 := BC12.alloc (.cells #[.int .i64 0, .int .i64 0] 31)
                      have ne13 : KC11 ≠ V12.heap.size := Nat.ne_of_lt (cell_lt BC12.1)
                      refine hK.out _ _ HB13 (fun hHeld => ?_)
                      clear hK K hHeld
                      try simp only [Act.put, List.setIfInBounds_toArray, List.set_cons_zero, List.set_cons_succ]
                      generalize V12.alloc (.cells #[.int .i64 0, .int .i64 0] 31) = V13 at *
                      generalize V12.heap.size = KD13 at *
                      refine wpAnyH_ready (rs := [20]) (by kernel_rfl) (by simp) (AllReadyH.cons (o := ⟨_, _, _, _, _, _⟩) rfl (fun K hK => ?_) AllReadyH.nil)
                      have ⟨x0, x1, x2, x3⟩ := BC13
                      go_simp
                      have HB14 := sb_set2 hl85 HB13 hKC11 (.int .i64 (a0)) (.int .i64 (ql))
                      have BC14 := BC13.set2 (.int .i64 (a0)) (.int .i64 (ql))
                      have BD14 := bx_keep BD13 (show KD13 ≠ KC11 by first | assumption | exact Ne.symm (by assumption)) (.int .i64 (a0)) (.int .i64 (ql))
                      refine hK.out _ _ HB14 (fun hHeld => ?_)
                      clear hK K hHeld x0 x1 x2 x3
                      try simp only [Act.put, List.setIfInBounds_toArray, List.set_cons_zero, List.set_cons_succ]
                      generalize (V13.setCell ⟨KC11, 0, none⟩ (.int .i64 (a0))).setCell ⟨KC11, 1, none⟩ (.int .i64 (ql)) = V14 at *
                      refine wpAnyH_ready (rs := [21]) (by kernel_rfl) (by simp) (AllReadyH.cons (o := ⟨_, _, _, _, _, _⟩) rfl (fun K hK => ?_) AllReadyH.nil)
                      have ⟨x0, x1, x2, x3⟩ := BD14
                      go_simp
                      have HB15 := sb_set2 hl85 HB14 hKD13 (.int .i64 (a0 + zz)) (.int .i64 (ql))
                      have BD15 := BD14.set2 (.int .i64 (a0 + zz)) (.int .i64 (ql))
                      have BC15 := bx_keep BC14 (show KC11 ≠ KD13 by first | assumption | exact Ne.symm (by assumption)) (.int .i64 (a0 + zz)) (.int .i64 (ql))
                      refine hK.out _ _ HB15 (fun hHeld => ?_)
                      clear hK K hHeld x0 x1 x2 x3
                      try simp only [Act.put, List.setIfInBounds_toArray, List.set_cons_zero, List.set_cons_succ]
                      generalize (V14.setCell ⟨KD13, 0, none⟩ (.int .i64 (a0 + zz))).setCell ⟨KD13, 1, none⟩ (.int .i64 (ql)) = V15 at *
                      refine wpAnyH_done (by kernel_rfl) ?_ _
                      go_wp2_with fail
                      go_meet
                      case rel => exact ⟨KC11, KD13, rfl, rfl, hKC11, hKD13, ⟨BC15.1, BC15.2.1, BD15.1, BD15.2.1⟩, HB15.2.2⟩
                    · go_simp
                      have HB16 := sb_alloc HB11 (.cells #[.int .i64 0, .int .i64 0] 31)
                      have BD16 := Bx.new V11 (.int .i64 0) (.int .i64 0) 31
                      have hKD16 : W5.heap.size ≤ V11.heap.size := HB11.2.2.size
                      have BC16 := BC11.alloc (.cells #[.int .i64 0, .int .i64 0] 31)
                      have ne16 : KC11 ≠ V11.heap.size := Nat.ne_of_lt (cell_lt BC11.1)
                      refine hK.out _ _ HB16 (fun hHeld => ?_)
                      clear hK K hHeld
                      try simp only [Act.put, List.setIfInBounds_toArray, List.set_cons_zero, List.set_cons_succ]
                      generalize V11.alloc (.cells #[.int .i64 0, .int .i64 0] 31) = V16 at *
                      generalize V11.heap.size = KD16 at *
                      refine wpAnyH_ready (rs := [14]) (by kernel_rfl) (by simp) (AllReadyH.cons (o := ⟨_, _, _, _, _, _⟩) rfl (fun K hK => ?_) AllReadyH.nil)
                      go_simp
                      try rw [wa]
                      go_at_call 42
                      refine (hh _).mono ?_
                      rintro e V17 ⟨rfl, hb17⟩
                      have HB17 := sb_next hl85 HB16 hb17
                      have BC17 := BC16.below hb17
                      have BD17 := BD16.below hb17
                      go_wp2_with fail
                      refine hK.out _ _ HB17 (fun hHeld => ?_)
                      clear hK K
                      try simp only [Act.put, List.setIfInBounds_toArray, List.set_cons_zero, List.set_cons_succ]
                      refine wpAnyH_take (i := 15) (oi := ⟨_, _, _, _, _, _⟩) (v := ?_) rfl (by kernel_rfl) (by kernel_rfl) (by kernel_rfl) (fun _ _ _ h => h) (Or.inl ⟨by rfl, ?_⟩) (by assumption) ?_
                      rotate_left
                      · (intro w hSw; (try dsimp only at hSw); go_simp; try with_reducible rfl)
                      simp only [Act.put, List.setIfInBounds_toArray, List.set_cons_zero, List.set_cons_succ]
                      refine wpAnyH_take (i := 16) (oi := ⟨_, _, _, _, _, _⟩) (v := ?_) rfl (by kernel_rfl) (by kernel_rfl) (by kernel_rfl) (fun _ _ _ h => h) (Or.inl ⟨by rfl, ?_⟩) (by assumption) ?_
                      rotate_left
                      · (intro w hSw; (try dsimp only at hSw); go_simp; try with_reducible rfl)
                      simp only [Act.put, List.setIfInBounds_toArray, List.set_cons_zero, List.set_cons_succ]
                      refine wpAnyH_take (i := 17) (oi := ⟨_, _, _, _, _, _⟩) (v := ?_) rfl (by kernel_rfl) (by kernel_rfl) (by kernel_rfl) (fun _ _ _ h => h) (Or.inl ⟨by rfl, ?_⟩) (by assumption) ?_
                      rotate_left
                      · (intro w hSw; (try dsimp only at hSw); go_simp; try with_reducible rfl)
                      simp only [Act.put, List.setIfInBounds_toArray, List.set_cons_zero, List.set_cons_succ]
                      refine wpAnyH_ready (rs := [20]) (by kernel_rfl) (by simp) (AllReadyH.cons (o := ⟨_, _, _, _, _, _⟩) rfl (fun K hK => ?_) AllReadyH.nil)
                      have ⟨x0, x1, x2, x3⟩ := BC17
                      go_simp
                      have HB18 := sb_set2 hl85 HB17 hKC11 (.int .i64 (a0)) (.int .i64 (ql))
                      have BC18 := BC17.set2 (.int .i64 (a0)) (.int .i64 (ql))
                      have BD18 := bx_keep BD17 (show KD16 ≠ KC11 by first | assumption | exact Ne.symm (by assumption)) (.int .i64 (a0)) (.int .i64 (ql))
                      refine hK.out _ _ HB18 (fun hHeld => ?_)
                      clear hK K hHeld x0 x1 x2 x3
                      try simp only [Act.put, List.setIfInBounds_toArray, List.set_cons_zero, List.set_cons_succ]
                      generalize (V17.setCell ⟨KC11, 0, none⟩ (.int .i64 (a0))).setCell ⟨KC11, 1, none⟩ (.int .i64 (ql)) = V18 at *
                      refine wpAnyH_ready (rs := [21]) (by kernel_rfl) (by simp) (AllReadyH.cons (o := ⟨_, _, _, _, _, _⟩) rfl (fun K hK => ?_) AllReadyH.nil)
                      have ⟨x0, x1, x2, x3⟩ := BD18
                      go_simp
                      have HB19 := sb_set2 hl85 HB18 hKD16 (.int .i64 (a0 + zz)) (.int .i64 (ql))
                      have BD19 := BD18.set2 (.int .i64 (a0 + zz)) (.int .i64 (ql))
                      have BC19 := bx_keep BC18 (show KC11 ≠ KD16 by first | assumption | exact Ne.symm (by assumption)) (.int .i64 (a0 + zz)) (.int .i64 (ql))
                      refine hK.out _ _ HB19 (fun hHeld => ?_)
                      clear hK K hHeld x0 x1 x2 x3
                      try simp only [Act.put, List.setIfInBounds_toArray, List.set_cons_zero, List.set_cons_succ]
                      generalize (V18.setCell ⟨KD16, 0, none⟩ (.int .i64 (a0 + zz))).setCell ⟨KD16, 1, none⟩ (.int .i64 (ql)) = V19 at *
                      refine wpAnyH_done (by kernel_rfl) ?_ _
                      go_wp2_with fail
                      go_meet
                      case rel => exact ⟨KC11, KD16, rfl, rfl, hKC11, hKD16, ⟨BC19.1, BC19.2.1, BD19.1, BD19.2.1⟩, HB19.2.2⟩
                  · go_simp
                    have HB20 := sb_alloc HSB (.cells #[.int .i64 0, .int .i64 0] 31)
                    have BD20 := Bx.new V0 (.int .i64 0) (.int .i64 0) 31
                    have hKD20 : W5.heap.size ≤ V0.heap.size := HSB.2.2.size
                    refine hK.out _ _ HB20 (fun hHeld => ?_)
                    clear hK K hHeld
                    try simp only [Act.put, List.setIfInBounds_toArray, List.set_cons_zero, List.set_cons_succ]
                    generalize V0.alloc (.cells #[.int .i64 0, .int .i64 0] 31) = V20 at *
                    generalize V0.heap.size = KD20 at *
                    refine wpAnyH_ready (rs := [14, 18]) (by kernel_rfl) (by simp) (AllReadyH.cons (o := ⟨_, _, _, _, _, _⟩) rfl (fun K hK => ?_) (AllReadyH.cons (o := ⟨_, _, _, _, _, _⟩) rfl (fun K hK => ?_) AllReadyH.nil))
                    · go_simp
                      try rw [wa]
                      go_at_call 42
                      refine (hh _).mono ?_
                      rintro e V21 ⟨rfl, hb21⟩
                      have HB21 := sb_next hl85 HB20 hb21
                      have BD21 := BD20.below hb21
                      go_wp2_with fail
                      refine hK.out _ _ HB21 (fun hHeld => ?_)
                      clear hK K
                      try simp only [Act.put, List.setIfInBounds_toArray, List.set_cons_zero, List.set_cons_succ]
                      refine wpAnyH_take (i := 15) (oi := ⟨_, _, _, _, _, _⟩) (v := ?_) rfl (by kernel_rfl) (by kernel_rfl) (by kernel_rfl) (fun _ _ _ h => h) (Or.inl ⟨by rfl, ?_⟩) (by assumption) ?_
                      rotate_left
                      · (intro w hSw; (try dsimp only at hSw); go_simp; try with_reducible rfl)
                      simp only [Act.put, List.setIfInBounds_toArray, List.set_cons_zero, List.set_cons_succ]
                      refine wpAnyH_take (i := 16) (oi := ⟨_, _, _, _, _, _⟩) (v := ?_) rfl (by kernel_rfl) (by kernel_rfl) (by kernel_rfl) (fun _ _ _ h => h) (Or.inl ⟨by rfl, ?_⟩) (by assumption) ?_
                      rotate_left
                      · (intro w hSw; (try dsimp only at hSw); go_simp; try with_reducible rfl)
                      simp only [Act.put, List.setIfInBounds_toArray, List.set_cons_zero, List.set_cons_succ]
                      refine wpAnyH_take (i := 17) (oi := ⟨_, _, _, _, _, _⟩) (v := ?_) rfl (by kernel_rfl) (by kernel_rfl) (by kernel_rfl) (fun _ _ _ h => h) (Or.inl ⟨by rfl, ?_⟩) (by assumption) ?_
                      rotate_left
                      · (intro w hSw; (try dsimp only at hSw); go_simp; try with_reducible rfl)
                      simp only [Act.put, List.setIfInBounds_toArray, List.set_cons_zero, List.set_cons_succ]
                      refine wpAnyH_ready (rs := [18]) (by kernel_rfl) (by simp) (AllReadyH.cons (o := ⟨_, _, _, _, _, _⟩) rfl (fun K hK => ?_) AllReadyH.nil)
                      go_simp
                      have HB22 := sb_alloc HB21 (.cells #[.int .i64 0, .int .i64 0] 31)
                      have BC22 := Bx.new V21 (.int .i64 0) (.int .i64 0) 31
                      have hKC22 : W5.heap.size ≤ V21.heap.size := HB21.2.2.size
                      have BD22 := BD21.alloc (.cells #[.int .i64 0, .int .i64 0] 31)
                      have ne22 : KD20 ≠ V21.heap.size := Nat.ne_of_lt (cell_lt BD21.1)
                      refine hK.out _ _ HB22 (fun hHeld => ?_)
                      clear hK K hHeld
                      try simp only [Act.put, List.setIfInBounds_toArray, List.set_cons_zero, List.set_cons_succ]
                      generalize V21.alloc (.cells #[.int .i64 0, .int .i64 0] 31) = V22 at *
                      generalize V21.heap.size = KC22 at *
                      refine wpAnyH_ready (rs := [20]) (by kernel_rfl) (by simp) (AllReadyH.cons (o := ⟨_, _, _, _, _, _⟩) rfl (fun K hK => ?_) AllReadyH.nil)
                      have ⟨x0, x1, x2, x3⟩ := BC22
                      go_simp
                      have HB23 := sb_set2 hl85 HB22 hKC22 (.int .i64 (a0)) (.int .i64 (ql))
                      have BC23 := BC22.set2 (.int .i64 (a0)) (.int .i64 (ql))
                      have BD23 := bx_keep BD22 (show KD20 ≠ KC22 by first | assumption | exact Ne.symm (by assumption)) (.int .i64 (a0)) (.int .i64 (ql))
                      refine hK.out _ _ HB23 (fun hHeld => ?_)
                      clear hK K hHeld x0 x1 x2 x3
                      try simp only [Act.put, List.setIfInBounds_toArray, List.set_cons_zero, List.set_cons_succ]
                      generalize (V22.setCell ⟨KC22, 0, none⟩ (.int .i64 (a0))).setCell ⟨KC22, 1, none⟩ (.int .i64 (ql)) = V23 at *
                      refine wpAnyH_ready (rs := [21]) (by kernel_rfl) (by simp) (AllReadyH.cons (o := ⟨_, _, _, _, _, _⟩) rfl (fun K hK => ?_) AllReadyH.nil)
                      have ⟨x0, x1, x2, x3⟩ := BD23
                      go_simp
                      have HB24 := sb_set2 hl85 HB23 hKD20 (.int .i64 (a0 + zz)) (.int .i64 (ql))
                      have BD24 := BD23.set2 (.int .i64 (a0 + zz)) (.int .i64 (ql))
                      have BC24 := bx_keep BC23 (show KC22 ≠ KD20 by first | assumption | exact Ne.symm (by assumption)) (.int .i64 (a0 + zz)) (.int .i64 (ql))
                      refine hK.out _ _ HB24 (fun hHeld => ?_)
                      clear hK K hHeld x0 x1 x2 x3
                      try simp only [Act.put, List.setIfInBounds_toArray, List.set_cons_zero, List.set_cons_succ]
                      generalize (V23.setCell ⟨KD20, 0, none⟩ (.int .i64 (a0 + zz))).setCell ⟨KD20, 1, none⟩ (.int .i64 (ql)) = V24 at *
                      refine wpAnyH_done (by kernel_rfl) ?_ _
                      go_wp2_with fail
                      go_meet
                      case rel => exact ⟨KC22, KD20, rfl, rfl, hKC22, hKD20, ⟨BC24.1, BC24.2.1, BD24.1, BD24.2.1⟩, HB24.2.2⟩
                    · go_simp
                      have HB25 := sb_alloc HB20 (.cells #[.int .i64 0, .int .i64 0] 31)
                      have BC25 := Bx.new V20 (.int .i64 0) (.int .i64 0) 31
                      have hKC25 : W5.heap.size ≤ V20.heap.size := HB20.2.2.size
                      have BD25 := BD20.alloc (.cells #[.int .i64 0, .int .i64 0] 31)
                      have ne25 : KD20 ≠ V20.heap.size := Nat.ne_of_lt (cell_lt BD20.1)
                      refine hK.out _ _ HB25 (fun hHeld => ?_)
                      clear hK K hHeld
                      try simp only [Act.put, List.setIfInBounds_toArray, List.set_cons_zero, List.set_cons_succ]
                      generalize V20.alloc (.cells #[.int .i64 0, .int .i64 0] 31) = V25 at *
                      generalize V20.heap.size = KC25 at *
                      refine wpAnyH_ready (rs := [14]) (by kernel_rfl) (by simp) (AllReadyH.cons (o := ⟨_, _, _, _, _, _⟩) rfl (fun K hK => ?_) AllReadyH.nil)
                      go_simp
                      try rw [wa]
                      go_at_call 42
                      refine (hh _).mono ?_
                      rintro e V26 ⟨rfl, hb26⟩
                      have HB26 := sb_next hl85 HB25 hb26
                      have BD26 := BD25.below hb26
                      have BC26 := BC25.below hb26
                      go_wp2_with fail
                      refine hK.out _ _ HB26 (fun hHeld => ?_)
                      clear hK K
                      try simp only [Act.put, List.setIfInBounds_toArray, List.set_cons_zero, List.set_cons_succ]
                      refine wpAnyH_take (i := 15) (oi := ⟨_, _, _, _, _, _⟩) (v := ?_) rfl (by kernel_rfl) (by kernel_rfl) (by kernel_rfl) (fun _ _ _ h => h) (Or.inl ⟨by rfl, ?_⟩) (by assumption) ?_
                      rotate_left
                      · (intro w hSw; (try dsimp only at hSw); go_simp; try with_reducible rfl)
                      simp only [Act.put, List.setIfInBounds_toArray, List.set_cons_zero, List.set_cons_succ]
                      refine wpAnyH_take (i := 16) (oi := ⟨_, _, _, _, _, _⟩) (v := ?_) rfl (by kernel_rfl) (by kernel_rfl) (by kernel_rfl) (fun _ _ _ h => h) (Or.inl ⟨by rfl, ?_⟩) (by assumption) ?_
                      rotate_left
                      · (intro w hSw; (try dsimp only at hSw); go_simp; try with_reducible rfl)
                      simp only [Act.put, List.setIfInBounds_toArray, List.set_cons_zero, List.set_cons_succ]
                      refine wpAnyH_take (i := 17) (oi := ⟨_, _, _, _, _, _⟩) (v := ?_) rfl (by kernel_rfl) (by kernel_rfl) (by kernel_rfl) (fun _ _ _ h => h) (Or.inl ⟨by rfl, ?_⟩) (by assumption) ?_
                      rotate_left
                      · (intro w hSw; (try dsimp only at hSw); go_simp; try with_reducible rfl)
                      simp only [Act.put, List.setIfInBounds_toArray, List.set_cons_zero, List.set_cons_succ]
                      refine wpAnyH_ready (rs := [20]) (by kernel_rfl) (by simp) (AllReadyH.cons (o := ⟨_, _, _, _, _, _⟩) rfl (fun K hK => ?_) AllReadyH.nil)
                      have ⟨x0, x1, x2, x3⟩ := BC26
                      go_simp
                      have HB27 := sb_set2 hl85 HB26 hKC25 (.int .i64 (a0)) (.int .i64 (ql))
                      have BC27 := BC26.set2 (.int .i64 (a0)) (.int .i64 (ql))
                      have BD27 := bx_keep BD26 (show KD20 ≠ KC25 by first | assumption | exact Ne.symm (by assumption)) (.int .i64 (a0)) (.int .i64 (ql))
                      refine hK.out _ _ HB27 (fun hHeld => ?_)
                      clear hK K hHeld x0 x1 x2 x3
                      try simp only [Act.put, List.setIfInBounds_toArray, List.set_cons_zero, List.set_cons_succ]
                      generalize (V26.setCell ⟨KC25, 0, none⟩ (.int .i64 (a0))).setCell ⟨KC25, 1, none⟩ (.int .i64 (ql)) = V27 at *
                      refine wpAnyH_ready (rs := [21]) (by kernel_rfl) (by simp) (AllReadyH.cons (o := ⟨_, _, _, _, _, _⟩) rfl (fun K hK => ?_) AllReadyH.nil)
                      have ⟨x0, x1, x2, x3⟩ := BD27
                      go_simp
                      have HB28 := sb_set2 hl85 HB27 hKD20 (.int .i64 (a0 + zz)) (.int .i64 (ql))
                      have BD28 := BD27.set2 (.int .i64 (a0 + zz)) (.int .i64 (ql))
                      have BC28 := bx_keep BC27 (show KC25 ≠ KD20 by first | assumption | exact Ne.symm (by assumption)) (.int .i64 (a0 + zz)) (.int .i64 (ql))
                      refine hK.out _ _ HB28 (fun hHeld => ?_)
                      clear hK K hHeld x0 x1 x2 x3
                      try simp only [Act.put, List.setIfInBounds_toArray, List.set_cons_zero, List.set_cons_succ]
                      generalize (V27.setCell ⟨KD20, 0, none⟩ (.int .i64 (a0 + zz))).setCell ⟨KD20, 1, none⟩ (.int .i64 (ql)) = V28 at *
                      refine wpAnyH_done (by kernel_rfl) ?_ _
                      go_wp2_with fail
                      go_meet
                      case rel => exact ⟨KC25, KD20, rfl, rfl, hKC25, hKD20, ⟨BC28.1, BC28.2.1, BD28.1, BD28.2.1⟩, HB28.2.2⟩
                · go_simp
                  have HB29 := sb_alloc HSB (.cells #[.int .i64 0, .int .i64 0] 31)
                  have BC29 := Bx.new V0 (.int .i64 0) (.int .i64 0) 31
                  have hKC29 : W5.heap.size ≤ V0.heap.size := HSB.2.2.size
                  refine hK.out _ _ HB29 (fun hHeld => ?_)
                  clear hK K hHeld
                  try simp only [Act.put, List.setIfInBounds_toArray, List.set_cons_zero, List.set_cons_succ]
                  generalize V0.alloc (.cells #[.int .i64 0, .int .i64 0] 31) = V29 at *
                  generalize V0.heap.size = KC29 at *
                  refine wpAnyH_ready (rs := [7, 19]) (by kernel_rfl) (by simp) (AllReadyH.cons (o := ⟨_, _, _, _, _, _⟩) rfl (fun K hK => ?_) (AllReadyH.cons (o := ⟨_, _, _, _, _, _⟩) rfl (fun K hK => ?_) AllReadyH.nil))
                  · go_simp
                    go_at_call 49
                    refine (hs _).mono ?_
                    rintro e wx ⟨rfl, hw⟩
                    obtain rfl := hw.symm
                    go_wp2_with fail
                    refine hK.out _ _ HB29 (fun hHeld => ?_)
                    clear hK K
                    try simp only [Act.put, List.setIfInBounds_toArray, List.set_cons_zero, List.set_cons_succ]
                    refine wpAnyH_take (i := 8) (oi := ⟨_, _, _, _, _, _⟩) (v := ?_) rfl (by kernel_rfl) (by kernel_rfl) (by kernel_rfl) (fun _ _ _ h => h) (Or.inl ⟨by rfl, ?_⟩) (by assumption) ?_
                    rotate_left
                    · (intro w hSw; (try dsimp only at hSw); go_simp; try with_reducible rfl)
                    simp only [Act.put, List.setIfInBounds_toArray, List.set_cons_zero, List.set_cons_succ]
                    refine wpAnyH_take (i := 9) (oi := ⟨_, _, _, _, _, _⟩) (v := ?_) rfl (by kernel_rfl) (by kernel_rfl) (by kernel_rfl) (fun _ _ _ h => h) (Or.inl ⟨by rfl, ?_⟩) (by assumption) ?_
                    rotate_left
                    · (intro w hSw; (try dsimp only at hSw); go_simp; try with_reducible rfl)
                    simp only [Act.put, List.setIfInBounds_toArray, List.set_cons_zero, List.set_cons_succ]
                    refine wpAnyH_take (i := 13) (oi := ⟨_, _, _, _, _, _⟩) (v := ?_) rfl (by kernel_rfl) (by kernel_rfl) (by kernel_rfl) (fun _ _ _ h => h) (Or.inl ⟨by rfl, ?_⟩) (by assumption) ?_
                    rotate_left
                    · (intro w hSw; (try dsimp only at hSw); go_simp; try with_reducible rfl)
                    simp only [Act.put, List.setIfInBounds_toArray, List.set_cons_zero, List.set_cons_succ]
                    refine wpAnyH_ready (rs := [14, 19]) (by kernel_rfl) (by simp) (AllReadyH.cons (o := ⟨_, _, _, _, _, _⟩) rfl (fun K hK => ?_) (AllReadyH.cons (o := ⟨_, _, _, _, _, _⟩) rfl (fun K hK => ?_) AllReadyH.nil))
                    · go_simp
                      try rw [wa]
                      go_at_call 42
                      refine (hh _).mono ?_
                      rintro e V31 ⟨rfl, hb31⟩
                      have HB31 := sb_next hl85 HB29 hb31
                      have BC31 := BC29.below hb31
                      go_wp2_with fail
                      refine hK.out _ _ HB31 (fun hHeld => ?_)
                      clear hK K
                      try simp only [Act.put, List.setIfInBounds_toArray, List.set_cons_zero, List.set_cons_succ]
                      refine wpAnyH_take (i := 15) (oi := ⟨_, _, _, _, _, _⟩) (v := ?_) rfl (by kernel_rfl) (by kernel_rfl) (by kernel_rfl) (fun _ _ _ h => h) (Or.inl ⟨by rfl, ?_⟩) (by assumption) ?_
                      rotate_left
                      · (intro w hSw; (try dsimp only at hSw); go_simp; try with_reducible rfl)
                      simp only [Act.put, List.setIfInBounds_toArray, List.set_cons_zero, List.set_cons_succ]
                      refine wpAnyH_take (i := 16) (oi := ⟨_, _, _, _, _, _⟩) (v := ?_) rfl (by kernel_rfl) (by kernel_rfl) (by kernel_rfl) (fun _ _ _ h => h) (Or.inl ⟨by rfl, ?_⟩) (by assumption) ?_
                      rotate_left
                      · (intro w hSw; (try dsimp only at hSw); go_simp; try with_reducible rfl)
                      simp only [Act.put, List.setIfInBounds_toArray, List.set_cons_zero, List.set_cons_succ]
                      refine wpAnyH_take (i := 17) (oi := ⟨_, _, _, _, _, _⟩) (v := ?_) rfl (by kernel_rfl) (by kernel_rfl) (by kernel_rfl) (fun _ _ _ h => h) (Or.inl ⟨by rfl, ?_⟩) (by assumption) ?_
                      rotate_left
                      · (intro w hSw; (try dsimp only at hSw); go_simp; try with_reducible rfl)
                      simp only [Act.put, List.setIfInBounds_toArray, List.set_cons_zero, List.set_cons_succ]
                      refine wpAnyH_ready (rs := [19]) (by kernel_rfl) (by simp) (AllReadyH.cons (o := ⟨_, _, _, _, _, _⟩) rfl (fun K hK => ?_) AllReadyH.nil)
                      go_simp
                      have HB32 := sb_alloc HB31 (.cells #[.int .i64 0, .int .i64 0] 31)
                      have BD32 := Bx.new V31 (.int .i64 0) (.int .i64 0) 31
                      have hKD32 : W5.heap.size ≤ V31.heap.size := HB31.2.2.size
                      have BC32 := BC31.alloc (.cells #[.int .i64 0, .int .i64 0] 31)
                      have ne32 : KC29 ≠ V31.heap.size := Nat.ne_of_lt (cell_lt BC31.1)
                      refine hK.out _ _ HB32 (fun hHeld => ?_)
                      clear hK K hHeld
                      try simp only [Act.put, List.setIfInBounds_toArray, List.set_cons_zero, List.set_cons_succ]
                      generalize V31.alloc (.cells #[.int .i64 0, .int .i64 0] 31) = V32 at *
                      generalize V31.heap.size = KD32 at *
                      refine wpAnyH_ready (rs := [20]) (by kernel_rfl) (by simp) (AllReadyH.cons (o := ⟨_, _, _, _, _, _⟩) rfl (fun K hK => ?_) AllReadyH.nil)
                      have ⟨x0, x1, x2, x3⟩ := BC32
                      go_simp
                      have HB33 := sb_set2 hl85 HB32 hKC29 (.int .i64 (a0)) (.int .i64 (ql))
                      have BC33 := BC32.set2 (.int .i64 (a0)) (.int .i64 (ql))
                      have BD33 := bx_keep BD32 (show KD32 ≠ KC29 by first | assumption | exact Ne.symm (by assumption)) (.int .i64 (a0)) (.int .i64 (ql))
                      refine hK.out _ _ HB33 (fun hHeld => ?_)
                      clear hK K hHeld x0 x1 x2 x3
                      try simp only [Act.put, List.setIfInBounds_toArray, List.set_cons_zero, List.set_cons_succ]
                      generalize (V32.setCell ⟨KC29, 0, none⟩ (.int .i64 (a0))).setCell ⟨KC29, 1, none⟩ (.int .i64 (ql)) = V33 at *
                      refine wpAnyH_ready (rs := [21]) (by kernel_rfl) (by simp) (AllReadyH.cons (o := ⟨_, _, _, _, _, _⟩) rfl (fun K hK => ?_) AllReadyH.nil)
                      have ⟨x0, x1, x2, x3⟩ := BD33
                      go_simp
                      have HB34 := sb_set2 hl85 HB33 hKD32 (.int .i64 (a0 + zz)) (.int .i64 (ql))
                      have BD34 := BD33.set2 (.int .i64 (a0 + zz)) (.int .i64 (ql))
                      have BC34 := bx_keep BC33 (show KC29 ≠ KD32 by first | assumption | exact Ne.symm (by assumption)) (.int .i64 (a0 + zz)) (.int .i64 (ql))
                      refine hK.out _ _ HB34 (fun hHeld => ?_)
                      clear hK K hHeld x0 x1 x2 x3
                      try simp only [Act.put, List.setIfInBounds_toArray, List.set_cons_zero, List.set_cons_succ]
                      generalize (V33.setCell ⟨KD32, 0, none⟩ (.int .i64 (a0 + zz))).setCell ⟨KD32, 1, none⟩ (.int .i64 (ql)) = V34 at *
                      refine wpAnyH_done (by kernel_rfl) ?_ _
                      go_wp2_with fail
                      go_meet
                      case rel => exact ⟨KC29, KD32, rfl, rfl, hKC29, hKD32, ⟨BC34.1, BC34.2.1, BD34.1, BD34.2.1⟩, HB34.2.2⟩
                    · go_simp
                      have HB35 := sb_alloc HB29 (.cells #[.int .i64 0, .int .i64 0] 31)
                      have BD35 := Bx.new V29 (.int .i64 0) (.int .i64 0) 31
                      have hKD35 : W5.heap.size ≤ V29.heap.size := HB29.2.2.size
                      have BC35 := BC29.alloc (.cells #[.int .i64 0, .int .i64 0] 31)
                      have ne35 : KC29 ≠ V29.heap.size := Nat.ne_of_lt (cell_lt BC29.1)
                      refine hK.out _ _ HB35 (fun hHeld => ?_)
                      clear hK K hHeld
                      try simp only [Act.put, List.setIfInBounds_toArray, List.set_cons_zero, List.set_cons_succ]
                      generalize V29.alloc (.cells #[.int .i64 0, .int .i64 0] 31) = V35 at *
                      generalize V29.heap.size = KD35 at *
                      refine wpAnyH_ready (rs := [14]) (by kernel_rfl) (by simp) (AllReadyH.cons (o := ⟨_, _, _, _, _, _⟩) rfl (fun K hK => ?_) AllReadyH.nil)
                      go_simp
                      try rw [wa]
                      go_at_call 42
                      refine (hh _).mono ?_
                      rintro e V36 ⟨rfl, hb36⟩
                      have HB36 := sb_next hl85 HB35 hb36
                      have BC36 := BC35.below hb36
                      have BD36 := BD35.below hb36
                      go_wp2_with fail
                      refine hK.out _ _ HB36 (fun hHeld => ?_)
                      clear hK K
                      try simp only [Act.put, List.setIfInBounds_toArray, List.set_cons_zero, List.set_cons_succ]
                      refine wpAnyH_take (i := 15) (oi := ⟨_, _, _, _, _, _⟩) (v := ?_) rfl (by kernel_rfl) (by kernel_rfl) (by kernel_rfl) (fun _ _ _ h => h) (Or.inl ⟨by rfl, ?_⟩) (by assumption) ?_
                      rotate_left
                      · (intro w hSw; (try dsimp only at hSw); go_simp; try with_reducible rfl)
                      simp only [Act.put, List.setIfInBounds_toArray, List.set_cons_zero, List.set_cons_succ]
                      refine wpAnyH_take (i := 16) (oi := ⟨_, _, _, _, _, _⟩) (v := ?_) rfl (by kernel_rfl) (by kernel_rfl) (by kernel_rfl) (fun _ _ _ h => h) (Or.inl ⟨by rfl, ?_⟩) (by assumption) ?_
                      rotate_left
                      · (intro w hSw; (try dsimp only at hSw); go_simp; try with_reducible rfl)
                      simp only [Act.put, List.setIfInBounds_toArray, List.set_cons_zero, List.set_cons_succ]
                      refine wpAnyH_take (i := 17) (oi := ⟨_, _, _, _, _, _⟩) (v := ?_) rfl (by kernel_rfl) (by kernel_rfl) (by kernel_rfl) (fun _ _ _ h => h) (Or.inl ⟨by rfl, ?_⟩) (by assumption) ?_
                      rotate_left
                      · (intro w hSw; (try dsimp only at hSw); go_simp; try with_reducible rfl)
                      simp only [Act.put, List.setIfInBounds_toArray, List.set_cons_zero, List.set_cons_succ]
                      refine wpAnyH_ready (rs := [20]) (by kernel_rfl) (by simp) (AllReadyH.cons (o := ⟨_, _, _, _, _, _⟩) rfl (fun K hK => ?_) AllReadyH.nil)
                      have ⟨x0, x1, x2, x3⟩ := BC36
                      go_simp
                      have HB37 := sb_set2 hl85 HB36 hKC29 (.int .i64 (a0)) (.int .i64 (ql))
                      have BC37 := BC36.set2 (.int .i64 (a0)) (.int .i64 (ql))
                      have BD37 := bx_keep BD36 (show KD35 ≠ KC29 by first | assumption | exact Ne.symm (by assumption)) (.int .i64 (a0)) (.int .i64 (ql))
                      refine hK.out _ _ HB37 (fun hHeld => ?_)
                      clear hK K hHeld x0 x1 x2 x3
                      try simp only [Act.put, List.setIfInBounds_toArray, List.set_cons_zero, List.set_cons_succ]
                      generalize (V36.setCell ⟨KC29, 0, none⟩ (.int .i64 (a0))).setCell ⟨KC29, 1, none⟩ (.int .i64 (ql)) = V37 at *
                      refine wpAnyH_ready (rs := [21]) (by kernel_rfl) (by simp) (AllReadyH.cons (o := ⟨_, _, _, _, _, _⟩) rfl (fun K hK => ?_) AllReadyH.nil)
                      have ⟨x0, x1, x2, x3⟩ := BD37
                      go_simp
                      have HB38 := sb_set2 hl85 HB37 hKD35 (.int .i64 (a0 + zz)) (.int .i64 (ql))
                      have BD38 := BD37.set2 (.int .i64 (a0 + zz)) (.int .i64 (ql))
                      have BC38 := bx_keep BC37 (show KC29 ≠ KD35 by first | assumption | exact Ne.symm (by assumption)) (.int .i64 (a0 + zz)) (.int .i64 (ql))
                      refine hK.out _ _ HB38 (fun hHeld => ?_)
                      clear hK K hHeld x0 x1 x2 x3
                      try simp only [Act.put, List.setIfInBounds_toArray, List.set_cons_zero, List.set_cons_succ]
                      generalize (V37.setCell ⟨KD35, 0, none⟩ (.int .i64 (a0 + zz))).setCell ⟨KD35, 1, none⟩ (.int .i64 (ql)) = V38 at *
                      refine wpAnyH_done (by kernel_rfl) ?_ _
                      go_wp2_with fail
                      go_meet
                      case rel => exact ⟨KC29, KD35, rfl, rfl, hKC29, hKD35, ⟨BC38.1, BC38.2.1, BD38.1, BD38.2.1⟩, HB38.2.2⟩
                  · go_simp
                    have HB39 := sb_alloc HB29 (.cells #[.int .i64 0, .int .i64 0] 31)
                    have BD39 := Bx.new V29 (.int .i64 0) (.int .i64 0) 31
                    have hKD39 : W5.heap.size ≤ V29.heap.size := HB29.2.2.size
                    have BC39 := BC29.alloc (.cells #[.int .i64 0, .int .i64 0] 31)
                    have ne39 : KC29 ≠ V29.heap.size := Nat.ne_of_lt (cell_lt BC29.1)
                    refine hK.out _ _ HB39 (fun hHeld => ?_)
                    clear hK K hHeld
                    try simp only [Act.put, List.setIfInBounds_toArray, List.set_cons_zero, List.set_cons_succ]
                    generalize V29.alloc (.cells #[.int .i64 0, .int .i64 0] 31) = V39 at *
                    generalize V29.heap.size = KD39 at *
                    refine wpAnyH_ready (rs := [7]) (by kernel_rfl) (by simp) (AllReadyH.cons (o := ⟨_, _, _, _, _, _⟩) rfl (fun K hK => ?_) AllReadyH.nil)
                    go_simp
                    go_at_call 49
                    refine (hs _).mono ?_
                    rintro e wx ⟨rfl, hw⟩
                    obtain rfl := hw.symm
                    go_wp2_with fail
                    refine hK.out _ _ HB39 (fun hHeld => ?_)
                    clear hK K
                    try simp only [Act.put, List.setIfInBounds_toArray, List.set_cons_zero, List.set_cons_succ]
                    refine wpAnyH_take (i := 8) (oi := ⟨_, _, _, _, _, _⟩) (v := ?_) rfl (by kernel_rfl) (by kernel_rfl) (by kernel_rfl) (fun _ _ _ h => h) (Or.inl ⟨by rfl, ?_⟩) (by assumption) ?_
                    rotate_left
                    · (intro w hSw; (try dsimp only at hSw); go_simp; try with_reducible rfl)
                    simp only [Act.put, List.setIfInBounds_toArray, List.set_cons_zero, List.set_cons_succ]
                    refine wpAnyH_take (i := 9) (oi := ⟨_, _, _, _, _, _⟩) (v := ?_) rfl (by kernel_rfl) (by kernel_rfl) (by kernel_rfl) (fun _ _ _ h => h) (Or.inl ⟨by rfl, ?_⟩) (by assumption) ?_
                    rotate_left
                    · (intro w hSw; (try dsimp only at hSw); go_simp; try with_reducible rfl)
                    simp only [Act.put, List.setIfInBounds_toArray, List.set_cons_zero, List.set_cons_succ]
                    refine wpAnyH_take (i := 13) (oi := ⟨_, _, _, _, _, _⟩) (v := ?_) rfl (by kernel_rfl) (by kernel_rfl) (by kernel_rfl) (fun _ _ _ h => h) (Or.inl ⟨by rfl, ?_⟩) (by assumption) ?_
                    rotate_left
                    · (intro w hSw; (try dsimp only at hSw); go_simp; try with_reducible rfl)
                    simp only [Act.put, List.setIfInBounds_toArray, List.set_cons_zero, List.set_cons_succ]
                    refine wpAnyH_ready (rs := [14]) (by kernel_rfl) (by simp) (AllReadyH.cons (o := ⟨_, _, _, _, _, _⟩) rfl (fun K hK => ?_) AllReadyH.nil)
                    go_simp
                    try rw [wa]
                    go_at_call 42
                    refine (hh _).mono ?_
                    rintro e V41 ⟨rfl, hb41⟩
                    have HB41 := sb_next hl85 HB39 hb41
                    have BC41 := BC39.below hb41
                    have BD41 := BD39.below hb41
                    go_wp2_with fail
                    refine hK.out _ _ HB41 (fun hHeld => ?_)
                    clear hK K
                    try simp only [Act.put, List.setIfInBounds_toArray, List.set_cons_zero, List.set_cons_succ]
                    refine wpAnyH_take (i := 15) (oi := ⟨_, _, _, _, _, _⟩) (v := ?_) rfl (by kernel_rfl) (by kernel_rfl) (by kernel_rfl) (fun _ _ _ h => h) (Or.inl ⟨by rfl, ?_⟩) (by assumption) ?_
                    rotate_left
                    · (intro w hSw; (try dsimp only at hSw); go_simp; try with_reducible rfl)
                    simp only [Act.put, List.setIfInBounds_toArray, List.set_cons_zero, List.set_cons_succ]
                    refine wpAnyH_take (i := 16) (oi := ⟨_, _, _, _, _, _⟩) (v := ?_) rfl (by kernel_rfl) (by kernel_rfl) (by kernel_rfl) (fun _ _ _ h => h) (Or.inl ⟨by rfl, ?_⟩) (by assumption) ?_
                    rotate_left
                    · (intro w hSw; (try dsimp only at hSw); go_simp; try with_reducible rfl)
                    simp only [Act.put, List.setIfInBounds_toArray, List.set_cons_zero, List.set_cons_succ]
                    refine wpAnyH_take (i := 17) (oi := ⟨_, _, _, _, _, _⟩) (v := ?_) rfl (by kernel_rfl) (by kernel_rfl) (by kernel_rfl) (fun _ _ _ h => h) (Or.inl ⟨by rfl, ?_⟩) (by assumption) ?_
                    rotate_left
                    · (intro w hSw; (try dsimp only at hSw); go_simp; try with_reducible rfl)
                    simp only [Act.put, List.setIfInBounds_toArray, List.set_cons_zero, List.set_cons_succ]
                    refine wpAnyH_ready (rs := [20]) (by kernel_rfl) (by simp) (AllReadyH.cons (o := ⟨_, _, _, _, _, _⟩) rfl (fun K hK => ?_) AllReadyH.nil)
                    have ⟨x0, x1, x2, x3⟩ := BC41
                    go_simp
                    have HB42 := sb_set2 hl85 HB41 hKC29 (.int .i64 (a0)) (.int .i64 (ql))
                    have BC42 := BC41.set2 (.int .i64 (a0)) (.int .i64 (ql))
                    have BD42 := bx_keep BD41 (show KD39 ≠ KC29 by first | assumption | exact Ne.symm (by assumption)) (.int .i64 (a0)) (.int .i64 (ql))
                    refine hK.out _ _ HB42 (fun hHeld => ?_)
                    clear hK K hHeld x0 x1 x2 x3
                    try simp only [Act.put, List.setIfInBounds_toArray, List.set_cons_zero, List.set_cons_succ]
                    generalize (V41.setCell ⟨KC29, 0, none⟩ (.int .i64 (a0))).setCell ⟨KC29, 1, none⟩ (.int .i64 (ql)) = V42 at *
                    refine wpAnyH_ready (rs := [21]) (by kernel_rfl) (by simp) (AllReadyH.cons (o := ⟨_, _, _, _, _, _⟩) rfl (fun K hK => ?_) AllReadyH.nil)
                    have ⟨x0, x1, x2, x3⟩ := BD42
                    go_simp
                    have HB43 := sb_set2 hl85 HB42 hKD39 (.int .i64 (a0 + zz)) (.int .i64 (ql))
                    have BD43 := BD42.set2 (.int .i64 (a0 + zz)) (.int .i64 (ql))
                    have BC43 := bx_keep BC42 (show KC29 ≠ KD39 by first | assumption | exact Ne.symm (by assumption)) (.int .i64 (a0 + zz)) (.int .i64 (ql))
                    refine hK.out _ _ HB43 (fun hHeld => ?_)
                    clear hK K hHeld x0 x1 x2 x3
                    try simp only [Act.put, List.setIfInBounds_toArray, List.set_cons_zero, List.set_cons_succ]
                    generalize (V42.setCell ⟨KD39, 0, none⟩ (.int .i64 (a0 + zz))).setCell ⟨KD39, 1, none⟩ (.int .i64 (ql)) = V43 at *
                    refine wpAnyH_done (by kernel_rfl) ?_ _
                    go_wp2_with fail
                    go_meet
                    case rel => exact ⟨KC29, KD39, rfl, rfl, hKC29, hKD39, ⟨BC43.1, BC43.2.1, BD43.1, BD43.2.1⟩, HB43.2.2⟩
                · go_simp
                  have HB44 := sb_alloc HSB (.cells #[.int .i64 0, .int .i64 0] 31)
                  have BD44 := Bx.new V0 (.int .i64 0) (.int .i64 0) 31
                  have hKD44 : W5.heap.size ≤ V0.heap.size := HSB.2.2.size
                  refine hK.out _ _ HB44 (fun hHeld => ?_)
                  clear hK K hHeld
                  try simp only [Act.put, List.setIfInBounds_toArray, List.set_cons_zero, List.set_cons_succ]
                  generalize V0.alloc (.cells #[.int .i64 0, .int .i64 0] 31) = V44 at *
                  generalize V0.heap.size = KD44 at *
                  refine wpAnyH_ready (rs := [7, 18]) (by kernel_rfl) (by simp) (AllReadyH.cons (o := ⟨_, _, _, _, _, _⟩) rfl (fun K hK => ?_) (AllReadyH.cons (o := ⟨_, _, _, _, _, _⟩) rfl (fun K hK => ?_) AllReadyH.nil))
                  · go_simp
                    go_at_call 49
                    refine (hs _).mono ?_
                    rintro e wx ⟨rfl, hw⟩
                    obtain rfl := hw.symm
                    go_wp2_with fail
                    refine hK.out _ _ HB44 (fun hHeld => ?_)
                    clear hK K
                    try simp only [Act.put, List.setIfInBounds_toArray, List.set_cons_zero, List.set_cons_succ]
                    refine wpAnyH_take (i := 8) (oi := ⟨_, _, _, _, _, _⟩) (v := ?_) rfl (by kernel_rfl) (by kernel_rfl) (by kernel_rfl) (fun _ _ _ h => h) (Or.inl ⟨by rfl, ?_⟩) (by assumption) ?_
                    rotate_left
                    · (intro w hSw; (try dsimp only at hSw); go_simp; try with_reducible rfl)
                    simp only [Act.put, List.setIfInBounds_toArray, List.set_cons_zero, List.set_cons_succ]
                    refine wpAnyH_take (i := 9) (oi := ⟨_, _, _, _, _, _⟩) (v := ?_) rfl (by kernel_rfl) (by kernel_rfl) (by kernel_rfl) (fun _ _ _ h => h) (Or.inl ⟨by rfl, ?_⟩) (by assumption) ?_
                    rotate_left
                    · (intro w hSw; (try dsimp only at hSw); go_simp; try with_reducible rfl)
                    simp only [Act.put, List.setIfInBounds_toArray, List.set_cons_zero, List.set_cons_succ]
                    refine wpAnyH_take (i := 13) (oi := ⟨_, _, _, _, _, _⟩) (v := ?_) rfl (by kernel_rfl) (by kernel_rfl) (by kernel_rfl) (fun _ _ _ h => h) (Or.inl ⟨by rfl, ?_⟩) (by assumption) ?_
                    rotate_left
                    · (intro w hSw; (try dsimp only at hSw); go_simp; try with_reducible rfl)
                    simp only [Act.put, List.setIfInBounds_toArray, List.set_cons_zero, List.set_cons_succ]
                    refine wpAnyH_ready (rs := [14, 18]) (by kernel_rfl) (by simp) (AllReadyH.cons (o := ⟨_, _, _, _, _, _⟩) rfl (fun K hK => ?_) (AllReadyH.cons (o := ⟨_, _, _, _, _, _⟩) rfl (fun K hK => ?_) AllReadyH.nil))
                    · go_simp
                      try rw [wa]
                      go_at_call 42
                      refine (hh _).mono ?_
                      rintro e V46 ⟨rfl, hb46⟩
                      have HB46 := sb_next hl85 HB44 hb46
                      have BD46 := BD44.below hb46
                      go_wp2_with fail
                      refine hK.out _ _ HB46 (fun hHeld => ?_)
                      clear hK K
                      try simp only [Act.put, List.setIfInBounds_toArray, List.set_cons_zero, List.set_cons_succ]
                      refine wpAnyH_take (i := 15) (oi := ⟨_, _, _, _, _, _⟩) (v := ?_) rfl (by kernel_rfl) (by kernel_rfl) (by kernel_rfl) (fun _ _ _ h => h) (Or.inl ⟨by rfl, ?_⟩) (by assumption) ?_
                      rotate_left
                      · (intro w hSw; (try dsimp only at hSw); go_simp; try with_reducible rfl)
                      simp only [Act.put, List.setIfInBounds_toArray, List.set_cons_zero, List.set_cons_succ]
                      refine wpAnyH_take (i := 16) (oi := ⟨_, _, _, _, _, _⟩) (v := ?_) rfl (by kernel_rfl) (by kernel_rfl) (by kernel_rfl) (fun _ _ _ h => h) (Or.inl ⟨by rfl, ?_⟩) (by assumption) ?_
                      rotate_left
                      · (intro w hSw; (try dsimp only at hSw); go_simp; try with_reducible rfl)
                      simp only [Act.put, List.setIfInBounds_toArray, List.set_cons_zero, List.set_cons_succ]
                      refine wpAnyH_take (i := 17) (oi := ⟨_, _, _, _, _, _⟩) (v := ?_) rfl (by kernel_rfl) (by kernel_rfl) (by kernel_rfl) (fun _ _ _ h => h) (Or.inl ⟨by rfl, ?_⟩) (by assumption) ?_
                      rotate_left
                      · (intro w hSw; (try dsimp only at hSw); go_simp; try with_reducible rfl)
                      simp only [Act.put, List.setIfInBounds_toArray, List.set_cons_zero, List.set_cons_succ]
                      refine wpAnyH_ready (rs := [18]) (by kernel_rfl) (by simp) (AllReadyH.cons (o := ⟨_, _, _, _, _, _⟩) rfl (fun K hK => ?_) AllReadyH.nil)
                      go_simp
                      have HB47 := sb_alloc HB46 (.cells #[.int .i64 0, .int .i64 0] 31)
                      have BC47 := Bx.new V46 (.int .i64 0) (.int .i64 0) 31
                      have hKC47 : W5.heap.size ≤ V46.heap.size := HB46.2.2.size
                      have BD47 := BD46.alloc (.cells #[.int .i64 0, .int .i64 0] 31)
                      have ne47 : KD44 ≠ V46.heap.size := Nat.ne_of_lt (cell_lt BD46.1)
                      refine hK.out _ _ HB47 (fun hHeld => ?_)
                      clear hK K hHeld
                      try simp only [Act.put, List.setIfInBounds_toArray, List.set_cons_zero, List.set_cons_succ]
                      generalize V46.alloc (.cells #[.int .i64 0, .int .i64 0] 31) = V47 at *
                      generalize V46.heap.size = KC47 at *
                      refine wpAnyH_ready (rs := [20]) (by kernel_rfl) (by simp) (AllReadyH.cons (o := ⟨_, _, _, _, _, _⟩) rfl (fun K hK => ?_) AllReadyH.nil)
                      have ⟨x0, x1, x2, x3⟩ := BC47
                      go_simp
                      have HB48 := sb_set2 hl85 HB47 hKC47 (.int .i64 (a0)) (.int .i64 (ql))
                      have BC48 := BC47.set2 (.int .i64 (a0)) (.int .i64 (ql))
                      have BD48 := bx_keep BD47 (show KD44 ≠ KC47 by first | assumption | exact Ne.symm (by assumption)) (.int .i64 (a0)) (.int .i64 (ql))
                      refine hK.out _ _ HB48 (fun hHeld => ?_)
                      clear hK K hHeld x0 x1 x2 x3
                      try simp only [Act.put, List.setIfInBounds_toArray, List.set_cons_zero, List.set_cons_succ]
                      generalize (V47.setCell ⟨KC47, 0, none⟩ (.int .i64 (a0))).setCell ⟨KC47, 1, none⟩ (.int .i64 (ql)) = V48 at *
                      refine wpAnyH_ready (rs := [21]) (by kernel_rfl) (by simp) (AllReadyH.cons (o := ⟨_, _, _, _, _, _⟩) rfl (fun K hK => ?_) AllReadyH.nil)
                      have ⟨x0, x1, x2, x3⟩ := BD48
                      go_simp
                      have HB49 := sb_set2 hl85 HB48 hKD44 (.int .i64 (a0 + zz)) (.int .i64 (ql))
                      have BD49 := BD48.set2 (.int .i64 (a0 + zz)) (.int .i64 (ql))
                      have BC49 := bx_keep BC48 (show KC47 ≠ KD44 by first | assumption | exact Ne.symm (by assumption)) (.int .i64 (a0 + zz)) (.int .i64 (ql))
                      refine hK.out _ _ HB49 (fun hHeld => ?_)
                      clear hK K hHeld x0 x1 x2 x3
                      try simp only [Act.put, List.setIfInBounds_toArray, List.set_cons_zero, List.set_cons_succ]
                      generalize (V48.setCell ⟨KD44, 0, none⟩ (.int .i64 (a0 + zz))).setCell ⟨KD44, 1, none⟩ (.int .i64 (ql)) = V49 at *
                      refine wpAnyH_done (by kernel_rfl) ?_ _
                      go_wp2_with fail
                      go_meet
                      case rel => exact ⟨KC47, KD44, rfl, rfl, hKC47, hKD44, ⟨BC49.1, BC49.2.1, BD49.1, BD49.2.1⟩, HB49.2.2⟩
                    · go_simp
                      have HB50 := sb_alloc HB44 (.cells #[.int .i64 0, .int .i64 0] 31)
                      have BC50 := Bx.new V44 (.int .i64 0) (.int .i64 0) 31
                      have hKC50 : W5.heap.size ≤ V44.heap.size := HB44.2.2.size
                      have BD50 := BD44.alloc (.cells #[.int .i64 0, .int .i64 0] 31)
                      have ne50 : KD44 ≠ V44.heap.size := Nat.ne_of_lt (cell_lt BD44.1)
                      refine hK.out _ _ HB50 (fun hHeld => ?_)
                      clear hK K hHeld
                      try simp only [Act.put, List.setIfInBounds_toArray, List.set_cons_zero, List.set_cons_succ]
                      generalize V44.alloc (.cells #[.int .i64 0, .int .i64 0] 31) = V50 at *
                      generalize V44.heap.size = KC50 at *
                      refine wpAnyH_ready (rs := [14]) (by kernel_rfl) (by simp) (AllReadyH.cons (o := ⟨_, _, _, _, _, _⟩) rfl (fun K hK => ?_) AllReadyH.nil)
                      go_simp
                      try rw [wa]
                      go_at_call 42
                      refine (hh _).mono ?_
                      rintro e V51 ⟨rfl, hb51⟩
                      have HB51 := sb_next hl85 HB50 hb51
                      have BD51 := BD50.below hb51
                      have BC51 := BC50.below hb51
                      go_wp2_with fail
                      refine hK.out _ _ HB51 (fun hHeld => ?_)
                      clear hK K
                      try simp only [Act.put, List.setIfInBounds_toArray, List.set_cons_zero, List.set_cons_succ]
                      refine wpAnyH_take (i := 15) (oi := ⟨_, _, _, _, _, _⟩) (v := ?_) rfl (by kernel_rfl) (by kernel_rfl) (by kernel_rfl) (fun _ _ _ h => h) (Or.inl ⟨by rfl, ?_⟩) (by assumption) ?_
                      rotate_left
                      · (intro w hSw; (try dsimp only at hSw); go_simp; try with_reducible rfl)
                      simp only [Act.put, List.setIfInBounds_toArray, List.set_cons_zero, List.set_cons_succ]
                      refine wpAnyH_take (i := 16) (oi := ⟨_, _, _, _, _, _⟩) (v := ?_) rfl (by kernel_rfl) (by kernel_rfl) (by kernel_rfl) (fun _ _ _ h => h) (Or.inl ⟨by rfl, ?_⟩) (by assumption) ?_
                      rotate_left
                      · (intro w hSw; (try dsimp only at hSw); go_simp; try with_reducible rfl)
                      simp only [Act.put, List.setIfInBounds_toArray, List.set_cons_zero, List.set_cons_succ]
                      refine wpAnyH_take (i := 17) (oi := ⟨_, _, _, _, _, _⟩) (v := ?_) rfl (by kernel_rfl) (by kernel_rfl) (by kernel_rfl) (fun _ _ _ h => h) (Or.inl ⟨by rfl, ?_⟩) (by assumption) ?_
                      rotate_left
                      · (intro w hSw; (try dsimp only at hSw); go_simp; try with_reducible rfl)
                      simp only [Act.put, List.setIfInBounds_toArray, List.set_cons_zero, List.set_cons_succ]
                      refine wpAnyH_ready (rs := [20]) (by kernel_rfl) (by simp) (AllReadyH.cons (o := ⟨_, _, _, _, _, _⟩) rfl (fun K hK => ?_) AllReadyH.nil)
                      have ⟨x0, x1, x2, x3⟩ := BC51
                      go_simp
                      have HB52 := sb_set2 hl85 HB51 hKC50 (.int .i64 (a0)) (.int .i64 (ql))
                      have BC52 := BC51.set2 (.int .i64 (a0)) (.int .i64 (ql))
                      have BD52 := bx_keep BD51 (show KD44 ≠ KC50 by first | assumption | exact Ne.symm (by assumption)) (.int .i64 (a0)) (.int .i64 (ql))
                      refine hK.out _ _ HB52 (fun hHeld => ?_)
                      clear hK K hHeld x0 x1 x2 x3
                      try simp only [Act.put, List.setIfInBounds_toArray, List.set_cons_zero, List.set_cons_succ]
                      generalize (V51.setCell ⟨KC50, 0, none⟩ (.int .i64 (a0))).setCell ⟨KC50, 1, none⟩ (.int .i64 (ql)) = V52 at *
                      refine wpAnyH_ready (rs := [21]) (by kernel_rfl) (by simp) (AllReadyH.cons (o := ⟨_, _, _, _, _, _⟩) rfl (fun K hK => ?_) AllReadyH.nil)
                      have ⟨x0, x1, x2, x3⟩ := BD52
                      go_simp
                      have HB53 := sb_set2 hl85 HB52 hKD44 (.int .i64 (a0 + zz)) (.int .i64 (ql))
                      have BD53 := BD52.set2 (.int .i64 (a0 + zz)) (.int .i64 (ql))
                      have BC53 := bx_keep BC52 (show KC50 ≠ KD44 by first | assumption | exact Ne.symm (by assumption)) (.int .i64 (a0 + zz)) (.int .i64 (ql))
                      refine hK.out _ _ HB53 (fun hHeld => ?_)
                      clear hK K hHeld x0 x1 x2 x3
                      try simp only [Act.put, List.setIfInBounds_toArray, List.set_cons_zero, List.set_cons_succ]
                      generalize (V52.setCell ⟨KD44, 0, none⟩ (.int .i64 (a0 + zz))).setCell ⟨KD44, 1, none⟩ (.int .i64 (ql)) = V53 at *
                      refine wpAnyH_done (by kernel_rfl) ?_ _
                      go_wp2_with fail
                      go_meet
                      case rel => exact ⟨KC50, KD44, rfl, rfl, hKC50, hKD44, ⟨BC53.1, BC53.2.1, BD53.1, BD53.2.1⟩, HB53.2.2⟩
                  · go_simp
                    have HB54 := sb_alloc HB44 (.cells #[.int .i64 0, .int .i64 0] 31)
                    have BC54 := Bx.new V44 (.int .i64 0) (.int .i64 0) 31
                    have hKC54 : W5.heap.size ≤ V44.heap.size := HB44.2.2.size
                    have BD54 := BD44.alloc (.cells #[.int .i64 0, .int .i64 0] 31)
                    have ne54 : KD44 ≠ V44.heap.size := Nat.ne_of_lt (cell_lt BD44.1)
                    refine hK.out _ _ HB54 (fun hHeld => ?_)
                    clear hK K hHeld
                    try simp only [Act.put, List.setIfInBounds_toArray, List.set_cons_zero, List.set_cons_succ]
                    generalize V44.alloc (.cells #[.int .i64 0, .int .i64 0] 31) = V54 at *
                    generalize V44.heap.size = KC54 at *
                    refine wpAnyH_ready (rs := [7]) (by kernel_rfl) (by simp) (AllReadyH.cons (o := ⟨_, _, _, _, _, _⟩) rfl (fun K hK => ?_) AllReadyH.nil)
                    go_simp
                    go_at_call 49
                    refine (hs _).mono ?_
                    rintro e wx ⟨rfl, hw⟩
                    obtain rfl := hw.symm
                    go_wp2_with fail
                    refine hK.out _ _ HB54 (fun hHeld => ?_)
                    clear hK K
                    try simp only [Act.put, List.setIfInBounds_toArray, List.set_cons_zero, List.set_cons_succ]
                    refine wpAnyH_take (i := 8) (oi := ⟨_, _, _, _, _, _⟩) (v := ?_) rfl (by kernel_rfl) (by kernel_rfl) (by kernel_rfl) (fun _ _ _ h => h) (Or.inl ⟨by rfl, ?_⟩) (by assumption) ?_
                    rotate_left
                    · (intro w hSw; (try dsimp only at hSw); go_simp; try with_reducible rfl)
                    simp only [Act.put, List.setIfInBounds_toArray, List.set_cons_zero, List.set_cons_succ]
                    refine wpAnyH_take (i := 9) (oi := ⟨_, _, _, _, _, _⟩) (v := ?_) rfl (by kernel_rfl) (by kernel_rfl) (by kernel_rfl) (fun _ _ _ h => h) (Or.inl ⟨by rfl, ?_⟩) (by assumption) ?_
                    rotate_left
                    · (intro w hSw; (try dsimp only at hSw); go_simp; try with_reducible rfl)
                    simp only [Act.put, List.setIfInBounds_toArray, List.set_cons_zero, List.set_cons_succ]
                    refine wpAnyH_take (i := 13) (oi := ⟨_, _, _, _, _, _⟩) (v := ?_) rfl (by kernel_rfl) (by kernel_rfl) (by kernel_rfl) (fun _ _ _ h => h) (Or.inl ⟨by rfl, ?_⟩) (by assumption) ?_
                    rotate_left
                    · (intro w hSw; (try dsimp only at hSw); go_simp; try with_reducible rfl)
                    simp only [Act.put, List.setIfInBounds_toArray, List.set_cons_zero, List.set_cons_succ]
                    refine wpAnyH_ready (rs := [14]) (by kernel_rfl) (by simp) (AllReadyH.cons (o := ⟨_, _, _, _, _, _⟩) rfl (fun K hK => ?_) AllReadyH.nil)
                    go_simp
                    try rw [wa]
                    go_at_call 42
                    refine (hh _).mono ?_
                    rintro e V56 ⟨rfl, hb56⟩
                    have HB56 := sb_next hl85 HB54 hb56
                    have BD56 := BD54.below hb56
                    have BC56 := BC54.below hb56
                    go_wp2_with fail
                    refine hK.out _ _ HB56 (fun hHeld => ?_)
                    clear hK K
                    try simp only [Act.put, List.setIfInBounds_toArray, List.set_cons_zero, List.set_cons_succ]
                    refine wpAnyH_take (i := 15) (oi := ⟨_, _, _, _, _, _⟩) (v := ?_) rfl (by kernel_rfl) (by kernel_rfl) (by kernel_rfl) (fun _ _ _ h => h) (Or.inl ⟨by rfl, ?_⟩) (by assumption) ?_
                    rotate_left
                    · (intro w hSw; (try dsimp only at hSw); go_simp; try with_reducible rfl)
                    simp only [Act.put, List.setIfInBounds_toArray, List.set_cons_zero, List.set_cons_succ]
                    refine wpAnyH_take (i := 16) (oi := ⟨_, _, _, _, _, _⟩) (v := ?_) rfl (by kernel_rfl) (by kernel_rfl) (by kernel_rfl) (fun _ _ _ h => h) (Or.inl ⟨by rfl, ?_⟩) (by assumption) ?_
                    rotate_left
                    · (intro w hSw; (try dsimp only at hSw); go_simp; try with_reducible rfl)
                    simp only [Act.put, List.setIfInBounds_toArray, List.set_cons_zero, List.set_cons_succ]
                    refine wpAnyH_take (i := 17) (oi := ⟨_, _, _, _, _, _⟩) (v := ?_) rfl (by kernel_rfl) (by kernel_rfl) (by kernel_rfl) (fun _ _ _ h => h) (Or.inl ⟨by rfl, ?_⟩) (by assumption) ?_
                    rotate_left
                    · (intro w hSw; (try dsimp only at hSw); go_simp; try with_reducible rfl)
                    simp only [Act.put, List.setIfInBounds_toArray, List.set_cons_zero, List.set_cons_succ]
                    refine wpAnyH_ready (rs := [20]) (by kernel_rfl) (by simp) (AllReadyH.cons (o := ⟨_, _, _, _, _, _⟩) rfl (fun K hK => ?_) AllReadyH.nil)
                    have ⟨x0, x1, x2, x3⟩ := BC56
                    go_simp
                    have HB57 := sb_set2 hl85 HB56 hKC54 (.int .i64 (a0)) (.int .i64 (ql))
                    have BC57 := BC56.set2 (.int .i64 (a0)) (.int .i64 (ql))
                    have BD57 := bx_keep BD56 (show KD44 ≠ KC54 by first | assumption | exact Ne.symm (by assumption)) (.int .i64 (a0)) (.int .i64 (ql))
                    refine hK.out _ _ HB57 (fun hHeld => ?_)
                    clear hK K hHeld x0 x1 x2 x3
                    try simp only [Act.put, List.setIfInBounds_toArray, List.set_cons_zero, List.set_cons_succ]
                    generalize (V56.setCell ⟨KC54, 0, none⟩ (.int .i64 (a0))).setCell ⟨KC54, 1, none⟩ (.int .i64 (ql)) = V57 at *
                    refine wpAnyH_ready (rs := [21]) (by kernel_rfl) (by simp) (AllReadyH.cons (o := ⟨_, _, _, _, _, _⟩) rfl (fun K hK => ?_) AllReadyH.nil)
                    have ⟨x0, x1, x2, x3⟩ := BD57
                    go_simp
                    have HB58 := sb_set2 hl85 HB57 hKD44 (.int .i64 (a0 + zz)) (.int .i64 (ql))
                    have BD58 := BD57.set2 (.int .i64 (a0 + zz)) (.int .i64 (ql))
                    have BC58 := bx_keep BC57 (show KC54 ≠ KD44 by first | assumption | exact Ne.symm (by assumption)) (.int .i64 (a0 + zz)) (.int .i64 (ql))
                    refine hK.out _ _ HB58 (fun hHeld => ?_)
                    clear hK K hHeld x0 x1 x2 x3
                    try simp only [Act.put, List.setIfInBounds_toArray, List.set_cons_zero, List.set_cons_succ]
                    generalize (V57.setCell ⟨KD44, 0, none⟩ (.int .i64 (a0 + zz))).setCell ⟨KD44, 1, none⟩ (.int .i64 (ql)) = V58 at *
                    refine wpAnyH_done (by kernel_rfl) ?_ _
                    go_wp2_with fail
                    go_meet
                    case rel => exact ⟨KC54, KD44, rfl, rfl, hKC54, hKD44, ⟨BC58.1, BC58.2.1, BD58.1, BD58.2.1⟩, HB58.2.2⟩
              case rest =>
                obtain ⟨K1, K2, rfl, rfl, hK1, hK2, ⟨b1x, b1y, b2x, b2y⟩, HBB⟩ := hcut
                replace BX := BX.below HBB
                replace HX := HX.below HBB
                replace HD := HD.below HBB
                have hAR : K1 ≠ R := by omega
                have hBR : K2 ≠ R := by omega
                have hA7 : K1 ≠ K7 := by omega
                have hB7 : K2 ≠ K7 := by omega
                have hRW : R < wc.drew.heap.size := by have := HBB.size; show R < wc.heap.size; omega
                clear HBB z0 z1 z2 z3 y0 y1 y2 y3 BQ hs hh HS0
                go_wp2_with fail
                have HS0 : (fun w' => w'.cell? ⟨K1, 0, none⟩ = some (.int .i64 (a0)) ∧ w'.cell? ⟨K1, 1, none⟩ = some (.int .i64 (ql)) ∧ w'.cell? ⟨K2, 0, none⟩ = some (.int .i64 (a0 + zz)) ∧ w'.cell? ⟨K2, 1, none⟩ = some (.int .i64 (ql))) wc.drew := ⟨b1x, b1y, b2x, b2y⟩
                refine wp_region_held_drew (S := fun w' => w'.cell? ⟨K1, 0, none⟩ = some (.int .i64 (a0)) ∧ w'.cell? ⟨K1, 1, none⟩ = some (.int .i64 (ql)) ∧ w'.cell? ⟨K2, 0, none⟩ = some (.int .i64 (a0 + zz)) ∧ w'.cell? ⟨K2, 1, none⟩ = some (.int .i64 (ql))) (by kernel_rfl) HS0 (fun hHeld => ?_)
                refine wpAnyH_take (i := 0) (oi := ⟨_, _, _, _, _, _⟩) (v := ?_) rfl (by kernel_rfl) (by kernel_rfl) (by kernel_rfl) (fun _ _ _ h => h) (Or.inl ⟨by rfl, ?_⟩) (by assumption) ?_
                rotate_left
                · (intro w hSw; (try dsimp only at hSw); go_simp; try with_reducible rfl)
                simp only [Act.put, List.setIfInBounds_toArray, List.set_cons_zero, List.set_cons_succ]
                refine wpAnyH_take (i := 1) (oi := ⟨_, _, _, _, _, _⟩) (v := ?_) rfl (by kernel_rfl) (by kernel_rfl) (by kernel_rfl) (fun _ _ _ h => h) (Or.inl ⟨by rfl, ?_⟩) (by assumption) ?_
                rotate_left
                · (intro w hSw; (try dsimp only at hSw); go_simp; try with_reducible rfl)
                simp only [Act.put, List.setIfInBounds_toArray, List.set_cons_zero, List.set_cons_succ]
                refine wpAnyH_take (i := 3) (oi := ⟨_, _, _, _, _, _⟩) (v := ?_) rfl (by kernel_rfl) (by kernel_rfl) (by kernel_rfl) (fun _ _ _ h => h) (Or.inl ⟨by rfl, ?_⟩) (by assumption) ?_
                rotate_left
                · (intro w hSw; (try dsimp only at hSw); go_simp; try with_reducible rfl)
                simp only [Act.put, List.setIfInBounds_toArray, List.set_cons_zero, List.set_cons_succ]
                refine wpAnyH_ready (rs := [2, 4]) (by kernel_rfl) (by simp) (AllReadyH.cons (o := ⟨_, _, _, _, _, _⟩) rfl (fun K hK => ?_) (AllReadyH.cons (o := ⟨_, _, _, _, _, _⟩) rfl (fun K hK => ?_) AllReadyH.nil))
                · go_simp
                  have HS1 := four_alloc HS0 (.cells #[.int .i64 (a0), .int .i64 (ql), .int .i64 (a0 + zz), .int .i64 (ql)] 31)
                  refine hK.out _ _ HS1 (fun hHeld => ?_)
                  clear hK K
                  try simp only [Act.put, List.setIfInBounds_toArray, List.set_cons_zero, List.set_cons_succ]
                  refine wpAnyH_ready (rs := [4]) (by kernel_rfl) (by simp) (AllReadyH.cons (o := ⟨_, _, _, _, _, _⟩) rfl (fun K hK => ?_) AllReadyH.nil)
                  go_simp
                  go_at_call 41
                  refine (pick_more (HD.drew.alloc (.cells #[.int .i64 (a0), .int .i64 (ql), .int .i64 (a0 + zz), .int .i64 (ql)] 31)) 2 (by omega) (by omega) (by omega)).mono ?_
                  rintro e V1 ⟨r6, rfl, c6, HD6, g6⟩
                  have HS2 := four_grown g6 hAR hBR HS1
                  obtain ⟨xx, yy, hx, hy, he⟩ := pair_at (x1 := a0) (y1 := ql) (x2 := a0 + zz) (y2 := ql) c6 hq2.1 hq2.2
                  have x6 : V1.cell? ⟨wc.heap.size, r6 * 2, none⟩ = some (.int .i64 xx) := tab_cell (w := wc.drew) (r := r6 * 2) g6 hRW hx
                  have x7 : V1.cell? ⟨wc.heap.size, r6 * 2 + 1, none⟩ = some (.int .i64 yy) := tab_cell (w := wc.drew) (r := r6 * 2 + 1) g6 hRW hy
                  have BX6 := (BX.below ((Below.refl _ wc).drew.more (.cells #[.int .i64 (a0), .int .i64 (ql), .int .i64 (a0 + zz), .int .i64 (ql)] 31))).grown g6 hK7
                  have HX6 := row_drew (HX.below ((Below.refl _ wc).drew.more (.cells #[.int .i64 (a0), .int .i64 (ql), .int .i64 (a0 + zz), .int .i64 (ql)] 31))) g6 hR
                  have ⟨z0, z1, z2, z3⟩ := BX6
                  go_wp2_with fail
                  refine hK.out _ _ HS2 (fun hHeld => ?_)
                  clear hK K
                  try simp only [Act.put, List.setIfInBounds_toArray, List.set_cons_zero, List.set_cons_succ]
                  refine wpAnyH_take (i := 5) (oi := ⟨_, _, _, _, _, _⟩) (v := ?_) rfl (by kernel_rfl) (by kernel_rfl) (by kernel_rfl) (fun _ _ _ h => h) (Or.inl ⟨by rfl, ?_⟩) (by assumption) ?_
                  rotate_left
                  · (intro w hSw; (try dsimp only at hSw); go_simp; try with_reducible rfl)
                  simp only [Act.put, List.setIfInBounds_toArray, List.set_cons_zero, List.set_cons_succ]
                  refine wpAnyH_ready (rs := [6]) (by kernel_rfl) (by simp) (AllReadyH.cons (o := ⟨_, _, _, _, _, _⟩) rfl (fun K hK => ?_) AllReadyH.nil)
                  go_simp
                  refine hK.out _ _ HS2 (fun hHeld => ?_)
                  clear hK K
                  try simp only [Act.put, List.setIfInBounds_toArray, List.set_cons_zero, List.set_cons_succ]
                  refine wpAnyH_ready (rs := [7]) (by kernel_rfl) (by simp) (AllReadyH.cons (o := ⟨_, _, _, _, _, _⟩) rfl (fun K hK => ?_) AllReadyH.nil)
                  go_simp
                  refine hK.out _ _ (four_set HS2 hA7 hB7 _ _) (fun hHeld => ?_)
                  clear hK K
                  try simp only [Act.put, List.setIfInBounds_toArray, List.set_cons_zero, List.set_cons_succ]
                  refine wpAnyH_done (by kernel_rfl) ?_ _
                  go_wp2_with fail
                  go_meet
                  case rel => exact ⟨_, _, Bx.set2 BX6 _ _, he, row_set2 HX6 (fun e => by have := LT2 _ e; omega) _ _, drew_set2 H0.out (HD6.weak (by omega)) hw2 _ _ _ _⟩
                · go_simp
                  go_at_call 41
                  refine (pick_more HD.drew 2 (by omega) (by omega) (by omega)).mono ?_
                  rintro e V1 ⟨r6, rfl, c6, HD6, g6⟩
                  have HS2 := four_grown g6 hAR hBR HS0
                  obtain ⟨xx, yy, hx, hy, he⟩ := pair_at (x1 := a0) (y1 := ql) (x2 := a0 + zz) (y2 := ql) c6 hq2.1 hq2.2
                  have BX6 := (BX.below (Below.refl _ wc).drew).grown g6 hK7
                  have HX6 := row_drew (HX.below (Below.refl _ wc).drew) g6 hR
                  go_wp2_with fail
                  refine hK.out _ _ HS2 (fun hHeld => ?_)
                  clear hK K
                  try simp only [Act.put, List.setIfInBounds_toArray, List.set_cons_zero, List.set_cons_succ]
                  refine wpAnyH_ready (rs := [2]) (by kernel_rfl) (by simp) (AllReadyH.cons (o := ⟨_, _, _, _, _, _⟩) rfl (fun K hK => ?_) AllReadyH.nil)
                  go_simp
                  have x6 : (V1.alloc (.cells #[.int .i64 (a0), .int .i64 (ql), .int .i64 (a0 + zz), .int .i64 (ql)] 31)).cell? ⟨V1.heap.size, r6 * 2, none⟩ = some (.int .i64 xx) := by rw [World.cell?_alloc_new]; exact hx
                  have x7 : (V1.alloc (.cells #[.int .i64 (a0), .int .i64 (ql), .int .i64 (a0 + zz), .int .i64 (ql)] 31)).cell? ⟨V1.heap.size, r6 * 2 + 1, none⟩ = some (.int .i64 yy) := by rw [World.cell?_alloc_new]; exact hy
                  replace HS2 := four_alloc HS2 (.cells #[.int .i64 (a0), .int .i64 (ql), .int .i64 (a0 + zz), .int .i64 (ql)] 31)
                  replace BX6 := BX6.alloc (.cells #[.int .i64 (a0), .int .i64 (ql), .int .i64 (a0 + zz), .int .i64 (ql)] 31)
                  replace HX6 := HX6.alloc (.cells #[.int .i64 (a0), .int .i64 (ql), .int .i64 (a0 + zz), .int .i64 (ql)] 31)
                  replace HD6 := HD6.alloc (.cells #[.int .i64 (a0), .int .i64 (ql), .int .i64 (a0 + zz), .int .i64 (ql)] 31)
                  have ⟨z0, z1, z2, z3⟩ := BX6
                  refine hK.out _ _ HS2 (fun hHeld => ?_)
                  clear hK K
                  try simp only [Act.put, List.setIfInBounds_toArray, List.set_cons_zero, List.set_cons_succ]
                  refine wpAnyH_take (i := 5) (oi := ⟨_, _, _, _, _, _⟩) (v := ?_) rfl (by kernel_rfl) (by kernel_rfl) (by kernel_rfl) (fun _ _ _ h => h) (Or.inl ⟨by rfl, ?_⟩) (by assumption) ?_
                  rotate_left
                  · (intro w hSw; (try dsimp only at hSw); go_simp; try with_reducible rfl)
                  simp only [Act.put, List.setIfInBounds_toArray, List.set_cons_zero, List.set_cons_succ]
                  refine wpAnyH_ready (rs := [6]) (by kernel_rfl) (by simp) (AllReadyH.cons (o := ⟨_, _, _, _, _, _⟩) rfl (fun K hK => ?_) AllReadyH.nil)
                  go_simp
                  refine hK.out _ _ HS2 (fun hHeld => ?_)
                  clear hK K
                  try simp only [Act.put, List.setIfInBounds_toArray, List.set_cons_zero, List.set_cons_succ]
                  refine wpAnyH_ready (rs := [7]) (by kernel_rfl) (by simp) (AllReadyH.cons (o := ⟨_, _, _, _, _, _⟩) rfl (fun K hK => ?_) AllReadyH.nil)
                  go_simp
                  refine hK.out _ _ (four_set HS2 hA7 hB7 _ _) (fun hHeld => ?_)
                  clear hK K
                  try simp only [Act.put, List.setIfInBounds_toArray, List.set_cons_zero, List.set_cons_succ]
                  refine wpAnyH_done (by kernel_rfl) ?_ _
                  go_wp2_with fail
                  go_meet
                  case rel => exact ⟨_, _, Bx.set2 BX6 _ _, he, row_set2 HX6 (fun e => by have := LT2 _ e; omega) _ _, drew_set2 H0.out (HD6.weak (by omega)) hw2 _ _ _ _⟩
            · go_meet
              case rel => exact ⟨a, l, BX, ho, HX, HD.weak (by omega)⟩
            · have hq2 := half_ok hq (show ql < 16 by omega)
              have hsz6 : K8 < W6.heap.size ∧ K7 < W6.heap.size := by have := hb6.size; have := cell_lt y0; have := cell_lt z0; omega
              have hw6 : W5.heap.size ≤ W6.heap.size := hb6.size
              generalize sz (ql + 1) = zz at *
              have Q := two_new W6 (.int .i64 qa) (.int .i64 (ql + 1)) (.int .i64 (qa + zz)) (.int .i64 (ql + 1)) 31
              have HBB := (hb6.more (.cells #[.int .i64 qa, .int .i64 (ql + 1)] 31)).more (.cells #[.int .i64 (qa + zz), .int .i64 (ql + 1)] 31)
              have hs7 : W6.heap.size + 1 < ((W6.alloc (.cells #[.int .i64 qa, .int .i64 (ql + 1)] 31)).alloc (.cells #[.int .i64 (qa + zz), .int .i64 (ql + 1)] 31)).heap.size := by simp
              generalize (W6.alloc (.cells #[.int .i64 qa, .int .i64 (ql + 1)] 31)).alloc (.cells #[.int .i64 (qa + zz), .int .i64 (ql + 1)] 31) = W7 at *
              obtain ⟨b1x, b1y, b2x, b2y, _⟩ := Q
              have hRw : R < W5.heap.size := by have := HD.1.size; omega
              replace BX := BX.below HBB
              replace HX := HX.below HBB
              replace HD := HD.below HBB
              have hAR : W6.heap.size ≠ R := by omega
              have hBR : W6.heap.size + 1 ≠ R := by omega
              have hA7 : W6.heap.size ≠ K7 := by omega
              have hB7 : W6.heap.size + 1 ≠ K7 := by omega
              have hRW : R < W7.drew.heap.size := by show R < W7.heap.size; omega
              clear HBB hb6 z0 z1 z2 z3 y0 y1 y2 y3 BQ
              have HS0 : (fun w' => w'.cell? ⟨W6.heap.size, 0, none⟩ = some (.int .i64 (qa)) ∧ w'.cell? ⟨W6.heap.size, 1, none⟩ = some (.int .i64 (ql + 1)) ∧ w'.cell? ⟨W6.heap.size + 1, 0, none⟩ = some (.int .i64 (qa + zz)) ∧ w'.cell? ⟨W6.heap.size + 1, 1, none⟩ = some (.int .i64 (ql + 1))) W7.drew := ⟨b1x, b1y, b2x, b2y⟩
              refine wp_region_held_drew (S := fun w' => w'.cell? ⟨W6.heap.size, 0, none⟩ = some (.int .i64 (qa)) ∧ w'.cell? ⟨W6.heap.size, 1, none⟩ = some (.int .i64 (ql + 1)) ∧ w'.cell? ⟨W6.heap.size + 1, 0, none⟩ = some (.int .i64 (qa + zz)) ∧ w'.cell? ⟨W6.heap.size + 1, 1, none⟩ = some (.int .i64 (ql + 1))) (by kernel_rfl) HS0 (fun hHeld => ?_)
              refine wpAnyH_take (i := 0) (oi := ⟨_, _, _, _, _, _⟩) (v := ?_) rfl (by kernel_rfl) (by kernel_rfl) (by kernel_rfl) (fun _ _ _ h => h) (Or.inl ⟨by rfl, ?_⟩) (by assumption) ?_
              rotate_left
              · (intro w hSw; (try dsimp only at hSw); go_simp; try with_reducible rfl)
              simp only [Act.put, List.setIfInBounds_toArray, List.set_cons_zero, List.set_cons_succ]
              refine wpAnyH_take (i := 1) (oi := ⟨_, _, _, _, _, _⟩) (v := ?_) rfl (by kernel_rfl) (by kernel_rfl) (by kernel_rfl) (fun _ _ _ h => h) (Or.inl ⟨by rfl, ?_⟩) (by assumption) ?_
              rotate_left
              · (intro w hSw; (try dsimp only at hSw); go_simp; try with_reducible rfl)
              simp only [Act.put, List.setIfInBounds_toArray, List.set_cons_zero, List.set_cons_succ]
              refine wpAnyH_take (i := 3) (oi := ⟨_, _, _, _, _, _⟩) (v := ?_) rfl (by kernel_rfl) (by kernel_rfl) (by kernel_rfl) (fun _ _ _ h => h) (Or.inl ⟨by rfl, ?_⟩) (by assumption) ?_
              rotate_left
              · (intro w hSw; (try dsimp only at hSw); go_simp; try with_reducible rfl)
              simp only [Act.put, List.setIfInBounds_toArray, List.set_cons_zero, List.set_cons_succ]
              refine wpAnyH_ready (rs := [2, 4]) (by kernel_rfl) (by simp) (AllReadyH.cons (o := ⟨_, _, _, _, _, _⟩) rfl (fun K hK => ?_) (AllReadyH.cons (o := ⟨_, _, _, _, _, _⟩) rfl (fun K hK => ?_) AllReadyH.nil))
              · go_simp
                have HS1 := four_alloc HS0 (.cells #[.int .i64 (qa), .int .i64 (ql + 1), .int .i64 (qa + zz), .int .i64 (ql + 1)] 31)
                refine hK.out _ _ HS1 (fun hHeld => ?_)
                clear hK K
                try simp only [Act.put, List.setIfInBounds_toArray, List.set_cons_zero, List.set_cons_succ]
                refine wpAnyH_ready (rs := [4]) (by kernel_rfl) (by simp) (AllReadyH.cons (o := ⟨_, _, _, _, _, _⟩) rfl (fun K hK => ?_) AllReadyH.nil)
                go_simp
                go_at_call 41
                refine (pick_more (HD.drew.alloc (.cells #[.int .i64 (qa), .int .i64 (ql + 1), .int .i64 (qa + zz), .int .i64 (ql + 1)] 31)) 2 (by omega) (by omega) (by omega)).mono ?_
                rintro e V1 ⟨r6, rfl, c6, HD6, g6⟩
                have HS2 := four_grown g6 hAR hBR HS1
                obtain ⟨xx, yy, hx, hy, he⟩ := pair_at (x1 := qa) (y1 := ql + 1) (x2 := qa + zz) (y2 := ql + 1) c6 hq2.1 hq2.2
                have x6 : V1.cell? ⟨W7.heap.size, r6 * 2, none⟩ = some (.int .i64 xx) := tab_cell (w := W7.drew) (r := r6 * 2) g6 hRW hx
                have x7 : V1.cell? ⟨W7.heap.size, r6 * 2 + 1, none⟩ = some (.int .i64 yy) := tab_cell (w := W7.drew) (r := r6 * 2 + 1) g6 hRW hy
                have BX6 := (BX.below ((Below.refl _ W7).drew.more (.cells #[.int .i64 (qa), .int .i64 (ql + 1), .int .i64 (qa + zz), .int .i64 (ql + 1)] 31))).grown g6 hK7
                have HX6 := row_drew (HX.below ((Below.refl _ W7).drew.more (.cells #[.int .i64 (qa), .int .i64 (ql + 1), .int .i64 (qa + zz), .int .i64 (ql + 1)] 31))) g6 hR
                have ⟨z0, z1, z2, z3⟩ := BX6
                go_wp2_with fail
                refine hK.out _ _ HS2 (fun hHeld => ?_)
                clear hK K
                try simp only [Act.put, List.setIfInBounds_toArray, List.set_cons_zero, List.set_cons_succ]
                refine wpAnyH_take (i := 5) (oi := ⟨_, _, _, _, _, _⟩) (v := ?_) rfl (by kernel_rfl) (by kernel_rfl) (by kernel_rfl) (fun _ _ _ h => h) (Or.inl ⟨by rfl, ?_⟩) (by assumption) ?_
                rotate_left
                · (intro w hSw; (try dsimp only at hSw); go_simp; try with_reducible rfl)
                simp only [Act.put, List.setIfInBounds_toArray, List.set_cons_zero, List.set_cons_succ]
                refine wpAnyH_ready (rs := [6]) (by kernel_rfl) (by simp) (AllReadyH.cons (o := ⟨_, _, _, _, _, _⟩) rfl (fun K hK => ?_) AllReadyH.nil)
                go_simp
                refine hK.out _ _ HS2 (fun hHeld => ?_)
                clear hK K
                try simp only [Act.put, List.setIfInBounds_toArray, List.set_cons_zero, List.set_cons_succ]
                refine wpAnyH_ready (rs := [7]) (by kernel_rfl) (by simp) (AllReadyH.cons (o := ⟨_, _, _, _, _, _⟩) rfl (fun K hK => ?_) AllReadyH.nil)
                go_simp
                refine hK.out _ _ (four_set HS2 hA7 hB7 _ _) (fun hHeld => ?_)
                clear hK K
                try simp only [Act.put, List.setIfInBounds_toArray, List.set_cons_zero, List.set_cons_succ]
                refine wpAnyH_done (by kernel_rfl) ?_ _
                go_wp2_with fail
                go_meet
                case rel => exact ⟨_, _, Bx.set2 BX6 _ _, he, row_set2 HX6 (fun e => by have := LT2 _ e; omega) _ _, drew_set2 H0.out (HD6.weak (by omega)) hw2 _ _ _ _⟩
              · go_simp
                go_at_call 41
                refine (pick_more HD.drew 2 (by omega) (by omega) (by omega)).mono ?_
                rintro e V1 ⟨r6, rfl, c6, HD6, g6⟩
                have HS2 := four_grown g6 hAR hBR HS0
                obtain ⟨xx, yy, hx, hy, he⟩ := pair_at (x1 := qa) (y1 := ql + 1) (x2 := qa + zz) (y2 := ql + 1) c6 hq2.1 hq2.2
                have BX6 := (BX.below (Below.refl _ W7).drew).grown g6 hK7
                have HX6 := row_drew (HX.below (Below.refl _ W7).drew) g6 hR
                go_wp2_with fail
                refine hK.out _ _ HS2 (fun hHeld => ?_)
                clear hK K
                try simp only [Act.put, List.setIfInBounds_toArray, List.set_cons_zero, List.set_cons_succ]
                refine wpAnyH_ready (rs := [2]) (by kernel_rfl) (by simp) (AllReadyH.cons (o := ⟨_, _, _, _, _, _⟩) rfl (fun K hK => ?_) AllReadyH.nil)
                go_simp
                have x6 : (V1.alloc (.cells #[.int .i64 (qa), .int .i64 (ql + 1), .int .i64 (qa + zz), .int .i64 (ql + 1)] 31)).cell? ⟨V1.heap.size, r6 * 2, none⟩ = some (.int .i64 xx) := by rw [World.cell?_alloc_new]; exact hx
                have x7 : (V1.alloc (.cells #[.int .i64 (qa), .int .i64 (ql + 1), .int .i64 (qa + zz), .int .i64 (ql + 1)] 31)).cell? ⟨V1.heap.size, r6 * 2 + 1, none⟩ = some (.int .i64 yy) := by rw [World.cell?_alloc_new]; exact hy
                replace HS2 := four_alloc HS2 (.cells #[.int .i64 (qa), .int .i64 (ql + 1), .int .i64 (qa + zz), .int .i64 (ql + 1)] 31)
                replace BX6 := BX6.alloc (.cells #[.int .i64 (qa), .int .i64 (ql + 1), .int .i64 (qa + zz), .int .i64 (ql + 1)] 31)
                replace HX6 := HX6.alloc (.cells #[.int .i64 (qa), .int .i64 (ql + 1), .int .i64 (qa + zz), .int .i64 (ql + 1)] 31)
                replace HD6 := HD6.alloc (.cells #[.int .i64 (qa), .int .i64 (ql + 1), .int .i64 (qa + zz), .int .i64 (ql + 1)] 31)
                have ⟨z0, z1, z2, z3⟩ := BX6
                refine hK.out _ _ HS2 (fun hHeld => ?_)
                clear hK K
                try simp only [Act.put, List.setIfInBounds_toArray, List.set_cons_zero, List.set_cons_succ]
                refine wpAnyH_take (i := 5) (oi := ⟨_, _, _, _, _, _⟩) (v := ?_) rfl (by kernel_rfl) (by kernel_rfl) (by kernel_rfl) (fun _ _ _ h => h) (Or.inl ⟨by rfl, ?_⟩) (by assumption) ?_
                rotate_left
                · (intro w hSw; (try dsimp only at hSw); go_simp; try with_reducible rfl)
                simp only [Act.put, List.setIfInBounds_toArray, List.set_cons_zero, List.set_cons_succ]
                refine wpAnyH_ready (rs := [6]) (by kernel_rfl) (by simp) (AllReadyH.cons (o := ⟨_, _, _, _, _, _⟩) rfl (fun K hK => ?_) AllReadyH.nil)
                go_simp
                refine hK.out _ _ HS2 (fun hHeld => ?_)
                clear hK K
                try simp only [Act.put, List.setIfInBounds_toArray, List.set_cons_zero, List.set_cons_succ]
                refine wpAnyH_ready (rs := [7]) (by kernel_rfl) (by simp) (AllReadyH.cons (o := ⟨_, _, _, _, _, _⟩) rfl (fun K hK => ?_) AllReadyH.nil)
                go_simp
                refine hK.out _ _ (four_set HS2 hA7 hB7 _ _) (fun hHeld => ?_)
                clear hK K
                try simp only [Act.put, List.setIfInBounds_toArray, List.set_cons_zero, List.set_cons_succ]
                refine wpAnyH_done (by kernel_rfl) ?_ _
                go_wp2_with fail
                go_meet
                case rel => exact ⟨_, _, Bx.set2 BX6 _ _, he, row_set2 HX6 (fun e => by have := LT2 _ e; omega) _ _, drew_set2 H0.out (HD6.weak (by omega)) hw2 _ _ _ _⟩
            · go_meet
              case rel => exact ⟨a, l, BX, ho, HX, HD.weak (by omega)⟩
            · go_meet
              case rel => exact ⟨qa, ql, Bx.set2 BX _ _, hq, row_set2 HX (fun e => by have := LT2 _ e; omega) _ _, drew_set2 H0.out (HD.weak (by omega)) hw2 _ _ _ _⟩
          · have hb3 : ((r3 : Int) == 0) = false := by rw [beq_eq_false_iff_ne]; omega
            go_wp2_with fail
            go_meet
            case rel => exact ⟨a, l, BX, ho, HX, HD.weak (by omega)⟩
        case rest =>
          clear HX BX HD ho
          obtain ⟨x, y, BX, ho, HX, HD⟩ := hcut
          have ⟨z0, z1, z2, z3⟩ := BX
          go_wp2_with (at_builtin; refine wpList_append_own _ rfl _ _ 23 rfl w.heap.size 31 i0 (.agg #[.int .i64 0, .int .i64 0]) 2 16 Try.underlying23 hi hz0 hz1 hz2 rfl (by decide) _ _ _ rfl (HX.alloc _) ⟨wc.heap.size, 0, none⟩ 1 1 [.int .i64 x, .int .i64 y] rfl rfl (cell_pr _ _ _ _) (pr_one _ _) (by unfold maxLen; omega) (by omega) (by have := HD.1.size; simp; omega) ?_; intro v' W9 hown' hgrow _; obtain ⟨k1, k2, k3⟩ := list_round H0.out (HX.alloc _) (HD.alloc _) hall.out ho (by omega) hown' hgrow; obtain ⟨pv', cv', rfl⟩ := k1.form; rw [snoc_len] at k1; clear hown' hgrow)
          go_roundw
          case rel => exact ⟨_, m - 1, by congr 1; omega, by rw [List.length_append]; simp; omega, k1, k2, k3⟩
          case measure => simp [intOf]; omega
end Go.Proofs.Ytaoahghfmlegbaa
