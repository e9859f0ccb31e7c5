/- The draws: DrawAclDiffer. -/
import Derived.Test.YtaoahghfmlegbaaDr7
namespace Go.Proofs.Ytaoahghfmlegbaa
open Go.RowKit Go.Lib

set_option maxRecDepth 100000 in
set_option maxHeartbeats 8000000 in
theorem drawDiffer_any (v : Value) (w : World) (h : BytA w v) :
    Calls Try.prog 31 #[v] w fun e w' => ∃ gA cA A gB cB B, e = .returned (.tuple #[.slice (some ⟨gA, 0, none⟩) (List.length A) cA, .slice (some ⟨gB, 0, none⟩) (List.length B) cB]) ∧ RdR w' (.slice (some ⟨gA, 0, none⟩) A.length cA) A ∧ RdR w' (.slice (some ⟨gB, 0, none⟩) B.length cB) B ∧ A.length ≤ 13 ∧ B.length ≤ 13 ∧ Below w.heap.size w w' := by
  obtain ⟨i0, hi, hz0, hz1, hz2⟩ := info_parts infoRS
  have C := open_any v _ h
  go_enter Try.func31, Try.ntmps31
  go_upto_region 3 with (first
    | (go_at_call 39; refine C.mono ?_; clear C; rintro e W1 ⟨rfl, ⟨q, n, cap, hr⟩, hb⟩; have hRs := hr.lt)
    | (go_at_call 54; refine (anyR_any _ q n cap 0 W1 hr (by omega)).mono ?_; rintro e W2 ⟨gA, cA, A, rfl, HX, l13, HD⟩))
  have H0 : Hid (Rdr W1 w.heap.size q n cap 0) := hr
  have HBW : Hid (Below w.heap.size w W1) := hb
  have hs12 := HD.1.size
  have hgA := World.ownsRow.lt HX gA rfl
  have hgR : gA ≠ w.heap.size := by omega
  replace HD := HD.alloc (.cells #[] 48)
  have r0 := rowR_nil W2
  have hA : RdR (W2.alloc (.cells #[] 48)) (.slice (some ⟨gA, 0, none⟩) A.length cA) A := HX.rd.below ((Below.refl _ _).more _)
  have hs0 : W2.heap.size ≤ (W2.alloc (.cells #[] 48)).heap.size := by simp
  clear hr hb HX
  go_upto_region 4 with (at_builtin; refine wpList_append_own _ rfl _ _ 40 rfl W2.heap.size 48 i0 (.agg #[.bool false, .int .i64 0, .int .i64 0, .int .i64 0, .int .i64 0, .int .i64 0]) 6 48 Try.underlying40 hi hz0 hz1 hz2 rfl (by decide) _ _ _ rfl r0 ⟨gA, 0, none⟩ A.length cA (flatR A) rfl (flatR_len A) (news_rules hA) (flatR_one A) (by unfold maxLen; simp; omega) (by simp; omega) hs0 ?_; intro v1 W3 hown1 hgrow1 hnil; have HX : RowR W3 W2.heap.size v1 A := copy_row hown1; replace HD := drew_grown H0.out HD hgrow1 (fun k e => Nat.le_trans hs12 (World.ownsRow.lt r0 k e).1); replace hA := rdR_grown hA hgrow1 (fun e => by have := (World.ownsRow.lt r0 gA e).1; omega); obtain ⟨gB, cB, hv1⟩ := rowR_some' HX (fun e => by have := (hnil.1 e).1; cases this); subst hv1; clear hown1 hgrow1 r0 hs0 hnil)
  have hgB := World.ownsRow.lt HX gB rfl
  have hgBR : gB ≠ w.heap.size := by omega
  have hAB : gA ≠ gB := by omega
  go_upto_if 18 with fail
  go_cut [6, 7, 8] (fun vb _ _ W => ∃ g c B, vb = .slice (some ⟨g, 0, none⟩) (List.length B) c ∧ RdR W (.slice (some ⟨g, 0, none⟩) B.length c) B ∧ B.length ≤ 13 ∧ g ≠ w.heap.size ∧ RdR W (.slice (some ⟨gA, 0, none⟩) A.length cA) A ∧ Drew W1 w.heap.size q n cap 0 702 W)
  case first =>
    by_cases hl : A.length ≤ 1
    · have hl0 : decide (1 < (A.length : Int)) = false := decide_eq_false (by omega)
      go_wp2_with fail
      go_meet
      case rel => exact ⟨gB, cB, A, rfl, HX.rd, l13, hgBR, hA, HD.weak (by omega)⟩
    · have hl1 : decide (1 < (A.length : Int)) = true := decide_eq_true (by omega)
      have T1 : Hid True := trivial
      go_upto_if 26 with (first
        | (go_at_call 41; clear T1; refine (pick_more HD ((A.length : Int) - 1) (by omega) (by omega) (by omega)).mono ?_; clear HD; rintro e W6 ⟨k, rfl, b6, HD, g6⟩; replace HX := rowR_drew HX g6 (by omega); replace hA := rdR_grown hA g6 (fun e => hgR (by cases e; rfl)); clear g6)
        | (go_at_call 41; refine (pick_more HD 4 (by omega) (by omega) (by omega)).mono ?_; clear HD; rintro e W7 ⟨r7, rfl, b7, HD, g7⟩; replace HX := rowR_drew HX g7 (by omega); replace hA := rdR_grown hA g7 (fun e => hgR (by cases e; rfl)); clear g7))
      have hk : k < A.length := by omega
      have hk1 : k + 1 < A.length := by omega
      obtain ⟨_, hpv, hcap, hgl, dA⟩ := HX.rd.at hk
      cases hpv
      obtain ⟨_, hpv, _, _, dB⟩ := HX.rd.at hk1
      cases hpv
      obtain ⟨⟨xb, ⟨xa, xl⟩, ⟨xc, xm⟩, xk⟩, hx⟩ : ∃ y : Ru, A[k] = y := ⟨_, rfl⟩
      obtain ⟨⟨yb, ⟨ya, yl⟩, ⟨yc, ym⟩, yk⟩, hy⟩ : ∃ y : Ru, A[k + 1] = y := ⟨_, rfl⟩
      rw [hx] at dA
      rw [hy] at dB
      have hf := fz_row HX
      have hwB : W1.heap.size ≤ gB := by omega
      have h7 : r7 = 0 ∨ r7 = 1 ∨ r7 = 2 ∨ r7 = 3 := by omega
      rcases h7 with rfl | rfl | rfl | rfl
      · obtain ⟨d0, d1, d2, d3, d4, d5⟩ := dA
        obtain ⟨e0, e1, e2, e3, e4, e5⟩ := dB
        obtain ⟨M, hM, HM⟩ := rowR_swap HX hk hk1 (yb, (ya, yl), (yc, ym), yk) (xb, (xa, xl), (xc, xm), xk)
        have hA2 := rdR_set6 (o := (k + 1) * 6) (rdR_set6 (o := k * 6) hA hAB (yb, (ya, yl), (yc, ym), yk)) hAB (xb, (xa, xl), (xc, xm), xk)
        have HD2 := drew_set6 (o := (k + 1) * 6) H0.out (drew_set6 (o := k * 6) H0.out HD hwB (yb, (ya, yl), (yc, ym), yk)) hwB (xb, (xa, xl), (xc, xm), xk)
        clear hx hy
        go_wp2_with fail
        go_meet
        case rel =>
          exact ⟨gB, cB, M, by rw [hM], by rw [hM]; exact (HM.alloc (.cells #[.bool xb, .int .i64 xa, .int .i64 xl, .int .i64 xc, .int .i64 xm, .int .i64 xk] 48)).rd, by omega, hgBR, hA2.below ((Below.refl _ _).more (.cells #[.bool xb, .int .i64 xa, .int .i64 xl, .int .i64 xc, .int .i64 xm, .int .i64 xk] 48)), (HD2.alloc (.cells #[.bool xb, .int .i64 xa, .int .i64 xl, .int .i64 xc, .int .i64 xm, .int .i64 xk] 48)).weak (by omega)⟩
      · clear dA dB hx hy
        have hrd := HX.rd
        have hkc : k ≤ cB := by omega
        have hk2 : (0 : Int) ≤ (k : Int) + 1 ∧ (k : Int) + 1 ≤ (A.length : Int) := by omega
        have hkn : ¬ cB = k + 1 := by omega
        have wk : IntKind.i64.wrap ((k : Int) + 1) = (k : Int) + 1 := by rw [IntKind.wrap_i64]; omega
        go_wp2_with fail
        refine wp_region_held_drew (S := fun w' => Below W7.heap.size W7 w') (by kernel_rfl) ((Below.refl _ _).drew) (fun hHeld => ?_)
        refine wpAnyH_take (i := 1) (oi := ⟨_, _, _, _, _, _⟩) (v := ?_) rfl (by kernel_rfl) (by kernel_rfl) (by kernel_rfl) (fun _ _ _ h => h) (Or.inl ⟨by rfl, ?_⟩) (by assumption) ?_
        rotate_left
        · (intro w hSw; (try dsimp only at hSw); go_simp; try with_reducible rfl)
        simp only [Act.put, List.setIfInBounds_toArray, List.set_cons_zero, List.set_cons_succ]
        refine wpAnyH_take (i := 2) (oi := ⟨_, _, _, _, _, _⟩) (v := ?_) rfl (by kernel_rfl) (by kernel_rfl) (by kernel_rfl) (fun _ _ _ h => h) (Or.inl ⟨by rfl, ?_⟩) (by assumption) ?_
        rotate_left
        · (intro w hSw; (try dsimp only at hSw); go_simp; try with_reducible rfl)
        simp only [Act.put, List.setIfInBounds_toArray, List.set_cons_zero, List.set_cons_succ]
        refine wpAnyH_take (i := 3) (oi := ⟨_, _, _, _, _, _⟩) (v := ?_) rfl (by kernel_rfl) (by kernel_rfl) (by kernel_rfl) (fun _ _ _ h => h) (Or.inl ⟨by rfl, ?_⟩) (by assumption) ?_
        rotate_left
        · (intro w hSw; (try dsimp only at hSw); go_simp; try with_reducible rfl)
        simp only [Act.put, List.setIfInBounds_toArray, List.set_cons_zero, List.set_cons_succ]
        refine wpAnyH_take (i := 5) (oi := ⟨_, _, _, _, _, _⟩) (v := ?_) rfl (by kernel_rfl) (by kernel_rfl) (by kernel_rfl) (fun _ _ _ h => h) (Or.inl ⟨by rfl, ?_⟩) (by assumption) ?_
        rotate_left
        · (intro w hSw; (try dsimp only at hSw); go_simp; try with_reducible rfl)
        simp only [Act.put, List.setIfInBounds_toArray, List.set_cons_zero, List.set_cons_succ]
        refine wpAnyH_take (i := 6) (oi := ⟨_, _, _, _, _, _⟩) (v := ?_) rfl (by kernel_rfl) (by kernel_rfl) (by kernel_rfl) (fun _ _ _ h => h) (Or.inl ⟨by rfl, ?_⟩) (by assumption) ?_
        rotate_left
        · (intro w hSw; (try dsimp only at hSw); go_simp; try with_reducible rfl)
        simp only [Act.put, List.setIfInBounds_toArray, List.set_cons_zero, List.set_cons_succ]
        refine wpAnyH_take (i := 7) (oi := ⟨_, _, _, _, _, _⟩) (v := ?_) rfl (by kernel_rfl) (by kernel_rfl) (by kernel_rfl) (fun _ _ _ h => h) (Or.inl ⟨by rfl, ?_⟩) (by assumption) ?_
        rotate_left
        · (intro w hSw; (try dsimp only at hSw); go_simp; try with_reducible rfl)
        simp only [Act.put, List.setIfInBounds_toArray, List.set_cons_zero, List.set_cons_succ]
        refine wpAnyH_take (i := 8) (oi := ⟨_, _, _, _, _, _⟩) (v := ?_) rfl (by kernel_rfl) (by kernel_rfl) (by kernel_rfl) (fun _ _ _ h => h) (Or.inl ⟨by rfl, ?_⟩) (by assumption) ?_
        rotate_left
        · (intro w hSw; (try dsimp only at hSw); go_simp; try with_reducible rfl)
        simp only [Act.put, List.setIfInBounds_toArray, List.set_cons_zero, List.set_cons_succ]
        have bV0 : Below W7.heap.size W7 W7.drew := (Below.refl _ W7).drew
        have hs0 : Hid (W7.drew.heap.size = W7.heap.size) := rfl
        generalize W7.drew = V0 at *
        refine wpAnyH_ready (rs := [0]) (by kernel_rfl) (by simp) (AllReadyH.cons (o := ⟨_, _, _, _, _, _⟩) rfl (fun K hK => ?_) AllReadyH.nil)
        go_simp
        have bV1 : Below W7.heap.size W7 (V0.alloc (.cells #[] 48)) := bV0.more _
        refine hK.out _ _ (bV1) (fun hHeld => ?_)
        clear hK K
        try simp only [Act.put, List.setIfInBounds_toArray, List.set_cons_zero, List.set_cons_succ]
        have r1 := (rowR_nil V0).mono (show W7.heap.size ≤ V0.heap.size by have := hs0.out; omega)
        generalize hV1 : V0.alloc (.cells #[] 48) = V1 at *
        clear hV1
        refine wpAnyH_ready (rs := [4]) (by kernel_rfl) (by simp) (AllReadyH.cons (o := ⟨_, _, _, _, _, _⟩) rfl (fun K hK => ?_) AllReadyH.nil)
        refine step_append_h (by rfl) _ _ 40 (by rfl) W7.heap.size 48 i0 (.agg #[.bool false, .int .i64 0, .int .i64 0, .int .i64 0, .int .i64 0, .int .i64 0]) 6 48 Try.underlying40 hi hz0 hz1 hz2 rfl (by decide) (.slice (some ⟨V0.heap.size, 0, none⟩) 0 0) 0 ([]) (by rfl) r1 ⟨gB, 0, none⟩ k cB (flatR (A.take k)) (by rfl) (by rw [flatR_len, List.length_take]; congr 1; omega) (newsR_take (hrd.below bV1) k) (flatR_one _) (by unfold maxLen; omega) (by omega) bV1.size ?_
        intro v2 V2 hown2 hgrow2 hnil2
        have bV2 : Below W7.heap.size W7 V2 := bV1.grown hgrow2 bV1.size (fun k e => (World.ownsRow.lt r1 k e).1)
        have r2 : RowR V2 W7.heap.size v2 (A.take k) := by unfold RowR; rw [List.length_take, show min k A.length = k by omega]; simpa using hown2
        obtain ⟨g2, c2, hv2⟩ := rowR_some' r2 (fun e => by have := (hnil2.1 e).1; cases this)
        subst hv2
        clear hown2 hgrow2 hnil2
        refine hK.out _ _ (bV2) (fun hHeld => ?_)
        clear hK K
        try simp only [Act.put, List.setIfInBounds_toArray, List.set_cons_zero, List.set_cons_succ]
        refine wpAnyH_ready (rs := [9]) (by kernel_rfl) (by simp) (AllReadyH.cons (o := ⟨_, _, _, _, _, _⟩) rfl (fun K hK => ?_) AllReadyH.nil)
        refine step_append_h (by rfl) _ _ 40 (by rfl) W7.heap.size 48 i0 (.agg #[.bool false, .int .i64 0, .int .i64 0, .int .i64 0, .int .i64 0, .int .i64 0]) 6 48 Try.underlying40 hi hz0 hz1 hz2 rfl (by decide) (.slice (some ⟨g2, 0, none⟩) (A.take k).length c2) (A.take k).length (flatR (A.take k)) (by rfl) r2 ⟨gB, (k + 1) * 6, none⟩ (A.length - (k + 1)) (cB - (k + 1)) (flatR (A.drop (k + 1))) (by rfl) (by rw [flatR_len, List.length_drop]) (newsR_drop (hrd.below bV2) (by omega)) (flatR_one _) (by unfold maxLen; rw [List.length_take]; omega) (by rw [List.length_take]; omega) bV2.size ?_
        intro v3 V3 hown3 hgrow3 hnil3
        have bV3 : Below W7.heap.size W7 V3 := bV2.grown hgrow3 bV2.size (fun k e => (World.ownsRow.lt r2 k e).1)
        have r3 : RowR V3 W7.heap.size v3 (A.take k ++ A.drop (k + 1)) := by unfold RowR; rw [List.length_append, flatR_app, List.length_drop]; exact hown3
        obtain ⟨g3, c3, hv3⟩ := rowR_some' r3 (fun e => by have := (hnil3.1 e).1; cases this)
        subst hv3
        clear hown3 hgrow3 hnil3
        refine hK.out _ _ (bV3) (fun hHeld => ?_)
        clear hK K
        try simp only [Act.put, List.setIfInBounds_toArray, List.set_cons_zero, List.set_cons_succ]
        refine wpAnyH_take (i := 10) (oi := ⟨_, _, _, _, _, _⟩) (v := ?_) rfl (by kernel_rfl) (by kernel_rfl) (by kernel_rfl) (fun _ _ _ h => h) (Or.inl ⟨by rfl, ?_⟩) (by assumption) ?_
        rotate_left
        · (intro w hSw; (try dsimp only at hSw); go_simp; try with_reducible rfl)
        simp only [Act.put, List.setIfInBounds_toArray, List.set_cons_zero, List.set_cons_succ]
        refine wpAnyH_done (by kernel_rfl) ?_ _
        go_wp2_with fail
        go_meet
        case rel =>
          have hg3 := (World.ownsRow.lt r3 g3 rfl).1
          exact ⟨g3, c3, A.take k ++ A.drop (k + 1), by rw [List.length_append, List.length_take, List.length_drop], r3.rd, by rw [List.length_append, List.length_take, List.length_drop]; omega, by have := HD.1.size; omega, hA.below bV3, (HD.below bV3).weak (by omega)⟩
      · obtain ⟨d0, d1, d2, d3, d4, d5⟩ := dA
        obtain ⟨M, hM, HM⟩ := rowR_permit HX hk hx (!xb)
        have hA2 := rdR_set (j := k * 6) hA hAB (.bool !xb)
        have HD2 := drew_set (j := k * 6) H0.out HD hwB (.bool !xb)
        clear hx hy dB
        go_wp2_with fail
        go_meet
        case rel => exact ⟨gB, cB, M, by rw [hM], by rw [hM]; exact HM.rd, by omega, hgBR, hA2, HD2.weak (by omega)⟩
      · clear dA dB hx hy
        go_wp2_with fail
        go_meet
        case rel => exact ⟨gB, cB, A, rfl, HX.rd, l13, hgBR, hA, HD.weak (by omega)⟩
  case rest =>
    clear HX HD hA hgB hgBR hAB
    obtain ⟨g, c, B, rfl, hB, lB, hgR2, hA, HD⟩ := hcut
    go_upto_if 71 with (go_at_call 41; refine (pick_more HD 8 (by omega) (by omega) (by omega)).mono ?_; clear HD; rintro e W5 ⟨r5, rfl, b5, HD, g5⟩; replace hA := rdR_grown hA g5 (fun e => hgR (by cases e; rfl)); replace hB := rdR_grown hB g5 (fun e => hgR2 (by cases e; rfl)); clear g5)
    by_cases hr5 : r5 = 0
    · have hb5 : ((r5 : Int) == 0) = true := by subst hr5; rfl
      have HD' := HD
      obtain ⟨gw, p3, p31, p32, hr3⟩ := HD'
      go_wp2_with (go_at_call 54; refine (anyR_any _ q n cap p3 W5 hr3 (by omega)).mono ?_; rintro e W6 ⟨gC, cC, M, rfl, HM, lM, HD6⟩; replace hA := rdR_grown hA HD6.1 (fun e => hgR (by cases e; rfl)))
      refine bodyPost_ret (v := .tuple #[.slice (some ⟨gA, 0, none⟩) A.length cA, .slice (some ⟨gC, 0, none⟩) M.length cC]) (by simp [results, Try.results31, go_sem]) rfl ⟨gA, cA, A, gC, cC, M, rfl, hA, HM.rd, l13, lM, drew_below (drew_below HBW.out HD (Nat.le_refl _)) HD6 (Nat.le_refl _)⟩
    · have hb5 : ((r5 : Int) == 0) = false := by rw [beq_eq_false_iff_ne]; omega
      go_wp2_with fail
      refine bodyPost_ret (v := .tuple #[.slice (some ⟨gA, 0, none⟩) A.length cA, .slice (some ⟨g, 0, none⟩) B.length c]) (by simp [results, Try.results31, go_sem]) rfl ⟨gA, cA, A, g, c, B, rfl, hA, hB, l13, lB, drew_below HBW.out HD (Nat.le_refl _)⟩
end Go.Proofs.Ytaoahghfmlegbaa
