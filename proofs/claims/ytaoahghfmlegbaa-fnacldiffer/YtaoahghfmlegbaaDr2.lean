/- The draws of rules: l5Rules, its loop. -/
import Derived.Test.YtaoahghfmlegbaaDr1
namespace Go.Proofs.Ytaoahghfmlegbaa
open Go.RowKit Go.Lib

set_option maxRecDepth 100000 in
set_option maxHeartbeats 8000000 in
theorem rules_any (R : Nat) (q : Option Addr) (n cap : Nat) (p : Int) (w : World) (h : Rdr w R q n cap p) (hp : p ≤ 1073740000) :
    Calls Try.prog 76 #[.pointer (some ⟨R, 0, none⟩)] w fun e w' => ∃ g c L, e = .returned (.slice (some ⟨g, 0, none⟩) L.length c) ∧ RowR w' w.heap.size (.slice (some ⟨g, 0, none⟩) L.length c) L ∧ L.length < 7 ∧ (∀ r ∈ L, okR r = true) ∧ Drew w R q n cap p 500 w' := by
  have hR := h.lt
  obtain ⟨i0, hi, hz0, hz1, hz2⟩ := info_parts infoRS
  have HD := (Drew.refl h).alloc (.cells #[] 48)
  have HX := rowR_nil w
  have H0 : Hid (Rdr w R q n cap p) := h
  clear h
  go_enter Try.func76, Try.ntmps76
  have C := pick_more HD 7 (by omega) (by omega) (by omega)
  clear HD
  go_wp2_with (go_at_call 41; refine C.mono ?_; clear C; rintro e W1 ⟨r0, rfl, b0, HD, g1⟩; replace HX := rowR_drew HX g1 hR; clear g1)
  go_loopw [3, 4] (fun v i wr => ∃ (L : List Ru) (m : Nat), i = .int .i64 (m : Int) ∧ L.length + m = r0 ∧ (∃ g c, v = .slice (some ⟨g, 0, none⟩) L.length c) ∧ Hid (RowR wr w.heap.size v L) ∧ Hid (∀ r ∈ L, okR r = true) ∧ Hid (Drew w R q n cap p (1 + 50 * (L.length : Int)) wr)) (fun _ i _ => (intOf i).toNat)
  case atStart => exact ⟨[], r0, rfl, by simp, ⟨_, _, rfl⟩, HX, by unfold Hid; simp, by unfold Hid; simpa using HD⟩
  case round =>
    clear HD HX
    obtain ⟨L, m, rfl, hm, ⟨gv, cv, rfl⟩, hrow, hall, hD⟩ := hrel
    by_cases hm0 : m = 0
    · subst hm0
      go_wp2_with fail
      go_ret
      exact ⟨_, _, L, rfl, hrow.out, by omega, hall.out, hD.out.weak (by omega)⟩
    · have hm1 : decide (0 < (m : Int)) = true := decide_eq_true (by omega)
      have HD := hD.out
      have HX := hrow.out
      have T1 : Hid True := trivial
      have T2 : Hid True := trivial
      have T3 : Hid True := trivial
      have T4 : Hid True := trivial
      clear hD hrow
      go_upto_region 6 with (first
        | (go_at_call 41; clear T1; refine (pick_more HD 2 (by omega) (by omega) (by omega)).mono ?_; clear HD; rintro e W2 ⟨r2, rfl, b2, HD, g2⟩; replace HX := rowR_drew HX g2 hR; obtain ⟨pb, hpb⟩ : ∃ pb, ((r2 : Int) == 0) = pb := ⟨_, rfl⟩; clear g2)
        | (go_at_call 68; clear T2; refine (pre_more HD (by omega)).mono ?_; clear HD; rintro e W3 ⟨a, l, rfl, ho, HD, g3⟩; replace HX := rowR_drew HX g3 hR; clear g3)
        | (go_at_call 68; refine (pre_more HD (by omega)).mono ?_; clear HD; rintro e W4 ⟨a', l', rfl, ho', HD, g4⟩; replace HX := rowR_drew HX g4 hR; clear g4)
        | (go_at_call 41; clear T3; refine (pick_more HD 3 (by omega) (by omega) (by omega)).mono ?_; clear HD; rintro e W5 ⟨r5, rfl, b5, HD, g5⟩; replace HX := rowR_drew HX g5 hR; clear g5)
        | (go_at_call 41; clear T4; refine (pick_more HD 3 (by omega) (by omega) (by omega)).mono ?_; clear HD; rintro e W6 ⟨r6, rfl, b6, HD, g6⟩; replace HX := rowR_drew HX g6 hR; obtain ⟨k, hk, k0, k4⟩ := kk_ok b5 b6; clear g6))
      have BX := B6.new W6 pb a l a' l' k 48
      have hK6 : W6.heap.size ≠ R := by have := HD.1.size; omega
      have hw6 : w.heap.size ≤ W6.heap.size := HD.1.size
      have LT6 : ∀ j, (Value.slice (some ⟨gv, 0, none⟩) L.length cv).ownBlock = some j → j < W6.heap.size := fun j e => (World.ownsRow.lt HX j e).2
      replace HD := HD.alloc (.cells #[.bool pb, .int .i64 a, .int .i64 l, .int .i64 a', .int .i64 l', .int .i64 k] 48)
      replace HX := HX.alloc (.cells #[.bool pb, .int .i64 a, .int .i64 l, .int .i64 a', .int .i64 l', .int .i64 k] 48)
      generalize W6.alloc (.cells #[.bool pb, .int .i64 a, .int .i64 l, .int .i64 a', .int .i64 l', .int .i64 k] 48) = W7 at *
      generalize W6.heap.size = K6 at *
      have hok : okR (pb, (a, l), (a', l'), k) = true := ruR_ok ho ho' ⟨k0, by omega⟩
      clear ho ho' hk hpb
      go_cut [34] (fun c W => ∃ bb : Bool, c = .bool bb ∧ (bb = true → 0 < L.length) ∧ B6 W K6 (pb, (a, l), (a', l'), k) ∧ RowR W w.heap.size (.slice (some ⟨gv, 0, none⟩) L.length cv) L ∧ Drew w R q n cap p (1 + 50 * (L.length : Int) + 44) W)
      case first =>
        by_cases hl : L.length = 0
        · have hl0 : decide (0 < (L.length : Int)) = false := decide_eq_false (by omega)
          go_wp2_with fail
          go_meet
          case rel => exact ⟨false, rfl, by simp, BX, HX, HD.weak (by omega)⟩
        · have hl1 : decide (0 < (L.length : Int)) = true := decide_eq_true (by omega)
          go_wp2_with (go_at_call 41; refine (pick_more HD 2 (by omega) (by omega) (by omega)).mono ?_; clear HD; rintro e W8 ⟨r8, rfl, b8, HD, g8⟩; replace HX := rowR_drew HX g8 hR; replace BX := BX.grown g8 hK6; clear g8)
          go_meet
          case rel => exact ⟨_, rfl, fun _ => by omega, BX, HX, HD.weak (by omega)⟩
      case rest =>
        clear BX HX HD
        obtain ⟨bb, rfl, hbb, BX, HX, HD⟩ := hcut
        go_upto_if 34 with fail
        go_cut [6] (fun _ W => ∃ (x y x' y' : Int), B6 W K6 (pb, (x, y), (x', y'), k) ∧ okR (pb, (x, y), (x', y'), k) = true ∧ RowR W w.heap.size (.slice (some ⟨gv, 0, none⟩) L.length cv) L ∧ Drew w R q n cap p (1 + 50 * (L.length : Int) + 48) W)
        case first =>
          cases bb with
          | false =>
            go_wp2_with fail
            go_meet
            case rel => exact ⟨a, l, a', l', BX, hok, HX, HD.weak (by omega)⟩
          | true =>
            have hl := hbb rfl
            clear hbb
            go_upto_region 8 with (go_at_call 41; refine (pick_more HD (L.length : Int) (by omega) (by omega) (by omega)).mono ?_; clear HD; rintro e W8 ⟨r8, rfl, b8, HD, g8⟩; replace HX := rowR_drew HX g8 hR; replace BX := BX.grown g8 hK6; obtain ⟨gr, hpv, hgr, hgl, dA⟩ := HX.rd.at (i := r8) (by omega); have hyo := hall.out _ (List.getElem_mem (show r8 < L.length by omega)); obtain ⟨⟨yb, ⟨ya, yl⟩, ⟨yc, ym⟩, yk⟩, hy⟩ : ∃ y : Ru, L[r8] = y := ⟨_, rfl⟩; rw [hy] at dA hyo; obtain ⟨d0, d1, d2, d3, d4, d5⟩ := dA; cases hpv; clear g8 hy)
            have BQ := B6.new W8 yb ya yl yc ym yk 48
            have hK8 : W8.heap.size ≠ R := by have := HD.1.size; omega
            have hK68 : K6 < W8.heap.size := BX.lt
            replace HD := HD.alloc (.cells #[.bool yb, .int .i64 ya, .int .i64 yl, .int .i64 yc, .int .i64 ym, .int .i64 yk] 48)
            replace HX := HX.alloc (.cells #[.bool yb, .int .i64 ya, .int .i64 yl, .int .i64 yc, .int .i64 ym, .int .i64 yk] 48)
            replace BX := BX.alloc (.cells #[.bool yb, .int .i64 ya, .int .i64 yl, .int .i64 yc, .int .i64 ym, .int .i64 yk] 48)
            clear d0 d1 d2 d3 d4 d5
            generalize W8.alloc (.cells #[.bool yb, .int .i64 ya, .int .i64 yl, .int .i64 yc, .int .i64 ym, .int .i64 yk] 48) = W9 at *
            generalize W8.heap.size = K8 at *
            have ⟨⟨x0, x1, x2, x3, x4, x5⟩, xf⟩ := BX
            have ⟨⟨y0, y1, y2, y3, y4, y5⟩, yf⟩ := BQ
            go_upto_region 9 with fail
            replace HD := drew_set2 H0.out HD hw6 1 2 (.int .i64 ya) (.int .i64 yl)
            replace HX := rowR_set (j := 2) (rowR_set (j := 1) HX (K := K6) (fun e => by have := LT6 _ e; omega) (.int .i64 ya)) (K := K6) (fun e => by have := LT6 _ e; omega) (.int .i64 yl)
            replace BX := BX.from ya yl
            replace BQ := (BQ.keep (K := K6) (j := 1) (by omega) (.int .i64 ya)).keep (K := K6) (j := 2) (by omega) (.int .i64 yl)
            clear x0 x1 x2 x3 x4 x5 xf y0 y1 y2 y3 y4 y5 yf
            generalize (W9.setCell ⟨K6, 1, none⟩ (.int .i64 ya)).setCell ⟨K6, 2, none⟩ (.int .i64 yl) = V9 at *
            have hyo1 := (okR_of hyo).1
            have hyo2 := (okR_of hyo).2.1
            obtain ⟨q1, q2, q3, q4, q5⟩ := okP_of hyo2
            have Q5 : Hid (yc % sz ym = 0) := q5
            clear q5
            go_wp2_with (first
              | (go_at_call 41; refine (pick_more HD 2 (by omega) (by omega) (by omega)).mono ?_; clear HD; rintro e W10 ⟨r10, rfl, b10, HD, g10⟩; replace HX := rowR_drew HX g10 hR; replace BX := BX.grown g10 hK6; replace BQ := BQ.grown g10 hK8; have ⟨⟨y0, y1, y2, y3, y4, y5⟩, yf⟩ := BQ; clear g10)
              | (go_at_call 42; refine (halves_any yc ym _ q1 (by omega) q3 q4).mono ?_; rintro e W11 ⟨rfl, hb11⟩; replace HX := HX.below hb11; replace BX := BX.below hb11; replace HD := HD.below hb11; have ⟨⟨x0, x1, x2, x3, x4, x5⟩, xf⟩ := BX; clear hb11))
            all_goals
              go_meet
              case rel =>
                first
                | exact ⟨ya, yl, a', l', BX, ruR_ok hyo1 (okR_of hok).2.1 ⟨k0, by omega⟩, HX, HD.weak (by omega)⟩
                | exact ⟨ya, yl, yc, ym + 1, BX.to _ _, ruR_ok hyo1 (half_ok hyo2 (by omega)).1 ⟨k0, by omega⟩, rowR_set (rowR_set HX (fun e => by have := LT6 _ e; omega) _) (fun e => by have := LT6 _ e; omega) _, drew_set2 H0.out (HD.weak (by omega)) hw6 _ _ _ _⟩
        case rest =>
          clear BX HX HD hok
          obtain ⟨x, y, x', y', BX, hok, HX, HD⟩ := hcut
          go_upto_if 63 with (go_at_call 41; refine (pick_more HD 5 (by omega) (by omega) (by omega)).mono ?_; clear HD; rintro e W12 ⟨r12, rfl, b12, HD, g12⟩; replace HX := rowR_drew HX g12 hR; replace BX := BX.grown g12 hK6; clear g12)
          have ⟨⟨x0, x1, x2, x3, x4, x5⟩, xf⟩ := BX
          by_cases hr12 : r12 = 0
          · have hb12 : ((r12 : Int) == 0) = true := by subst hr12; rfl
            replace HD := drew_set2 H0.out HD hw6 1 2 (.int .i64 0) (.int .i64 0)
            replace HX := rowR_set (j := 2) (rowR_set (j := 1) HX (K := K6) (fun e => by have := LT6 _ e; omega) (.int .i64 0)) (K := K6) (fun e => by have := LT6 _ e; omega) (.int .i64 0)
            go_wp2_with (at_builtin; refine wpList_append_own _ rfl _ _ 40 rfl w.heap.size 48 i0 (.agg #[.bool false, .int .i64 0, .int .i64 0, .int .i64 0, .int .i64 0, .int .i64 0]) 6 48 Try.underlying40 hi hz0 hz1 hz2 rfl (by decide) _ _ _ rfl (HX.alloc _) ⟨_, 0, none⟩ 1 1 [.bool pb, .int .i64 0, .int .i64 0, .int .i64 x', .int .i64 y', .int .i64 k] rfl rfl (cell_r6' _ _ _ _ _ _ _ _ (by simp)) (one6 _ _ _ _ _ _) (by unfold maxLen; omega) (by omega) (by have := HD.1.size; simp at *; omega) ?_; intro v' W9 hown' hgrow _; obtain ⟨k1, k2, k3⟩ := rules_round H0.out (HX.alloc _) (HD.alloc _) hall.out (ruR_ok (by decide) (okR_of hok).2.1 ⟨k0, by omega⟩) (by omega) hown' hgrow; obtain ⟨pv', cv', rfl⟩ := k1.rd.form; obtain ⟨g', hg', _⟩ := k1.rd.at (i := 0) (by simp); subst hg'; rw [snocR_len] at k1; clear hown' hgrow)
            go_roundw
            case rel => exact ⟨_, m - 1, by congr 1; omega, by rw [List.length_append]; simp; omega, ⟨_, _, by rw [snocR_len]⟩, by rw [snocR_len] at *; exact k1, k2, k3⟩
            case measure => simp [intOf]; omega
          · have hb12 : ((r12 : Int) == 0) = false := by rw [beq_eq_false_iff_ne]; omega
            go_wp2_with (at_builtin; refine wpList_append_own _ rfl _ _ 40 rfl w.heap.size 48 i0 (.agg #[.bool false, .int .i64 0, .int .i64 0, .int .i64 0, .int .i64 0, .int .i64 0]) 6 48 Try.underlying40 hi hz0 hz1 hz2 rfl (by decide) _ _ _ rfl (HX.alloc _) ⟨_, 0, none⟩ 1 1 [.bool pb, .int .i64 x, .int .i64 y, .int .i64 x', .int .i64 y', .int .i64 k] rfl rfl (cell_r6' _ _ _ _ _ _ _ _ (by simp)) (one6 _ _ _ _ _ _) (by unfold maxLen; omega) (by omega) (by have := HD.1.size; simp at *; omega) ?_; intro v' W9 hown' hgrow _; obtain ⟨k1, k2, k3⟩ := rules_round H0.out (HX.alloc _) (HD.alloc _) hall.out hok (by omega) hown' hgrow; obtain ⟨pv', cv', rfl⟩ := k1.rd.form; obtain ⟨g', hg', _⟩ := k1.rd.at (i := 0) (by simp); subst hg'; rw [snocR_len] at k1; clear hown' hgrow)
            go_roundw
            case rel => exact ⟨_, m - 1, by congr 1; omega, by rw [List.length_append]; simp; omega, ⟨_, _, by rw [snocR_len]⟩, by rw [snocR_len] at *; exact k1, k2, k3⟩
            case measure => simp [intOf]; omega
end Go.Proofs.Ytaoahghfmlegbaa
