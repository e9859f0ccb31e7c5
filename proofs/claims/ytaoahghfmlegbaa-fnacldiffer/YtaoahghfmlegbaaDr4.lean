/- The draws of rules: l5SpoilRules, l5AnyRules. -/
import Derived.Test.YtaoahghfmlegbaaDr3
namespace Go.Proofs.Ytaoahghfmlegbaa
open Go.RowKit Go.Lib

theorem tab3m {r : Nat} {a b c : Int} (h : (r : Int) < 3) : ∃ l : Int, #[Value.int .i64 a, .int .i64 b, .int .i64 c][r]? = some (.int .i64 l) := by
  have : r = 0 ∨ r = 1 ∨ r = 2 := by omega
  rcases this with rfl | rfl | rfl
  · exact ⟨a, rfl⟩
  · exact ⟨b, rfl⟩
  · exact ⟨c, rfl⟩
theorem RowR.some {w : World} {b : Nat} {v : Value} {M : List Ru} (h : RowR w b v M) (hm : 0 < M.length) : ∃ g c, v = .slice (some ⟨g, 0, none⟩) M.length c := by
  obtain ⟨p, c, rfl⟩ := h.rd.form
  obtain ⟨g, rfl, _⟩ := h.rd.at hm
  exact ⟨g, c, rfl⟩
theorem fz_row {w : World} {b g cap : Nat} {L : List Ru} (h : RowR w b (.slice (some ⟨g, 0, none⟩) L.length cap) L) : ∀ j, w.frozen? ⟨g, j, none⟩ = false := fun j => World.ownsRow.frozenAt h j
/-- a list laid anew -/
theorem copy_row {W : World} {b : Nat} {v : Value} {A : List Ru} (h : W.ownsRow b 48 6 v (0 + A.length) ([] ++ flatR A)) : RowR W b v A := row_first h
def lenS : Value → Nat
  | .slice _ n _ => n
  | _ => 0

set_option maxRecDepth 100000 in
set_option maxHeartbeats 8000000 in
theorem spoilR_any (R : Nat) (q : Option Addr) (n cap : Nat) (p : Int) (b gv cv : Nat) (L : List Ru) (w : World) (h : Rdr w R q n cap p) (hp : p ≤ 1073740000) (hL : RowR w b (.slice (some ⟨gv, 0, none⟩) L.length cv) L) (l7 : L.length < 7) (hall : ∀ r ∈ L, okR r = true) :
    Calls Try.prog 77 #[.pointer (some ⟨R, 0, none⟩), .slice (some ⟨gv, 0, none⟩) L.length cv] w fun e w' => ∃ g c M, e = .returned (.slice (some ⟨g, 0, none⟩) M.length c) ∧ RowR w' w.heap.size (.slice (some ⟨g, 0, none⟩) M.length c) M ∧ M.length ≤ 13 ∧ Drew w R q n cap p 100 w' := by
  have hR := h.lt
  obtain ⟨i0, hi, hz0, hz1, hz2⟩ := info_parts infoRS
  have HD := (Drew.refl h).alloc (.cells #[] 48)
  have r0 := rowR_nil w
  have H0 : Hid (Rdr w R q n cap p) := h
  have hA : RdR (w.alloc (.cells #[] 48)) (.slice (some ⟨gv, 0, none⟩) L.length cv) L := hL.rd.below ((Below.refl _ _).more _)
  have hs0 : w.heap.size ≤ (w.alloc (.cells #[] 48)).heap.size := by simp
  have HALL : Hid (∀ r ∈ L, okR r = true) := hall
  clear h hall
  go_enter Try.func77, Try.ntmps77
  go_upto_region 2 with (at_builtin; (refine wpList_append_own _ rfl _ _ 40 rfl w.heap.size 48 i0 (.agg #[.bool false, .int .i64 0, .int .i64 0, .int .i64 0, .int .i64 0, .int .i64 0]) 6 48 Try.underlying40 hi hz0 hz1 hz2 rfl (by decide) _ _ _ rfl r0 ⟨gv, 0, none⟩ L.length cv (flatR L) rfl (flatR_len L) (news_rules hA) (flatR_one L) (by unfold maxLen; simp; omega) (by simp; omega) hs0 ?_; intro v1 W1 hown1 hgrow1 _; have HX : RowR W1 w.heap.size v1 L := copy_row hown1; replace HD := drew_grown H0.out HD hgrow1 (fun k e => (World.ownsRow.lt r0 k e).1); obtain ⟨p1, c1, rfl⟩ := HX.rd.form; clear hown1 hgrow1 r0 hA hs0))
  go_cut [18] (fun c W => ∃ bb : Bool, c = .bool bb ∧ (bb = false → 0 < L.length) ∧ RowR W w.heap.size (.slice p1 L.length c1) L ∧ Drew w R q n cap p 1 W)
  case first =>
    by_cases hl : L.length = 0
    · have hl0 : ((L.length : Int) == 0) = true := by rw [beq_iff_eq]; omega
      go_wp2_with fail
      go_meet
      case rel => exact ⟨true, rfl, by simp, HX, HD.weak (by omega)⟩
    · have hl1 : ((L.length : Int) == 0) = false := by rw [beq_eq_false_iff_ne]; omega
      go_wp2_with (go_at_call 41; refine (pick_more HD 4 (by omega) (by omega) (by omega)).mono ?_; clear HD; rintro e W8 ⟨r8, rfl, b8, HD, g8⟩; replace HX := rowR_drew HX g8 hR; clear g8)
      go_meet
      case rel => exact ⟨_, rfl, fun _ => by omega, HX, HD.weak (by omega)⟩
  case rest =>
    clear HX HD
    obtain ⟨bb, rfl, hbb, HX, HD⟩ := hcut
    cases bb with
    | true =>
      clear hbb
      go_wp2_with (go_at_call 41; refine (pick_more HD 2 (by omega) (by omega) (by omega)).mono ?_; clear HD; rintro e W8 ⟨r8, rfl, b8, HD, g8⟩; replace HX := rowR_drew HX g8 hR; clear g8)
      go_loopw [5] (fun v wr => ∃ M : List Ru, M.length ≤ 12 + r8 ∧ (∃ p c, v = .slice p M.length c) ∧ Hid (RowR wr w.heap.size v M) ∧ Hid (Drew w R q n cap p 2 wr)) (fun v _ => 20 - lenS v)
      case atStart => exact ⟨L, by omega, ⟨_, _, rfl⟩, HX, HD⟩
      case round =>
        clear HX HD
        obtain ⟨M, hM, ⟨pv, cw, rfl⟩, hX, hD⟩ := hrel
        have HX := hX.out
        have HD := hD.out
        clear hX hD
        by_cases hc : M.length < 12 + r8
        · have hc1 : decide ((M.length : Int) < 12 + (r8 : Int)) = true := decide_eq_true (by omega)
          go_wp2_with (at_builtin; go_loud (refine wpList_append_own _ rfl _ _ 40 rfl w.heap.size 48 i0 (.agg #[.bool false, .int .i64 0, .int .i64 0, .int .i64 0, .int .i64 0, .int .i64 0]) 6 48 Try.underlying40 hi hz0 hz1 hz2 rfl (by decide) _ _ _ rfl (HX.alloc _) ⟨_, 0, none⟩ 1 1 [.bool false, .int .i64 0, .int .i64 0, .int .i64 0, .int .i64 0, .int .i64 1] rfl rfl (cell_r6' _ _ _ _ _ _ _ _ (by simp)) (one6 _ _ _ _ _ _) (by unfold maxLen; omega) (by omega) (by have := HD.1.size; simp at *; omega) ?_; intro v' W9 hown' hgrow _; have k1 : RowR W9 w.heap.size v' (M ++ [(false, (0, 0), (0, 0), 1)]) := (by unfold RowR; rw [List.length_append, flatR_app]; exact hown'); replace HD := drew_grown H0.out (HD.alloc (.cells #[.bool false, .int .i64 0, .int .i64 0, .int .i64 0, .int .i64 0, .int .i64 1] 48)) hgrow (fun k e => (World.ownsRow.lt HX k e).1); obtain ⟨pv', cv', rfl⟩ := k1.rd.form; rw [snocR_len] at k1; clear hown' hgrow))
          go_roundw
          case rel => exact ⟨_, by rw [snocR_len]; omega, ⟨_, _, by rw [snocR_len]⟩, k1, HD⟩
          case measure => simp [lenS]; omega
        · have hc1 : decide ((M.length : Int) < 12 + (r8 : Int)) = false := decide_eq_false (by omega)
          obtain ⟨g, c, hv⟩ := HX.some (by omega)
          cases hv
          go_wp2_with fail
          go_ret
          exact ⟨_, _, M, rfl, HX, by omega, HD.weak (by omega)⟩
    | false =>
      have hl := hbb rfl
      clear hbb
      obtain ⟨gr, c, hv⟩ := HX.some hl
      cases hv
      have T1 : Hid True := trivial
      have hgw := (World.ownsRow.lt HX gr rfl).1
      have hgR : gr ≠ R := by omega
      go_upto_if 46 with (first
        | (go_at_call 41; clear T1; refine (pick_more HD (L.length : Int) (by omega) (by omega) (by omega)).mono ?_; clear HD; rintro e W8 ⟨k, rfl, b8, HD, g8⟩; replace HX := rowR_drew HX g8 hR; clear g8)
        | (go_at_call 41; refine (pick_more HD 3 (by omega) (by omega) (by omega)).mono ?_; clear HD; rintro e W9 ⟨r9, rfl, b9, HD, g9⟩; replace HX := rowR_drew HX g9 hR; clear g9))
      have hk : k < L.length := by omega
      obtain ⟨_, hpv, hcap, hgl, dA⟩ := HX.rd.at hk
      cases hpv
      have hyo := HALL.out _ (List.getElem_mem hk)
      obtain ⟨⟨yb, ⟨ya, yl⟩, ⟨yc, ym⟩, yk⟩, hy⟩ : ∃ y : Ru, L[k] = y := ⟨_, rfl⟩
      rw [hy] at dA hyo
      obtain ⟨d0, d1, d2, d3, d4, d5⟩ := dA
      have hq1 := (okR_of hyo).1
      have hq2 := (okR_of hyo).2.1
      have hf := fz_row HX
      have h9 : r9 = 0 ∨ r9 = 1 ∨ r9 = 2 := by omega
      rcases h9 with rfl | rfl | rfl
      · go_wp2_with (go_at_call 69; refine (spoil_more HD (by omega) hq1).mono ?_; clear HD; rintro e W10 ⟨sa, sl, rfl, _, _, HD, g10⟩; replace HX := rowR_drew HX g10 hR; replace d1 := grown_cell g10 hgR d1; replace d2 := grown_cell g10 hgR d2; clear hf; have hf := fz_row HX; clear g10)
        obtain ⟨M, hM, HM⟩ := rowR_from HX hk hy sa sl
        replace HD := drew_set2 H0.out HD hgw (k * 6 + 1) (k * 6 + 2) (.int .i64 sa) (.int .i64 sl)
        go_ret
        exact ⟨gr, c1, M, by rw [hM]; rfl, by rw [hM]; exact HM, by omega, HD.weak (by omega)⟩
      · go_wp2_with (go_at_call 69; refine (spoil_more HD (by omega) hq2).mono ?_; clear HD; rintro e W10 ⟨sa, sl, rfl, _, _, HD, g10⟩; replace HX := rowR_drew HX g10 hR; replace d3 := grown_cell g10 hgR d3; replace d4 := grown_cell g10 hgR d4; clear hf; have hf := fz_row HX; clear g10)
        obtain ⟨M, hM, HM⟩ := rowR_to HX hk hy sa sl
        replace HD := drew_set2 H0.out HD hgw (k * 6 + 3) (k * 6 + 4) (.int .i64 sa) (.int .i64 sl)
        go_ret
        exact ⟨gr, c1, M, by rw [hM]; rfl, by rw [hM]; exact HM, by omega, HD.weak (by omega)⟩
      · have hR9 : R < W9.heap.size := (by have := HD.1.size; omega)
        replace HX := HX.alloc (.cells #[.int .i64 (-1), .int .i64 7, .int .i64 8] 3)
        replace HD := HD.alloc (.cells #[.int .i64 (-1), .int .i64 7, .int .i64 8] 3)
        go_wp2_with (go_at_call 41; refine (pick_more HD 3 (by omega) (by omega) (by omega)).mono ?_; clear HD; rintro e W10 ⟨r10, rfl, b10, HD, g10⟩; replace HX := rowR_drew HX g10 hR; obtain ⟨z, hz⟩ := tab3m (a := -1) (b := 7) (c := 8) b10; have x6 := tab_cell g10 hR9 hz; obtain ⟨_, hpv, _, _, dA⟩ := HX.rd.at hk; cases hpv; rw [hy] at dA; clear d0 d1 d2 d3 d4 d5 hf; obtain ⟨d0, d1, d2, d3, d4, d5⟩ := dA; have hf := fz_row HX; clear g10)
        obtain ⟨M, hM, HM⟩ := rowR_kind HX hk hy z
        replace HD := drew_set H0.out HD hgw (j := k * 6 + 5) (.int .i64 z)
        go_ret
        exact ⟨gr, c1, M, by rw [hM]; rfl, by rw [hM]; exact HM, by omega, HD.weak (by omega)⟩

set_option maxRecDepth 100000 in
set_option maxHeartbeats 2000000 in
theorem anyR_any (R : Nat) (q : Option Addr) (n cap : Nat) (p : Int) (w : World) (h : Rdr w R q n cap p) (hp : p ≤ 1073730000) :
    Calls Try.prog 54 #[.pointer (some ⟨R, 0, none⟩)] w fun e w' => ∃ g c L, e = .returned (.slice (some ⟨g, 0, none⟩) L.length c) ∧ RowR w' w.heap.size (.slice (some ⟨g, 0, none⟩) L.length c) L ∧ L.length ≤ 13 ∧ Drew w R q n cap p 700 w' := by
  have hR := h.lt
  have C := rules_any R q n cap p w h (by omega)
  have H0 : Hid (Rdr w R q n cap p) := h
  clear h
  go_enter Try.func54, Try.ntmps54
  go_wp2_with (first
    | (go_at_call 76; refine C.mono ?_; clear C; rintro e W1 ⟨g, c, L, rfl, HX, l7, hall, HD⟩)
    | (go_at_call 41; refine (pick_more HD 24 (by omega) (by omega) (by omega)).mono ?_; clear HD; rintro e W2 ⟨r2, rfl, b2, HD, g2⟩; replace HX := rowR_drew HX g2 hR; clear g2)
    | (go_at_call 77; obtain ⟨gw, p3, p31, p32, hr3⟩ := HD; refine (spoilR_any R q n cap p3 w.heap.size g c L W2 hr3 (by omega) HX l7 hall).mono ?_; rintro e W3 ⟨g', c', M, rfl, HM, l13, HD3⟩))
  · go_ret
    exact ⟨g', c', M, rfl, HM.mono gw.size, l13, (drew_trans gw p31 p32 HD3).weak (by omega)⟩
  · go_ret
    exact ⟨g, c, L, rfl, HX, by omega, HD.weak (by omega)⟩
end Go.Proofs.Ytaoahghfmlegbaa
