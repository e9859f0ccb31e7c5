/- The law of the fewest, walked: it returns true. -/
import Derived.Test.YtaoahghfmlegbaaTopL
import Derived.Test.YtaoahghfmlegbaaWn
import Derived.Test.YtaoahghfmlegbaaDraw8
import Derived.Test.YtaoahghfmlegbaaWithout
import Derived.BigQuiet
import Derived.Deep.DeepCutAuto
namespace Go.Proofs.Ytaoahghfmlegbaa
open Go.RowKit Go.Lib

theorem sz_shl (l : Int) (h0 : 0 ≤ l) : wrap64 (2 ^ (16 - l).toNat) = sz l := by
  have h := sz_bd l h0
  show wrap64 (sz l) = sz l
  unfold wrap64
  omega

set_option maxRecDepth 100000 in
set_option maxHeartbeats 4000000 in
theorem law_nettop (v : Value) (w : World) (h : BytA w v) :
    Calls Try.prog 3 #[v] w fun e w' => e = .returned (.bool true) ∧ Below w.heap.size w w' := by
  obtain ⟨q, n, cap, rfl, hc, hl, hb⟩ := id h
  by_cases h20 : n ≤ 1048576
  · have h20' : decide (1048576 < (n : Int)) = false := decide_eq_false (by omega)
    have C := drawWithout_any _ w h
    clear h hb
    go_enter Try.func3, Try.ntmps3
    go_wp2_with (go_at_call 11; refine C.mono ?_; clear C; rintro e W1 ⟨u, L, u2, O, rfl, HX, HY, hL, hO, hm, hm2, HB⟩; obtain ⟨pv, cv, rfl⟩ := HX.form; obtain ⟨po, co, rfl⟩ := HY.form)
    have rL := HX.rd
    have rO := HY.rd
    clear HX HY hm hm2
    have C1 := iwithout_any L O _ _ W1 rL rO
    have fs : (fewOf L O).length ≤ 65536 := fewOf_small _ _
    generalize hF : fewOf L O = F at C1 fs
    have HF : Hid (fewOf L O = F) := hF
    clear hF
    go_wp2_with (go_at_call 12; refine C1.mono ?_; clear C1; rintro e W2 ⟨vF, rfl, rF, hb⟩; obtain ⟨pF, cF, rfl⟩ := rF.form)
    replace HB := below_then HB hb
    replace rL := rL.below hb
    replace rO := rO.below hb
    replace rF := rF.rd
    clear hb
    have C2 := without_any L O _ _ W2 rL rO
    rw [HF.out] at C2
    go_wp2_with (go_at_call 14; refine C2.mono ?_; clear C2; rintro e W3 ⟨gw, cw, rfl, rw0, hb⟩)
    replace HB := below_then HB hb
    replace rL := rL.below hb
    replace rO := rO.below hb
    replace rF := rF.below hb
    replace rw0 : Row W3 W2.heap.size (.slice (some ⟨gw, 0, none⟩) F.length cw) F := rw0
    clear hb
    have C3 := same_any F _ _ W3 rF rw0.rd (by omega)
    go_wp2_with (go_at_call 13; refine C3.mono ?_; clear C3; rintro e W4 ⟨rfl, hb⟩)
    replace HB := below_then HB hb
    replace rL := rL.below hb
    replace rO := rO.below hb
    replace rF := rF.below hb
    clear hb rw0
    have C4 := wnok_any L _ W4 rL (by omega)
    cases hoL : okSet L with
    | false =>
      have hF : F = [] := by rw [← HF.out]; exact few_noL hoL
      subst hF
      rw [hoL] at C4
      go_wp2_with (go_at_call 15; refine C4.mono ?_; clear C4; rintro e W5 ⟨rfl, hb⟩)
      go_ret
      exact ⟨rfl, below_then HB hb⟩
    | true =>
      rw [hoL] at C4
      go_wp2_with (go_at_call 15; refine C4.mono ?_; clear C4; rintro e W5 ⟨rfl, hb⟩)
      replace HB := below_then HB hb
      replace rL := rL.below hb
      replace rO := rO.below hb
      replace rF := rF.below hb
      clear hb
      have C5 := wnok_any O _ W5 rO (by omega)
      cases hoO : okSet O with
      | false =>
        have hF : F = [] := by rw [← HF.out]; exact few_noO hoO
        subst hF
        rw [hoO] at C5
        go_wp2_with (go_at_call 15; refine C5.mono ?_; clear C5; rintro e W6 ⟨rfl, hb⟩)
        go_ret
        exact ⟨rfl, below_then HB hb⟩
      | true =>
        rw [hoO] at C5
        have hF : few (setOf L O) 16 0 = F := by rw [← HF.out]; exact (few_yes hoL hoO).symm
        have aL : Hid (allOk L = true) := (okSet_of hoL).2
        have aO : Hid (allOk O = true) := (okSet_of hoO).2
        have aF : Hid (allOk F = true) := by unfold Hid; rw [← hF]; exact run_ok (few_root _)
        have HR : Hid (Run (setOf L O) 65536 0 F) := by unfold Hid; rw [← hF]; exact few_root _
        have HJ : Hid (∀ j k, j < F.length → k < F.length → (gt F j).2 = (gt F k).2 → (gt F j).1 + sz (gt F k).2 = (gt F k).1 → (gt F j).1 % (sz (gt F k).2 * 2) = 0 → False) := by
          unfold Hid; rw [← hF]; exact fun j k h1 h2 h3 h4 h5 => no_join h1 h2 h3 h4 h5
        clear hF HF hoL hoO
        go_wp2_with (go_at_call 15; refine C5.mono ?_; clear C5; rintro e W6 ⟨rfl, hb⟩)
        replace HB := below_then HB hb
        replace rL := rL.below hb
        replace rO := rO.below hb
        replace rF := rF.below hb
        clear hb
        go_loopw [6, 7] (fun nx i wr => ∃ (k : Nat) (y : Int), k ≤ F.length ∧ nx = .int .i64 y ∧ i = .int .i64 k ∧ 0 ≤ y ∧ y ≤ 65536 ∧ Hid (Run (setOf L O) 65536 y (F.drop k)) ∧ Below W6.heap.size W6 wr) (fun _ i _ => F.length - (intOf i).toNat)
        case atStart => exact ⟨0, 0, Nat.zero_le _, rfl, rfl, Int.le_refl _, by omega, HR, Below.refl _ _⟩
        case round =>
          obtain ⟨k, y, hk, rfl, rfl, hy0, hy1, hrun, hB⟩ := hrel
          by_cases hlt : k < F.length
          · obtain ⟨g, rfl, hg, c0, c1⟩ := (rF.below hB).gt hlt
            have hR := hrun.out
            rw [gt_drop hlt] at hR
            obtain ⟨r1, r2, r3, r4, r5, r6⟩ := hR
            have hj := fun j h => HJ.out j k h hlt
            obtain ⟨a, ha⟩ : ∃ a, (gt F k).1 = a := ⟨_, rfl⟩
            obtain ⟨l, hl'⟩ : ∃ l, (gt F k).2 = l := ⟨_, rfl⟩
            simp only [ha, hl'] at r1 r2 r3 r4 r5 r6 hj
            rw [ha] at c0
            rw [hl'] at c1
            have HA : Hid ((gt F k).1 = a) := ha
            clear ha hl'
            have ok := fun w => ok_any a l w
            rw [r1] at ok
            obtain ⟨o1, o2, o3, o4, o5⟩ := ok_iff.mp r1
            have hb := sz_bd l o1
            have hsh := sz_shl l o1
            obtain ⟨z, hz⟩ : ∃ z, sz l = z := ⟨_, rfl⟩
            rw [hz] at hb r4 r5 r6 hj hsh o5
            have HZ : Hid (sz l = z) := hz
            have hlo : decide (a < y) = false := decide_eq_false (by omega)
            obtain ⟨hb1, hb2⟩ := hb
            have R3 : Hid (∀ x, y ≤ x → x < a → setOf L O x = false) := r3
            have R4 : Hid (∀ x, a ≤ x → x < a + z → setOf L O x = true) := r4
            have R6 : Hid (Run (setOf L O) 65536 (a + z) (F.drop (k + 1))) := r6
            have HJ' : Hid (∀ j, j < F.length → (gt F j).2 = l → (gt F j).1 + z = a → (gt F j).1 % (z * 2) = 0 → False) := hj
            clear r3 r4 r6 hj hz r1
            go_wp2_with (go_at_call 16; refine (ok _).mono ?_; clear ok; rintro e w1 ⟨rfl, hb⟩; obtain ⟨hc, hf⟩ := bcell hb)
            rw [hsh]
            clear hsh
            have d0 : w1.cell? ⟨g, k * 2, none⟩ = some (.int .i64 a) := by rw [hb.cell (p := ⟨g, k * 2, none⟩) hg]; exact c0
            have d1 : w1.cell? ⟨g, k * 2 + 1, none⟩ = some (.int .i64 l) := by rw [hb.cell (p := ⟨g, k * 2 + 1, none⟩) hg]; exact c1
            have hB1 := below_then hB hb
            have hk1 : ((k : Int) - 1 + 1) = (k : Int) := by omega
            go_cut [111] (fun b W => b = .bool false ∧ Below w1.heap.size w1 W)
            case first =>
              clear hc hf c0 c1 hb hk1
              by_cases hk0 : k = 0
              · have e : decide (0 < (k : Int)) = false := decide_eq_false (by omega)
                go_quiet (fail)
                go_wp2_with fail
                go_meet
                case rel => exact ⟨rfl, below_drewN (Below.refl _ _) _⟩
              · have e : decide (0 < (k : Int)) = true := decide_eq_true (by omega)
                obtain ⟨j, rfl⟩ : ∃ j, k = j + 1 := ⟨k - 1, by omega⟩
                obtain ⟨g', e', _, c2, c3⟩ := (rF.below hB1).gt (show j < F.length by omega)
                cases e'
                have hj := HJ'.out j (by omega)
                obtain ⟨a', ha⟩ : ∃ a, (gt F j).1 = a := ⟨_, rfl⟩
                obtain ⟨l', hl'⟩ : ∃ l, (gt F j).2 = l := ⟨_, rfl⟩
                rw [ha, hl'] at hj
                rw [ha] at c2
                rw [hl'] at c3
                have HG : Hid ((gt F j).1 = a') := ha
                clear ha hl'
                by_cases hll : l' = l
                · subst hll
                  have hgood := ok_iff.mp (allOk_of aF.out (gt_mem (show j < F.length by omega)))
                  rw [HG.out] at hgood
                  obtain ⟨_, _, g3, g4, _⟩ := hgood
                  by_cases haz : a' + z = a
                  · have hn : ¬ a' % (z * 2) = 0 := fun h => hj rfl haz h
                    have hz2 : ¬ 2 * z = 0 := by omega
                    have hz3 : (2 * z == 0) = false := by rw [beq_eq_false_iff_ne]; exact hz2
                    have hr : (a' % (2 * z) == 0) = false := by
                      rw [beq_eq_false_iff_ne, Int.mul_comm]; exact hn
                    clear hj hn
                    subst haz
                    go_quiet (fail)
                    go_wp2_with fail
                    go_meet
                    case rel => exact ⟨rfl, below_drewN (Below.refl _ _) _⟩
                  · have ee : (a' + z == a) = false := by rw [beq_eq_false_iff_ne]; exact haz
                    clear hj
                    go_quiet (fail)
                    go_wp2_with fail
                    go_meet
                    case rel => exact ⟨rfl, below_drewN (Below.refl _ _) _⟩
                · have ee : (l' == l) = false := by rw [beq_eq_false_iff_ne]; exact hll
                  go_quiet (fail)
                  go_wp2_with fail
                  go_meet
                  case rel => exact ⟨rfl, below_drewN (Below.refl _ _) _⟩
            case rest =>
              obtain ⟨rfl, hbc⟩ := hcut
              have hB2 := below_then hB1 hbc
              clear hc hf c0 c1 d0 d1 hB1 hb hk1 HJ' hbc
              go_wp2_with fail
              go_loopw [9] (fun s wr => ∃ x : Int, s = .int .i64 x ∧ y ≤ x ∧ x ≤ a ∧ Below W6.heap.size W6 wr) (fun s _ => (a - intOf s).toNat)
              case atStart => exact ⟨y, rfl, Int.le_refl _, by omega, hB2⟩
              case round =>
                obtain ⟨x, rfl, hx1, hx2, hBx⟩ := hrel
                obtain ⟨g2, e2, hg2, x0, x1⟩ := (rF.below hBx).gt hlt
                cases e2
                rw [HA.out] at x0
                clear x1
                by_cases hx : x < a
                · have C := wnhas_any L _ x wr (rL.below hBx) aL.out (by omega)
                  rcases setOf_no (R3.out x hx1 hx) with e | ⟨e1, e2⟩
                  · rw [e] at C
                    go_wp2_with (go_at_call 17; refine C.mono ?_; clear C; rintro e w2 ⟨rfl, hb2⟩)
                    go_roundw
                    case rel => exact ⟨x + 1, rfl, by omega, by omega, below_then hBx hb2⟩
                    case measure => simp [intOf]; omega
                  · rw [e1] at C
                    go_wp2_with (go_at_call 17; refine C.mono ?_; clear C; rintro e w2 ⟨rfl, hb2⟩)
                    have C := wnhas_any O _ x w2 (rO.below (below_then hBx hb2)) aO.out (by omega)
                    rw [e2] at C
                    go_wp2_with (go_at_call 17; refine C.mono ?_; clear C; rintro e w3 ⟨rfl, hb3⟩)
                    go_roundw
                    case rel => exact ⟨x + 1, rfl, by omega, by omega, below_then (below_then hBx hb2) hb3⟩
                    case measure => simp [intOf]; omega
                · obtain rfl : x = a := by omega
                  go_wp2_with fail
                  go_loopw [10] (fun s wr => ∃ t : Int, s = .int .i64 t ∧ x ≤ t ∧ t ≤ x + z ∧ Below W6.heap.size W6 wr) (fun s _ => (x + z - intOf s).toNat)
                  case atStart => exact ⟨x, rfl, Int.le_refl _, by omega, hBx⟩
                  case round =>
                    obtain ⟨t, rfl, ht1, ht2, hBt⟩ := hrel
                    obtain ⟨g2, e2, hg2, y0, y1⟩ := (rF.below hBt).gt hlt
                    cases e2
                    rw [HA.out] at y0
                    clear y1
                    by_cases ht : t < x + z
                    · have C := wnhas_any L _ t wr (rL.below hBt) aL.out (by omega)
                      obtain ⟨e1, e2⟩ := setOf_yes (R4.out t ht1 ht)
                      rw [e1] at C
                      go_wp2_with (go_at_call 17; refine C.mono ?_; clear C; rintro e w2 ⟨rfl, hb2⟩)
                      have C := wnhas_any O _ t w2 (rO.below (below_then hBt hb2)) aO.out (by omega)
                      rw [e2] at C
                      go_wp2_with (go_at_call 17; refine C.mono ?_; clear C; rintro e w3 ⟨rfl, hb3⟩)
                      go_roundw
                      case rel => exact ⟨t + 1, rfl, by omega, by omega, below_then (below_then hBt hb2) hb3⟩
                      case measure => simp [intOf]; omega
                    · obtain rfl : t = x + z := by omega
                      go_wp2_with fail
                      go_roundw
                      case rel => first | exact ⟨k + 1, x + z, hlt, rfl, rfl, by omega, by omega, R6, hBt⟩ | ((repeat apply Exists.intro); exact ⟨⟨k + 1, x + z, hlt, rfl, rfl, by omega, by omega, R6, hBt⟩, rfl⟩)
                      case measure => simp [intOf]; omega
          · obtain rfl : k = F.length := by omega
            have R5 : Hid (∀ x, y ≤ x → x < 65536 → setOf L O x = false) := by
              unfold Hid; have := hrun.out; rw [List.drop_length] at this; exact this
            clear hrun
            go_wp2_with fail
            go_loopw [11] (fun s wr => ∃ x : Int, s = .int .i64 x ∧ y ≤ x ∧ x ≤ 65536 ∧ Below W6.heap.size W6 wr) (fun s _ => (65536 - intOf s).toNat)
            case atStart => exact ⟨y, rfl, Int.le_refl _, by omega, hB⟩
            case round =>
              obtain ⟨x, rfl, hx1, hx2, hBx⟩ := hrel
              by_cases hx : x < 65536
              · have C := wnhas_any L _ x wr (rL.below hBx) aL.out (by omega)
                rcases setOf_no (R5.out x hx1 hx) with e | ⟨e1, e2⟩
                · rw [e] at C
                  go_wp2_with (go_at_call 17; refine C.mono ?_; clear C; rintro e w2 ⟨rfl, hb2⟩)
                  go_roundw
                  case rel => exact ⟨x + 1, rfl, by omega, by omega, below_then hBx hb2⟩
                  case measure => simp [intOf]; omega
                · rw [e1] at C
                  go_wp2_with (go_at_call 17; refine C.mono ?_; clear C; rintro e w2 ⟨rfl, hb2⟩)
                  have C := wnhas_any O _ x w2 (rO.below (below_then hBx hb2)) aO.out (by omega)
                  rw [e2] at C
                  go_wp2_with (go_at_call 17; refine C.mono ?_; clear C; rintro e w3 ⟨rfl, hb3⟩)
                  go_roundw
                  case rel => exact ⟨x + 1, rfl, by omega, by omega, below_then (below_then hBx hb2) hb3⟩
                  case measure => simp [intOf]; omega
              · obtain rfl : x = 65536 := by omega
                go_wp2_with fail
                go_ret
                exact ⟨rfl, below_then HB hBx⟩
  · have h20' : decide (1048576 < (n : Int)) = true := decide_eq_true (by omega)
    go_enter Try.func3, Try.ntmps3
    go_wp2_with fail
    go_ret
    exact ⟨rfl, Below.refl _ _⟩
end Go.Proofs.Ytaoahghfmlegbaa
