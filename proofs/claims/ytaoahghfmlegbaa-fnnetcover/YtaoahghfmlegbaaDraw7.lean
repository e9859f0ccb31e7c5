/- The draws of NetCover's argument. -/
import Derived.Test.YtaoahghfmlegbaaDraw6
namespace Go.Proofs.Ytaoahghfmlegbaa
open Go.RowKit Go.Lib

theorem ok_unit {m : Nat} (h : m ≤ 65535) : okP (m : Int) 16 = true := by
  unfold okP
  refine decide_eq_true ⟨by omega, by omega, by omega, by omega, ?_⟩
  have : sz 16 = 1 := by decide
  rw [this]; omega

set_option maxRecDepth 100000 in
set_option maxHeartbeats 4000000 in
theorem drawCover_any (v : Value) (w : World) (h : BytA w v) :
    Calls Try.prog 18 #[v] w fun e w' => ∃ u L, e = .returned u ∧ Row w' w.heap.size u L ∧ L.length ≤ 41 ∧ (∀ y ∈ L, Mid y.1 ∧ Mid y.2) ∧ Below w.heap.size w w' := by
  obtain ⟨i0, hi, hz0, hz1, hz2⟩ := info_parts infoP
  go_enter Try.func18, Try.ntmps18
  go_wp2_with (first
    | (go_at_call 39; refine (open_any _ _ h).mono ?_; rintro e W1 ⟨rfl, ⟨q, n, cap, hr⟩, hb⟩; have hRs := hr.lt; have C := pick_more (Drew.refl hr) 30 (by omega) (by omega) (by omega))
    | (go_at_call 41; refine C.mono ?_; clear C; rintro e W3 ⟨r3, rfl, b3, HD, g3⟩; clear g3))
  · have HX := Row.mono (row_nil_new W3) HD.1.size
    replace HD := HD.alloc (.cells #[] 31)
    have hB : Hid (Below w.heap.size w W1) := hb
    have H0 : Hid (Rdr W1 w.heap.size q n cap 0) := hr
    clear hb hr
    have h3 : ((r3 : Int) == 0) = true := by first | assumption | (rw [beq_iff_eq]; omega)
    rw [h3]
    go_loopw [4, 5] (fun v i wr => ∃ (L : List (Int × Int)) (m : Nat), i = .int .i64 (m : Int) ∧ L.length = m ∧ m ≤ 41 ∧ Hid (Row wr W1.heap.size v L) ∧ Hid (allOk L = true) ∧ Hid (Drew W1 w.heap.size q n cap 0 (1 + 30 * (L.length : Int)) wr)) (fun _ i _ => 41 - (intOf i).toNat)
    case atStart => exact ⟨[], 0, rfl, rfl, by omega, HX, rfl, by unfold Hid; simpa using HD⟩
    case round =>
      clear HD HX
      obtain ⟨L, m, rfl, hm, hm41, hrow, hall, hD⟩ := hrel
      subst hm
      obtain ⟨pv, cv, rfl⟩ := hrow.out.form
      have C := pick_more hD.out 2 (by omega) (by omega) (by omega)
      clear hD
      go_upto_if 16 with (go_at_call 41; refine C.mono ?_; clear C; rintro e W4 ⟨r4, rfl, b4, HD, g4⟩; have HX := row_drew hrow.out g4 hRs; clear g4 hrow)
      by_cases hc : (L.length : Int) < 40 + (r4 : Int)
      · have hc1 : decide ((L.length : Int) < 40 + (r4 : Int)) = true := decide_eq_true hc
        go_wp2_with (at_builtin; refine wpList_append_own _ rfl _ _ 23 rfl W1.heap.size 31 i0 (.agg #[.int .i64 0, .int .i64 0]) 2 16 Try.underlying23 hi hz0 hz1 hz2 rfl (by decide) _ _ _ rfl (HX.alloc _) ⟨W4.heap.size, 0, none⟩ 1 1 [.int .i64 (L.length : Int), .int .i64 16] rfl rfl (cell_pr _ _ _ _) (pr_one _ _) (by unfold maxLen; omega) (by omega) (by have := HD.1.size; simp; omega) ?_; intro v' W9 hown' hgrow _; obtain ⟨k1, k2, k3⟩ := list_round H0.out (HX.alloc _) (HD.alloc _) hall.out (ok_unit (show L.length ≤ 65535 by omega)) (by omega) hown' hgrow; obtain ⟨pv', cv', rfl⟩ := k1.form; rw [snoc_len] at k1; clear hown' hgrow)
        go_roundw
        case rel => exact ⟨_, L.length + 1, rfl, by rw [List.length_append]; simp, by omega, k1, k2, k3⟩
        case measure => simp [intOf]; omega
      · have hc1 : decide ((L.length : Int) < 40 + (r4 : Int)) = false := decide_eq_false hc
        go_wp2_with fail
        go_ret
        exact ⟨_, rfl, L, HX.mono hB.out.size, by omega, fun a b hab => mid_all hall.out (a, b) hab, drew_below hB.out HD (Nat.le_refl _)⟩
  · have HD' := HD
    obtain ⟨_, p3, p31, p32, hr3⟩ := HD'
    have C := list_any w.heap.size q n cap p3 12 W3 hr3 (by omega) (by omega) (by omega)
    go_wp2_with (go_at_call 40; refine C.mono ?_; clear C; rintro e W2 ⟨u, L, rfl, HX, hl, hm, HD2⟩)
    go_ret
    exact ⟨_, L, rfl, HX.mono (Nat.le_trans hb.size HD.1.size), by omega, hm, drew_below (drew_below hb HD (Nat.le_refl _)) HD2 (Nat.le_refl _)⟩
end Go.Proofs.Ytaoahghfmlegbaa
