/- The draws of NetWithout's arguments. -/
import Derived.Test.YtaoahghfmlegbaaDraw7
namespace Go.Proofs.Ytaoahghfmlegbaa
open Go.RowKit Go.Lib

theorem drew_trans {w W W' : World} {R n cap : Nat} {q : Option Addr} {p p3 c d : Int} (hg : w.grownBy W (some R)) (h1 : p ≤ p3) (h2 : p3 ≤ p + c) (h : Drew W R q n cap p3 d W') : Drew w R q n cap p (c + d) W' := by
  obtain ⟨hg2, p'', k1, k2, k3⟩ := h
  exact ⟨⟨hg2.os.trans hg.os, hg2.tape.trans hg.tape, hg2.output.trans hg.output, Nat.le_trans hg.size hg2.size, fun k hk hr => (hg2.block k (Nat.lt_of_lt_of_le hk hg.size) hr).trans (hg.block k hk hr)⟩, p'', by omega, by omega, k3⟩
/-- what the end of a round leaves -/
theorem list_round2 {w W W' : World} {R n cap : Nat} {q : Option Addr} {p c : Int} {v v' : Value} {L : List (Int × Int)} {x y : Int} (h0 : Rdr w R q n cap p) (hrow : Row W w.heap.size v L) (hD : Drew w R q n cap p c W)
    (hown : W'.ownsRow w.heap.size 31 2 v' (L.length + 1) (flat L ++ [.int .i64 x, .int .i64 y])) (hg : W.grownBy W' v.ownBlock) :
    Row W' w.heap.size v' (L ++ [(x, y)]) ∧ Drew w R q n cap p c W' := by
  refine ⟨?_, drew_grown h0 hD hg (fun k e => (World.ownsRow.lt hrow k e).1)⟩
  unfold Row; rw [List.length_append, flat_app]; exact hown
/-- a row below another's is as it was -/
theorem row_apart {W W' : World} {b c : Nat} {v u : Value} {L O : List (Int × Int)} (hA : Row W b v L) (hlt : ∀ k, v.ownBlock = some k → k < c) (hB : Row W c u O) (hg : W.grownBy W' u.ownBlock) : Row W' b v L := by
  refine World.ownsRow.kept hA hg ?_
  cases e : v.ownBlock with
  | none => exact .inl rfl
  | some k =>
    refine .inr (fun he => ?_)
    have h1 := hlt k e
    have h2 := (World.ownsRow.lt hB k he.symm).1
    omega
theorem cell_pr' (w : World) (x y : Value) (t : TypeId) {k : Nat} (hk : k = w.heap.size) : ∀ j u, [x, y][j]? = some u → (w.alloc (.cells #[x, y] t)).cell? ((⟨k, 0, none⟩ : Addr).add j) = some u := by
  subst hk; exact cell_pr w x y t
theorem mid_snoc {L : List (Int × Int)} (h : ∀ x ∈ L, Mid x.1 ∧ Mid x.2) {x y : Int} (hx : Mid x) (hy : Mid y) : ∀ z ∈ L ++ [(x, y)], Mid z.1 ∧ Mid z.2 := by
  intro z hz
  rcases List.mem_append.1 hz with h1 | h1
  · exact h z h1
  · simp at h1; subst h1; exact ⟨hx, hy⟩

set_option maxRecDepth 100000 in
set_option maxHeartbeats 8000000 in
theorem drawWithout_any (v : Value) (w : World) (h : BytA w v) :
    Calls Try.prog 11 #[v] w fun e w' => ∃ u L u2 O, e = .returned (.tuple #[u, u2]) ∧ Row w' w.heap.size u L ∧ Row w' w.heap.size u2 O ∧ L.length < 8 ∧ O.length < 14 ∧ (∀ y ∈ L, Mid y.1 ∧ Mid y.2) ∧ (∀ y ∈ O, Mid y.1 ∧ Mid y.2) ∧ Below w.heap.size w w' := by
  obtain ⟨i0, hi, hz0, hz1, hz2⟩ := info_parts infoP
  go_enter Try.func11, Try.ntmps11
  go_wp2_with (go_at_call 39; refine (open_any _ _ h).mono ?_; rintro e W1 ⟨rfl, ⟨q, n, cap, hr⟩, hb⟩; have hRs := hr.lt)
  have C := list_any w.heap.size q n cap 0 8 W1 hr (by omega) (by omega) (by omega)
  clear hr
  go_wp2_with (go_at_call 40; refine C.mono ?_; clear C; rintro e W2 ⟨u, L, rfl, HXA, hl, hmA, HD⟩; obtain ⟨pa, ca, rfl⟩ := HXA.form)
  have hB : Hid (Below w.heap.size w W2) := drew_below hb HD (Nat.le_refl _)
  have hs12 := HD.1.size
  obtain ⟨_, p3, p31, p32, hr3⟩ := HD
  have LTA : Hid (∀ k, (Value.slice pa L.length ca).ownBlock = some k → k < W2.heap.size) := fun k e => (World.ownsRow.lt HXA k e).2
  have hs01 := hb.size
  have C := list_any w.heap.size q n cap p3 6 W2 hr3 (by omega) (by omega) (by omega)
  have H0 : Hid (Rdr W2 w.heap.size q n cap p3) := hr3
  have hR2 : w.heap.size < W2.heap.size := hr3.lt
  clear hr3 hb
  go_wp2_with (go_at_call 40; refine C.mono ?_; clear C; rintro e W3 ⟨u, O, rfl, HXB, hlo, hmB, HD⟩; replace HXA := row_drew HXA HD.1 hRs)
  go_loopw [6, 7] (fun v i wr => ∃ (O : List (Int × Int)) (m : Nat), i = .int .i64 (m : Int) ∧ m ≤ L.length ∧ O.length < 6 + m ∧ Hid (Row wr W2.heap.size v O) ∧ Hid (∀ y ∈ O, Mid y.1 ∧ Mid y.2) ∧ Hid (Row wr W1.heap.size (.slice pa L.length ca) L) ∧ Hid (Drew W2 w.heap.size q n cap p3 (500 + (m : Int)) wr)) (fun _ i _ => 8 - (intOf i).toNat)
  case atStart => exact ⟨O, 0, rfl, by omega, by omega, HXB, hmB, HXA, by unfold Hid; simpa using HD⟩
  case round =>
    clear HD HXA HXB hmB hlo O
    obtain ⟨O, m, rfl, hm, hmO, hB0, hmB, hA0, hD⟩ := hrel
    obtain ⟨pb, cb, rfl⟩ := hB0.out.form
    by_cases hc : m < L.length
    · have hc1 : decide ((m : Int) < (L.length : Int)) = true := decide_eq_true (by omega)
      have C := pick_more hD.out 2 (by omega) (by omega) (by omega)
      clear hD
      go_upto_if 24 with (go_at_call 41; refine C.mono ?_; clear C; rintro e W4 ⟨r4, rfl, b4, HD, g4⟩; have HXA := row_drew hA0.out g4 hRs; have HXB := row_drew hB0.out g4 hR2; clear g4 hA0 hB0)
      by_cases hr : r4 = 0
      · have hb4 : ((r4 : Int) == 0) = true := by subst hr; rfl
        obtain ⟨ga, hpa, hga, d0, d1⟩ := HXA.rd.at (i := m) hc
        obtain ⟨xa, hxa⟩ : ∃ xa, L[m].1 = xa := ⟨_, rfl⟩
        obtain ⟨xl, hxl⟩ : ∃ xl, L[m].2 = xl := ⟨_, rfl⟩
        rw [hxa] at d0
        rw [hxl] at d1
        subst hpa
        clear hxa hxl
        by_cases hok : okP xa xl = true
        · obtain ⟨l1, l2, a1, a2, _⟩ := okP_of hok
          by_cases h16 : xl < 16
          · have h16' : decide (xl < 16) = true := decide_eq_true h16
            have M1 : Hid (Mid xa ∧ Mid (xl + 1)) := by unfold Hid Mid; omega
            go_wp2_with (first | (go_at_call 16; refine (ok_any xa xl _).mono ?_; rintro e W5 ⟨rfl, hb5⟩; replace d0 := (hb5.cell (p := ⟨ga, m * 2, none⟩) hga).trans d0; replace d1 := (hb5.cell (p := ⟨ga, m * 2 + 1, none⟩) hga).trans d1; replace HXA := HXA.below hb5; replace HXB := HXB.below hb5; replace HD := HD.below hb5; rw [hok]; clear hb5) | (go_at_call 42; refine (halves_any xa xl _ l1 (by omega) a1 a2).mono ?_; rintro e W6 ⟨rfl, hb6⟩; replace HXA := HXA.below hb6; replace HXB := HXB.below hb6; replace HD := HD.below hb6; clear hb6 d0 d1) | (at_builtin; refine wpList_append_own _ rfl _ _ 23 rfl W2.heap.size 31 i0 (.agg #[.int .i64 0, .int .i64 0]) 2 16 Try.underlying23 hi hz0 hz1 hz2 rfl (by decide) _ _ _ rfl (((HXB.alloc _).alloc _).alloc _) ⟨W6.heap.size + 1 + 1, 0, none⟩ 1 1 [.int .i64 xa, .int .i64 (xl + 1)] rfl rfl (cell_pr' _ _ _ _ (by simp)) (pr_one _ _) (by unfold maxLen; omega) (by omega) (by have := HD.1.size; simp; omega) ?_; intro v' W9 hown' hgrow _; obtain ⟨k1, k3⟩ := list_round2 H0.out (((HXB.alloc _).alloc _).alloc _) (((HD.alloc _).alloc _).alloc _) hown' hgrow; have k4 := row_apart (((HXA.alloc _).alloc _).alloc _) LTA.out (((HXB.alloc _).alloc _).alloc _) hgrow; obtain ⟨pv', cv', rfl⟩ := k1.form; rw [snoc_len] at k1; clear hown' hgrow))
            go_roundw
            case rel => exact ⟨_, m + 1, rfl, by omega, by rw [List.length_append]; simp; omega, k1, mid_snoc hmB.out M1.out.1 M1.out.2, k4, by unfold Hid; exact k3.weak (by omega)⟩
            case measure => simp [intOf]; omega
          · have h16' : decide (xl < 16) = false := decide_eq_false h16
            go_wp2_with (go_at_call 16; refine (ok_any xa xl _).mono ?_; rintro e W5 ⟨rfl, hb5⟩; replace d0 := (hb5.cell (p := ⟨ga, m * 2, none⟩) hga).trans d0; replace d1 := (hb5.cell (p := ⟨ga, m * 2 + 1, none⟩) hga).trans d1; replace HXA := HXA.below hb5; replace HXB := HXB.below hb5; replace HD := HD.below hb5; rw [hok]; clear hb5)
            go_roundw
            case rel => exact ⟨O, m + 1, rfl, by omega, by omega, HXB, hmB, HXA, by unfold Hid; exact HD.weak (by omega)⟩
            case measure => simp [intOf]; omega
        · have hok' : okP xa xl = false := by simpa using hok
          go_wp2_with (go_at_call 16; refine (ok_any xa xl _).mono ?_; rintro e W5 ⟨rfl, hb5⟩; replace HXA := HXA.below hb5; replace HXB := HXB.below hb5; replace HD := HD.below hb5; rw [hok']; clear hb5)
          go_roundw
          case rel => exact ⟨O, m + 1, rfl, by omega, by omega, HXB, hmB, HXA, by unfold Hid; exact HD.weak (by omega)⟩
          case measure => simp [intOf]; omega
      · have hb4 : ((r4 : Int) == 0) = false := by rw [beq_eq_false_iff_ne]; omega
        go_wp2_with fail
        refine bodyPost_ret (v := .tuple #[.slice pa L.length ca, .slice pb O.length cb]) (by simp [results, Try.results11, go_sem]) rfl ?_
        exact ⟨_, L, _, O, rfl, HXA.mono hs01, HXB.mono (by omega), hl, by omega, hmA, hmB.out, drew_below hB.out HD (Nat.le_refl _)⟩
    · have hc1 : decide ((m : Int) < (L.length : Int)) = false := decide_eq_false (by omega)
      go_wp2_with fail
      refine bodyPost_ret (v := .tuple #[.slice pa L.length ca, .slice pb O.length cb]) (by simp [results, Try.results11, go_sem]) rfl ?_
      exact ⟨_, L, _, O, rfl, hA0.out.mono hs01, hB0.out.mono (by omega), hl, by omega, hmA, hmB.out, drew_below hB.out hD.out (Nat.le_refl _)⟩
end Go.Proofs.Ytaoahghfmlegbaa
