/- The law of AclDiffer, walked: it returns true. -/
import Derived.Test.YtaoahghfmlegbaaDr8
import Derived.Test.YtaoahghfmlegbaaEd12
import Derived.Test.YtaoahghfmlegbaaMt4
namespace Go.Proofs.Ytaoahghfmlegbaa
open Go.RowKit Go.Lib

theorem difs_some {A B : List Ru} {p : Pk} (h : DifS A B (some p)) : okRs A = true ∧ okRs B = true ∧ aclB A p ≠ aclB B p := by
  by_cases c : okRs A = true ∧ okRs B = true
  · rcases h.1 c with ⟨h1, _⟩ | ⟨p', h1, h2, h3, _⟩
    · cases h1
    · cases h1
      refine ⟨c.1, c.2, ?_⟩
      unfold aclB
      rw [if_pos ⟨c.1, h2⟩, if_pos ⟨c.2, h2⟩]
      exact h3
  · have := h.2 c
    cases this
theorem difs_none {A B : List Ru} (h : DifS A B none) (oA : okRs A = true) (oB : okRs B = true) (q : Pk) : aclB A q = aclB B q := by
  rcases h.1 ⟨oA, oB⟩ with ⟨_, h2⟩ | ⟨p', h1, _⟩
  · unfold aclB
    by_cases hq : okK q = true
    · rw [if_pos ⟨oA, hq⟩, if_pos ⟨oB, hq⟩]
      exact Classical.byContradiction fun hn => h2 q hq hn
    · rw [if_neg (fun e => hq e.2), if_neg (fun e => hq e.2)]
  · cases h1
def DifP (A B : List Ru) (f t k : Int) (s : Bool) : Prop := ∃ r, DifS A B r ∧ r.getD (0, 0, 0) = (f, t, k) ∧ r.isSome = s
theorem DifP.uniq {A B : List Ru} {f t k f' t' k' : Int} {s s' : Bool} (h : DifP A B f t k s) (h' : DifP A B f' t' k' s') : f = f' ∧ t = t' ∧ k = k' ∧ s = s' := by
  obtain ⟨r, h1, h2, h3⟩ := h
  obtain ⟨r', k1, k2, k3⟩ := h'
  obtain rfl := h1.uniq k1
  rw [h2] at k2
  rw [h3] at k3
  cases k2
  exact ⟨rfl, rfl, rfl, k3⟩
theorem DifP.swap {A B : List Ru} {f t k : Int} {s : Bool} (h : DifP A B f t k s) : DifP B A f t k s := by
  obtain ⟨r, h1, h2⟩ := h
  exact ⟨r, h1.swap, h2⟩
theorem DifP.yes {A B : List Ru} {f t k : Int} (h : DifP A B f t k true) : okRs A = true ∧ okRs B = true ∧ aclB A (f, t, k) ≠ aclB B (f, t, k) := by
  obtain ⟨r, h1, h2, h3⟩ := h
  cases r with
  | none => cases h3
  | some p => cases h2; exact difs_some h1
theorem DifP.no {A B : List Ru} {f t k : Int} (h : DifP A B f t k false) (oA : okRs A = true) (oB : okRs B = true) (q : Pk) : aclB A q = aclB B q := by
  obtain ⟨r, h1, h2, h3⟩ := h
  cases r with
  | none => exact difs_none h1 oA oB q
  | some p => cases h3
theorem iacldif_p (A B : List Ru) (u v : Value) (w : World) (hA : RdR w u A) (hB : RdR w v B) (lA : A.length ≤ 1048576) (lB : B.length ≤ 1048576) :
    Calls Try.prog 32 #[u, v] w fun e w' => ∃ f t k s, e = .returned (.tuple #[.agg #[.int .i64 f, .int .i64 t, .int .i64 k], .bool s]) ∧ DifP A B f t k s ∧ Below w.heap.size w w' := by
  refine (iacldif_any A B u v w hA hB lA lB).mono ?_
  rintro e w' ⟨r, rfl, h1, h2⟩
  exact ⟨_, _, _, _, rfl, ⟨r, h1, rfl, rfl⟩, h2⟩
theorem acldif_p (gA cA gB cB : Nat) (A B : List Ru) (w : World) (hA : RdR w (.slice (some ⟨gA, 0, none⟩) A.length cA) A) (hB : RdR w (.slice (some ⟨gB, 0, none⟩) B.length cB) B) (lA : A.length ≤ 1048576) (lB : B.length ≤ 1048576) :
    Calls Try.prog 33 #[.slice (some ⟨gA, 0, none⟩) A.length cA, .slice (some ⟨gB, 0, none⟩) B.length cB] w fun e w' => ∃ f t k s, e = .returned (.tuple #[.agg #[.int .i64 f, .int .i64 t, .int .i64 k], .bool s]) ∧ DifP A B f t k s ∧ Below w.heap.size w w' := by
  refine (acldif_any gA cA gB cB A B w hA hB lA lB).mono ?_
  rintro e w' ⟨r, rfl, h1, h2⟩
  exact ⟨_, _, _, _, rfl, ⟨r, h1, rfl, rfl⟩, h2⟩

set_option maxRecDepth 100000 in
set_option maxHeartbeats 8000000 in
theorem law_fnacldif (v v2 : Value) (w : World) (h : BytA w v) (h2 : BytA w v2) :
    Calls Try.prog 8 #[v, v2] w fun e w' => e = .returned (.bool true) ∧ Below w.heap.size w w' := by
  obtain ⟨q, n, cap, rfl, hc, hl, hb⟩ := id h
  obtain ⟨q2, n2, cap2, rfl, hc2, hl2, hb2⟩ := id h2
  clear hb hb2
  by_cases h20 : n ≤ 1048576
  · have h20' : decide (1048576 < (n : Int)) = false := decide_eq_false (by omega)
    by_cases h21 : n2 ≤ 1048576
    · have h21' : decide (1048576 < (n2 : Int)) = false := decide_eq_false (by omega)
      have C := drawDiffer_any _ w h
      clear h
      go_enter Try.func8, Try.ntmps8
      go_upto_region 5 with (first
        | (go_at_call 31; refine C.mono ?_; clear C; rintro e W1 ⟨gA, cA, A, gB, cB, B, rfl, hA, hB, lA, lB, HB⟩)
        | (go_at_call 32; refine (iacldif_p A B _ _ _ hA hB (by omega) (by omega)).mono ?_; rintro e W2 ⟨f, t, k, s, rfl, hw1, hb⟩; replace HB := below_then HB hb; replace hA := hA.below hb; replace hB := hB.below hb; clear hb))
      have BX := B3.new W2 f t k 42
      replace HB := HB.more (.cells #[.int .i64 f, .int .i64 t, .int .i64 k] 42)
      replace hA := hA.below ((Below.refl _ _).more (.cells #[.int .i64 f, .int .i64 t, .int .i64 k] 42))
      replace hB := hB.below ((Below.refl _ _).more (.cells #[.int .i64 f, .int .i64 t, .int .i64 k] 42))
      generalize W2.alloc (.cells #[.int .i64 f, .int .i64 t, .int .i64 k] 42) = W3 at *
      generalize W2.heap.size = NBX at *
      go_upto_region 6 with (go_at_call 33; refine (acldif_p gA cA gB cB A B _ hA hB (by omega) (by omega)).mono ?_; rintro e W4 ⟨f', t', k', s', rfl, hw2, hb⟩; obtain ⟨rfl, rfl, rfl, rfl⟩ := hw1.uniq hw2; replace HB := below_then HB hb; replace hA := hA.below hb; replace hB := hB.below hb; replace BX := BX.below hb; clear hb hw2)
      have BY := B3.new W4 f t k 42
      replace HB := HB.more (.cells #[.int .i64 f, .int .i64 t, .int .i64 k] 42)
      replace hA := hA.below ((Below.refl _ _).more (.cells #[.int .i64 f, .int .i64 t, .int .i64 k] 42))
      replace hB := hB.below ((Below.refl _ _).more (.cells #[.int .i64 f, .int .i64 t, .int .i64 k] 42))
      replace BX := BX.alloc (.cells #[.int .i64 f, .int .i64 t, .int .i64 k] 42)
      generalize W4.alloc (.cells #[.int .i64 f, .int .i64 t, .int .i64 k] 42) = W5 at *
      generalize W4.heap.size = NBY at *
      go_upto_region 7 with (go_at_call 32; refine (iacldif_p B A _ _ _ hB hA (by omega) (by omega)).mono ?_; rintro e W6 ⟨f', t', k', s', rfl, hw2, hb⟩; obtain ⟨rfl, rfl, rfl, rfl⟩ := hw1.uniq hw2.swap; replace HB := below_then HB hb; replace hA := hA.below hb; replace hB := hB.below hb; replace BX := BX.below hb; replace BY := BY.below hb; clear hb hw2)
      have BZ := B3.new W6 f t k 42
      replace HB := HB.more (.cells #[.int .i64 f, .int .i64 t, .int .i64 k] 42)
      replace hA := hA.below ((Below.refl _ _).more (.cells #[.int .i64 f, .int .i64 t, .int .i64 k] 42))
      replace hB := hB.below ((Below.refl _ _).more (.cells #[.int .i64 f, .int .i64 t, .int .i64 k] 42))
      replace BX := BX.alloc (.cells #[.int .i64 f, .int .i64 t, .int .i64 k] 42)
      replace BY := BY.alloc (.cells #[.int .i64 f, .int .i64 t, .int .i64 k] 42)
      generalize W6.alloc (.cells #[.int .i64 f, .int .i64 t, .int .i64 k] 42) = W7 at *
      generalize W6.heap.size = NBZ at *
      have ⟨⟨a0, a1, a2⟩, _⟩ := BX
      have ⟨⟨c0, c1, c2⟩, _⟩ := BY
      have ⟨⟨e0, e1, e2⟩, _⟩ := BZ
      have C := drawSays_any _ W7 (h2.below HB)
      have O1 := fun w h => aclok_any A (.slice (some ⟨gA, 0, none⟩) A.length cA) w h (by omega)
      have O2 := fun w h => aclok_any B (.slice (some ⟨gB, 0, none⟩) B.length cB) w h (by omega)
      clear h2
      cases s with
      | true =>
        obtain ⟨oA, oB, hne⟩ := hw1.yes
        obtain ⟨X, hX⟩ : ∃ X, aclB A (f, t, k) = X := ⟨_, rfl⟩
        obtain ⟨Y, hY⟩ : ∃ Y, aclB B (f, t, k) = Y := ⟨_, rfl⟩
        rw [hX, hY] at hne
        have hxy : (X != Y) = true := by simpa using hne
        simp only [oA] at O1
        simp only [oB] at O2
        have S1 := fun w h => iaclsays_any A f t k (.slice (some ⟨gA, 0, none⟩) A.length cA) w h (by omega)
        have S2 := fun w h => iaclsays_any B f t k (.slice (some ⟨gB, 0, none⟩) B.length cB) w h (by omega)
        rw [hX] at S1
        rw [hY] at S2
        have T1 : Hid True := trivial
        have T2 : Hid True := trivial
        clear hne hX hY hw1
        go_upto_region 12 with (go_at_call 25; refine C.mono ?_; clear C; rintro e W8 ⟨g8, c8, L8, ⟨xf, xt, xk⟩, rfl, _, _, hb⟩; replace HB := below_then HB hb; replace hA := hA.below hb; replace hB := hB.below hb; replace BX := BX.below hb; clear a0 a1 a2 c0 c1 c2 e0 e1 e2; have ⟨⟨a0, a1, a2⟩, _⟩ := BX; have hNX := BX.lt; clear hb)
        have BD := B3.new W8 f t k 42
        replace HB := HB.more (.cells #[.int .i64 f, .int .i64 t, .int .i64 k] 42)
        replace hA := hA.below ((Below.refl _ _).more (.cells #[.int .i64 f, .int .i64 t, .int .i64 k] 42))
        replace hB := hB.below ((Below.refl _ _).more (.cells #[.int .i64 f, .int .i64 t, .int .i64 k] 42))
        replace BX := BX.alloc (.cells #[.int .i64 f, .int .i64 t, .int .i64 k] 42)
        generalize W8.alloc (.cells #[.int .i64 f, .int .i64 t, .int .i64 k] 42) = W9 at *
        generalize W8.heap.size = NBD at *
        have ⟨⟨d0, d1, d2⟩, _⟩ := BD
        clear a0 a1 a2
        go_wp2_with (first
          | (go_at_call 26; clear T1; refine (S1 _ hA).mono ?_; clear S1; rintro e W10 ⟨rfl, hb⟩; replace HB := below_then HB hb; replace hA := hA.below hb; replace hB := hB.below hb; replace BX := BX.below hb; replace BD := BD.below hb; clear d0 d1 d2; have ⟨⟨d0, d1, d2⟩, _⟩ := BD; clear hb)
          | (go_at_call 26; refine (S2 _ hB).mono ?_; clear S2; rintro e W11 ⟨rfl, hb⟩; replace HB := below_then HB hb; replace hA := hA.below hb; replace hB := hB.below hb; replace BX := BX.below hb; replace BD := BD.below hb; clear d0 d1 d2; clear hb)
          | (go_at_call 34; clear T2; refine (O1 _ hA).mono ?_; clear O1; rintro e W12 ⟨rfl, hb⟩; replace HB := below_then HB hb; replace hA := hA.below hb; replace hB := hB.below hb; replace BX := BX.below hb; replace BD := BD.below hb; clear hb)
          | (go_at_call 34; refine (O2 _ hB).mono ?_; clear O2; rintro e W13 ⟨rfl, hb⟩; replace HB := below_then HB hb; replace hA := hA.below hb; replace hB := hB.below hb; replace BX := BX.below hb; replace BD := BD.below hb; have ⟨⟨d0, d1, d2⟩, _⟩ := BD; have ⟨⟨a0, a1, a2⟩, _⟩ := BX; clear hb))
        all_goals first
          | (exfalso; have e : X = Y := (by assumption); rw [e] at hxy; simp at hxy; done)
          | (exfalso; have e : Y = X := (by assumption); rw [e] at hxy; simp at hxy; done)
          | (exfalso; have e : (X == Y) = true := (by assumption); simp at e; rw [e] at hxy; simp at hxy; done)
          | (exfalso; simp_all; done)
          | (go_ret; exact ⟨rfl, HB⟩)
      | false =>
        have HN : Hid (okRs A = true → okRs B = true → ∀ q, aclB A q = aclB B q) := fun oA oB q => hw1.no oA oB q
        have T1 : Hid True := trivial
        clear hw1
        go_upto_region 14 with (first
          | (go_at_call 25; refine C.mono ?_; clear C; rintro e W8 ⟨g8, c8, L8, ⟨xf, xt, xk⟩, rfl, _, _, hb⟩; replace HB := below_then HB hb; replace hA := hA.below hb; replace hB := hB.below hb; replace HB := HB.more (.cells #[.int .i64 xf, .int .i64 xt, .int .i64 xk] 42); replace hA := hA.below ((Below.refl _ _).more (.cells #[.int .i64 xf, .int .i64 xt, .int .i64 xk] 42)); replace hB := hB.below ((Below.refl _ _).more (.cells #[.int .i64 xf, .int .i64 xt, .int .i64 xk] 42)); have BD := B3.new W8 xf xt xk 42; clear hb a0 a1 a2 c0 c1 c2 e0 e1 e2)
          | (go_at_call 26; clear T1; refine (iaclsays_any A xf xt xk (.slice (some ⟨gA, 0, none⟩) A.length cA) _ hA (by omega)).mono ?_; rintro e W10 ⟨rfl, hb⟩; replace HB := below_then HB hb; replace hA := hA.below hb; replace hB := hB.below hb; replace BD := BD.below hb; have ⟨⟨d0, d1, d2⟩, _⟩ := BD; clear hb)
          | (go_at_call 26; refine (iaclsays_any B xf xt xk (.slice (some ⟨gB, 0, none⟩) B.length cB) _ hB (by omega)).mono ?_; rintro e W11 ⟨rfl, hb⟩; replace HB := below_then HB hb; replace hA := hA.below hb; replace hB := hB.below hb; clear d0 d1 d2 hb))
        obtain ⟨X, hX⟩ : ∃ X, aclB A (xf, xt, xk) = X := ⟨_, rfl⟩
        obtain ⟨Y, hY⟩ : ∃ Y, aclB B (xf, xt, xk) = Y := ⟨_, rfl⟩
        rw [hX, hY]
        have T2 : Hid True := trivial
        cases oA : okRs A with
        | false =>
          simp only [oA] at O1
          clear hX hY oA
          go_wp2_with (go_at_call 34; refine (O1 _ hA).mono ?_; clear O1; rintro e W12 ⟨rfl, hb⟩; replace HB := below_then HB hb; replace hA := hA.below hb; replace hB := hB.below hb; clear hb)
          go_ret
          exact ⟨rfl, HB⟩
        | true =>
          simp only [oA] at O1
          cases oB : okRs B with
          | false =>
            simp only [oB] at O2
            clear hX hY oA oB
            go_wp2_with (first | (go_at_call 34; clear T2; refine (O1 _ hA).mono ?_; clear O1; rintro e W12 ⟨rfl, hb⟩; replace HB := below_then HB hb; replace hA := hA.below hb; replace hB := hB.below hb; clear hb) | (go_at_call 34; refine (O2 _ hB).mono ?_; clear O2; rintro e W13 ⟨rfl, hb⟩; replace HB := below_then HB hb; replace hA := hA.below hb; replace hB := hB.below hb; clear hb))
            go_ret
            exact ⟨rfl, HB⟩
          | true =>
            simp only [oB] at O2
            obtain rfl : X = Y := by rw [← hX, ← hY]; exact HN.out oA oB _
            have hxx : (X != X) = false := by simp
            clear hX hY oA oB
            go_wp2_with (first | (go_at_call 34; clear T2; refine (O1 _ hA).mono ?_; clear O1; rintro e W12 ⟨rfl, hb⟩; replace HB := below_then HB hb; replace hA := hA.below hb; replace hB := hB.below hb; clear hb) | (go_at_call 34; refine (O2 _ hB).mono ?_; clear O2; rintro e W13 ⟨rfl, hb⟩; replace HB := below_then HB hb; replace hA := hA.below hb; replace hB := hB.below hb; clear hb))
            go_ret
            exact ⟨rfl, HB⟩
    · have h21' : decide (1048576 < (n2 : Int)) = true := decide_eq_true (by omega)
      go_enter Try.func8, Try.ntmps8
      go_wp2_with fail
      go_ret
      exact ⟨rfl, Below.refl _ _⟩
  · have h20' : decide (1048576 < (n : Int)) = true := decide_eq_true (by omega)
    go_enter Try.func8, Try.ntmps8
    go_wp2_with fail
    go_ret
    exact ⟨rfl, Below.refl _ _⟩
end Go.Proofs.Ytaoahghfmlegbaa
