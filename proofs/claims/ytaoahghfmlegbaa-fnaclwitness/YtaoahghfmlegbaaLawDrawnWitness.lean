/- The law of AclWitness, walked: it returns true. -/
import Derived.Test.YtaoahghfmlegbaaDr6
import Derived.Test.YtaoahghfmlegbaaSp6
namespace Go.Proofs.Ytaoahghfmlegbaa
open Go.RowKit Go.Lib

theorem wits_some {L : List Ru} {a : Int} {p : Pk} (h : WitS L a (some p)) : aclN L p = a := by
  by_cases c : okRs L = true ∧ 0 ≤ a ∧ a < L.length
  · rcases h.1 c with ⟨h1, _⟩ | ⟨p', h1, h2, h3, _⟩
    · cases h1
    · cases h1
      have hd : dec L p = a.toNat := h3
      unfold aclN
      rw [if_pos ⟨c.1, h2⟩, (saysN_iff (i := a.toNat) (by omega)).2 hd]
      omega
  · have := h.2 c
    cases this
theorem wits_none {L : List Ru} {a : Int} (h : WitS L a none) (ha : 0 ≤ a) (q : Pk) : ¬ aclN L q = a := by
  intro he
  unfold aclN at he
  split at he
  · rename_i hc
    unfold saysN at he
    split at he
    · rename_i hl
      rcases h.1 ⟨hc.1, ha, by omega⟩ with ⟨_, h2⟩ | ⟨p', h1, _⟩
      · exact h2 q hc.2 (by show dec L q = a.toNat; omega)
      · cases h1
    · omega
  · omega
/-- what AclWitness tells, by its parts -/
def WitP (L : List Ru) (a f t k : Int) (s : Bool) : Prop := ∃ r, WitS L a r ∧ r.getD (0, 0, 0) = (f, t, k) ∧ r.isSome = s
theorem WitP.uniq {L : List Ru} {a f t k f' t' k' : Int} {s s' : Bool} (h : WitP L a f t k s) (h' : WitP L a f' t' k' s') : f = f' ∧ t = t' ∧ k = k' ∧ s = s' := by
  obtain ⟨r, h1, h2, h3⟩ := h
  obtain ⟨r', k1, k2, k3⟩ := h'
  obtain rfl := h1.uniq k1
  rw [h2] at k2
  rw [h3] at k3
  cases k2
  exact ⟨rfl, rfl, rfl, k3⟩
theorem WitP.yes {L : List Ru} {a f t k : Int} (h : WitP L a f t k true) : aclN L (f, t, k) = a := by
  obtain ⟨r, h1, h2, h3⟩ := h
  cases r with
  | none => cases h3
  | some p => cases h2; exact wits_some h1
theorem WitP.no {L : List Ru} {a f t k : Int} (h : WitP L a f t k false) (ha : 0 ≤ a) (q : Pk) : ¬ aclN L q = a := by
  obtain ⟨r, h1, h2, h3⟩ := h
  cases r with
  | none => exact wits_none h1 ha q
  | some p => cases h3
theorem iaclwit_p (g cap : Nat) (L : List Ru) (a : Int) (w : World) (hr : RdR w (.slice (some ⟨g, 0, none⟩) L.length cap) L) (hlen : L.length ≤ 1048576) :
    Calls Try.prog 29 #[.slice (some ⟨g, 0, none⟩) L.length cap, .int .i64 a] w fun e w' => ∃ f t k s, e = .returned (.tuple #[.agg #[.int .i64 f, .int .i64 t, .int .i64 k], .bool s]) ∧ WitP L a f t k s ∧ Below w.heap.size w w' := by
  refine (iaclwit_any g cap L a w hr hlen).mono ?_
  rintro e w' ⟨r, rfl, h1, h2⟩
  exact ⟨_, _, _, _, rfl, ⟨r, h1, rfl, rfl⟩, h2⟩
theorem aclwit_p (g cap : Nat) (L : List Ru) (a : Int) (w : World) (hr : RdR w (.slice (some ⟨g, 0, none⟩) L.length cap) L) (hlen : L.length ≤ 1048576) :
    Calls Try.prog 30 #[.slice (some ⟨g, 0, none⟩) L.length cap, .int .i64 a] w fun e w' => ∃ f t k s, e = .returned (.tuple #[.agg #[.int .i64 f, .int .i64 t, .int .i64 k], .bool s]) ∧ WitP L a f t k s ∧ Below w.heap.size w w' := by
  refine (aclwit_any g cap L a w hr hlen).mono ?_
  rintro e w' ⟨r, rfl, h1, h2⟩
  exact ⟨_, _, _, _, rfl, ⟨r, h1, rfl, rfl⟩, h2⟩

set_option maxRecDepth 100000 in
set_option maxHeartbeats 4000000 in
theorem law_fnaclwit (v v2 : Value) (w : World) (h : BytA w v) (h2 : BytA w v2) :
    Calls Try.prog 7 #[v, v2] w fun e w' => e = .returned (.bool true) ∧ Below w.heap.size w w' := by
  obtain ⟨q, n, cap, rfl, hc, hl, hb⟩ := id h
  obtain ⟨q2, n2, cap2, rfl, hc2, hl2, hb2⟩ := id h2
  clear hb hb2
  by_cases h20 : n ≤ 1048576
  · have h20' : decide (1048576 < (n : Int)) = false := decide_eq_false (by omega)
    by_cases h21 : n2 ≤ 1048576
    · have h21' : decide (1048576 < (n2 : Int)) = false := decide_eq_false (by omega)
      have C := drawWitness_any _ w h
      clear h
      go_enter Try.func7, Try.ntmps7
      go_upto_region 5 with (first
        | (go_at_call 28; refine C.mono ?_; clear C; rintro e W1 ⟨g, c, L, x, rfl, HX, l13, x1, x2, HB⟩; have hR := HX.rd; clear HX)
        | (go_at_call 29; refine (iaclwit_p g c L x _ hR (by omega)).mono ?_; rintro e W2 ⟨f, t, k, s, rfl, hw1, hb2⟩; replace HB := below_then HB hb2; replace hR := hR.below hb2; clear hb2))
      have BX := B3.new W2 f t k 42
      replace HB := HB.more (.cells #[.int .i64 f, .int .i64 t, .int .i64 k] 42)
      replace hR := hR.below ((Below.refl _ _).more (.cells #[.int .i64 f, .int .i64 t, .int .i64 k] 42))
      generalize W2.alloc (.cells #[.int .i64 f, .int .i64 t, .int .i64 k] 42) = W3 at *
      generalize W2.heap.size = K7 at *
      go_upto_region 6 with (go_at_call 30; refine (aclwit_p g c L x _ hR (by omega)).mono ?_; rintro e W4 ⟨f', t', k', s', rfl, hw2, hb4⟩; obtain ⟨rfl, rfl, rfl, rfl⟩ := hw1.uniq hw2; replace HB := below_then HB hb4; replace hR := hR.below hb4; replace BX := BX.below hb4; clear hb4 hw2)
      replace BX := BX.alloc (.cells #[.int .i64 f, .int .i64 t, .int .i64 k] 42)
      have BY := B3.new W4 f t k 42
      replace HB := HB.more (.cells #[.int .i64 f, .int .i64 t, .int .i64 k] 42)
      replace hR := hR.below ((Below.refl _ _).more (.cells #[.int .i64 f, .int .i64 t, .int .i64 k] 42))
      generalize W4.alloc (.cells #[.int .i64 f, .int .i64 t, .int .i64 k] 42) = W5 at *
      generalize W4.heap.size = K9 at *
      have ⟨⟨a0, a1, a2⟩, _⟩ := BX
      have ⟨⟨c0, c1, c2⟩, _⟩ := BY
      cases s with
      | true =>
        have hN := hw1.yes
        go_wp2_with (go_at_call 26; refine (iaclsays_any L f t k _ _ hR (by omega)).mono ?_; rintro e W6 ⟨rfl, hb6⟩; rw [hN]; replace HB := below_then HB hb6)
        go_ret
        exact ⟨rfl, HB⟩
      | false =>
        have C := drawSays_any _ W5 (h2.below HB)
        have HN : Hid (0 ≤ x → ∀ q, ¬ aclN L q = x) := fun ha q => hw1.no ha q
        clear hw1 h2
        go_upto_region 13 with (first
          | (go_at_call 25; refine C.mono ?_; clear C; rintro e W6 ⟨g6, c6, L6, ⟨xf, xt, xk⟩, rfl, _, _, hb6⟩; replace HB := below_then HB hb6; replace hR := hR.below hb6; clear hb6)
          | (go_at_call 26; replace HB := HB.more (.cells #[.int .i64 xf, .int .i64 xt, .int .i64 xk] 42); replace hR := hR.below ((Below.refl _ _).more (.cells #[.int .i64 xf, .int .i64 xt, .int .i64 xk] 42)); refine (iaclsays_any L xf xt xk _ _ hR (by omega)).mono ?_; rintro e W7 ⟨rfl, hb7⟩; replace HB := below_then HB hb7))
        obtain ⟨N, hN⟩ : ∃ N, aclN L (xf, xt, xk) = N := ⟨_, rfl⟩
        rw [hN]
        by_cases hx : x < 0
        · have hx' : decide (x < 0) = true := decide_eq_true hx
          go_wp2_with fail
          go_ret
          exact ⟨rfl, HB⟩
        · have hx' : decide (x < 0) = false := decide_eq_false hx
          have hne : ¬ N = x := by rw [← hN]; exact HN.out (by omega) _
          have hne' : (N != x) = true := by simp [hne]
          go_wp2_with fail
          go_ret
          exact ⟨rfl, HB⟩
    · have h21' : decide (1048576 < (n2 : Int)) = true := decide_eq_true (by omega)
      go_enter Try.func7, Try.ntmps7
      go_wp2_with fail
      go_ret
      exact ⟨rfl, Below.refl _ _⟩
  · have h20' : decide (1048576 < (n : Int)) = true := decide_eq_true (by omega)
    go_enter Try.func7, Try.ntmps7
    go_wp2_with fail
    go_ret
    exact ⟨rfl, Below.refl _ _⟩
end Go.Proofs.Ytaoahghfmlegbaa
