/- The program's tell, whole; the iterator that parts hands back. -/
import Derived.Test.YtaoahghfmlegbabTellN
namespace Go.Proofs.Ytaoahghfmlegbab
open Go.RowKit Go.Lib Go.Shelf

theorem tri_low {n₀ : Nat} {W W' : World} {t : Tr} {B o : Nat} {fp : List Nat} (h : Tri W B o t fp) (hB : B < n₀) (hf : ∀ b ∈ fp, b < n₀) (hb : Below n₀ W W') : Tri W' B o t fp :=
  h.keep ⟨hb.cell (p := ⟨B, o, none⟩) hB, hb.frozen (p := ⟨B, o, none⟩) hB⟩ ⟨hb.cell (p := ⟨B, o + 1, none⟩) hB, hb.frozen (p := ⟨B, o + 1, none⟩) hB⟩ (fun b k i => ⟨hb.cell (p := ⟨b, i, none⟩) (hf b k), hb.frozen (p := ⟨b, i, none⟩) (hf b k)⟩)

theorem tell_any (l n₀ T N : Nat) (J Jx : List ((Int × Int) × Bool) → World → Prop) (hJ : ∀ s W W', J s W → Below W.heap.size W W' → J s W') (S : Int → Bool)
    (hY : ∀ pre x W, J pre W → pre.length < N → YieldAt Fence.wide 0 Try.prog l (enc2 x) W fun e W' => (e = .returned (.bool true) ∧ J (pre ++ [x]) W' ∧ Kp n₀ T W W') ∨ (e = .returned (.bool false) ∧ Jx (pre ++ [x]) W')) :
    ∀ (k : Nat) (a : Int) (B o : Nat) (fp : List Nat) (pre : List ((Int × Int) × Bool)) (W : World), Tri W B o (canon S k a) fp → B < n₀ → (∀ b ∈ fp, b < n₀) → n₀ ≤ W.heap.size → T < W.heap.size → RowIn T W → J pre W → okP a (16 - (k : Int)) = true → pre.length + ((canon S k a).parts k a).length ≤ N →
      Calls Try.prog 64 #[.pointer (some ⟨B, o, none⟩), .agg #[.int .i64 a, .int .i64 (16 - (k : Int))], .func (.yield l) #[] #[]] W (TellPost n₀ T J Jx pre ((canon S k a).parts k a) W) := by
  intro k
  induction k with
  | zero =>
    intro a B o fp pre W hT hB hf hn hT0 hr h0 hp hN
    rw [canon_zero] at hT hN ⊢
    exact tell_leaf l n₀ T J Jx a _ (S a) B o pre W hT.2 hn hT0 (fun W' hb => hY pre _ W' (hJ _ _ _ h0 hb) (by simp [Tr.parts] at hN; omega))
  | succ k ih =>
    intro a B o fp pre W hT hB hf hn hT0 hr h0 hp hN
    cases hc : canon S (k + 1) a with
    | leaf v =>
      rw [hc] at hT hN
      exact tell_leaf l n₀ T J Jx a _ v B o pre W hT.2 hn hT0 (fun W' hb => hY pre _ W' (hJ _ _ _ h0 hb) (by simp [Tr.parts] at hN; omega))
    | node x y =>
      rw [hc] at hT hN
      obtain ⟨rfl, rfl⟩ := canon_node hc
      obtain ⟨H, f1, f2, u, rfl, hd, h2, hx, hy⟩ := hT
      obtain ⟨p1, p2, p3, p4, _⟩ := okP_of hp
      have hl : 16 - ((k + 1 : Nat) : Int) < 16 := by omega
      have hq := half_ok hp hl
      have e1 : 16 - ((k + 1 : Nat) : Int) + 1 = 16 - (k : Int) := by omega
      have e2 : sz (16 - ((k + 1 : Nat) : Int) + 1) = pw k := by rw [e1, sz_pw]
      rw [e1] at hq
      have e3 : sz (16 - (k : Int)) = pw k := sz_pw k
      rw [e3] at hq
      simp only [Tr.parts, Nat.add_sub_cancel, List.length_append] at hN ⊢
      refine tell_node l n₀ T J Jx a _ u B o H pre _ _ W h2 hB hn hT0 hr p1 (by omega) p3 p4 (fun W' hb => ?_) (fun W' hk hj => ?_)
      · rw [e1]
        refine ih a H 0 f1 pre W' (hx.below hb) (hf H (by simp)) (fun b h => hf b (by simp [h])) (Nat.le_trans hn hb.size) (Nat.lt_of_lt_of_le hT0 hb.size) ((kp_below (n₀ := n₀) hb hT0 hn).2.2 hr) (hJ _ _ _ h0 hb) hq.1 (by omega)
      · rw [e2, e1]
        refine ih (a + pw k) H 2 f2 _ W' (tri_low hy (hf H (by simp)) (fun b h => hf b (by simp [h])) hk.1) (hf H (by simp)) (fun b h => hf b (by simp [h])) (Nat.le_trans hn hk.1.size) (Nat.lt_of_lt_of_le hT0 hk.1.size) (hk.2.2 hr) hj hq.2 (by rw [List.length_append]; omega)

set_option maxRecDepth 100000 in
set_option maxHeartbeats 1000000 in
/-- the function that parts hands back -/
theorem told_any (l n₀ T N : Nat) (J Jx : List ((Int × Int) × Bool) → World → Prop) (hJ : ∀ s W W', J s W → Below W.heap.size W W' → J s W') (S : Int → Bool)
    (hY : ∀ pre x W, J pre W → pre.length < N → YieldAt Fence.wide 0 Try.prog l (enc2 x) W fun e W' => (e = .returned (.bool true) ∧ J (pre ++ [x]) W' ∧ Kp n₀ T W W') ∨ (e = .returned (.bool false) ∧ Jx (pre ++ [x]) W'))
    (Bn Bp R : Nat) (fp : List Nat) (W : World) (hN : N = ((canon S 16 0).parts 16 0).length) (h1 : W.cell? ⟨Bn, 0, none⟩ = some (.pointer (some ⟨R, 0, none⟩))) (h2 : W.cell? ⟨Bp, 0, none⟩ = some (.int .i64 0)) (h3 : W.cell? ⟨Bp, 1, none⟩ = some (.int .i64 0))
    (hT : Tri W R 0 (canon S 16 0) fp) (hB : R < n₀) (hf : ∀ b ∈ fp, b < n₀) (hn : n₀ ≤ W.heap.size) (hT0 : T < W.heap.size) (hr : RowIn T W) (h0 : J [] W) :
    Calls Try.prog 63 #[.func (.yield l) #[] #[], .pointer (some ⟨Bn, 0, none⟩), .pointer (some ⟨Bp, 0, none⟩)] W fun e W' => (∃ v, e = .returned v) ∧
      ((∃ ys, ys = (canon S 16 0).parts 16 0 ∧ J ys W') ∨ (∃ pre, pre <+: (canon S 16 0).parts 16 0 ∧ Jx pre W')) := by
  have hp := tell_any l n₀ T N J Jx hJ S hY 16 0 R 0 fp [] W hT hB hf hn hT0 hr h0 (by decide) (by rw [hN]; simp)
  have e16 : (16 : Int) - ((16 : Nat) : Int) = 0 := by decide
  rw [e16] at hp
  have hp2 := hp.mono (R' := fun e W' => (∃ v, e = .returned v) ∧ Hid ((∃ ys, ys = (canon S 16 0).parts 16 0 ∧ J ys W') ∨ (∃ pre, pre <+: (canon S 16 0).parts 16 0 ∧ Jx pre W'))) (fun e W' h => h.elim (fun ⟨he, hj, _⟩ => ⟨⟨_, he⟩, .inl ⟨_, rfl, hj⟩⟩) (fun ⟨he, q, hq, hx⟩ => ⟨⟨_, he⟩, .inr ⟨q, hq, hx⟩⟩))
  clear hp hY hT hr h0 hN
  go_enter Try.func63, Try.ntmps63
  go_wp2_with (go_at_call 64; refine hp2.mono ?_; clear hp2; rintro e w1 ⟨⟨u, rfl⟩, hq⟩)
  go_end0
  exact ⟨⟨_, rfl⟩, hq.out⟩

theorem told_stops (n n₀ T : Nat) (S : Int → Bool) (Bn Bp R : Nat) (fp : List Nat) (w : World) (h1 : w.cell? ⟨Bn, 0, none⟩ = some (.pointer (some ⟨R, 0, none⟩))) (h2 : w.cell? ⟨Bp, 0, none⟩ = some (.int .i64 0)) (h3 : w.cell? ⟨Bp, 1, none⟩ = some (.int .i64 0))
    (hT : Tri w R 0 (canon S 16 0) fp) (hB : R < n₀) (hf : ∀ b ∈ fp, b < n₀) (hn : n₀ ≤ w.heap.size) (hT0 : T < w.heap.size) (hr : RowIn T w) :
    SeqStopsK Fence.wide n Try.prog 63 #[.pointer (some ⟨Bn, 0, none⟩), .pointer (some ⟨Bp, 0, none⟩)] enc2 (Kp n₀ T) (fun ys => ys = (canon S 16 0).parts 16 0) (fun pre => pre <+: (canon S 16 0).parts 16 0) ((canon S 16 0).parts 16 0).length w := by
  intro l J Jx W hW hJ hJx hY h0
  refine callsIn_wide.2 ?_
  refine told_any l n₀ T _ J Jx (fun s W1 W2 h hb => ?_) S (fun pre x W1 hj hl => yield_any rfl 0 (hY pre x W1 hj hl)) Bn Bp R fp W rfl ((hW.cell (p := ⟨Bn, 0, none⟩) (cell_lt h1)).trans h1) ((hW.cell (p := ⟨Bp, 0, none⟩) (cell_lt h2)).trans h2) ((hW.cell (p := ⟨Bp, 1, none⟩) (cell_lt h2)).trans h3)
    (hT.below hW) hB hf (Nat.le_trans hn hW.size) (Nat.lt_of_lt_of_le hT0 hW.size) ((kp_below (n₀ := n₀) hW hT0 hn).2.2 hr) h0
  exact hJ s W1 W2 none h ⟨hb.os, hb.tape, hb.output, hb.size, fun k hk _ => hb.block k hk⟩ (fun r e => by cases e)

set_option maxRecDepth 100000 in
set_option maxHeartbeats 400000 in
/-- parts: the node and the prefix are boxed; the function value captures the boxes -/
theorem parts_any (R : Nat) (w : World) :
    Calls Try.prog 46 #[.pointer (some ⟨R, 0, none⟩), .agg #[.int .i64 0, .int .i64 0]] w fun e w' => e = .returned (.func (.func 63) #[] #[.pointer (some ⟨w.heap.size, 0, none⟩), .pointer (some ⟨w.heap.size + 1, 0, none⟩)]) ∧
      w' = (w.alloc (.cells #[.pointer (some ⟨R, 0, none⟩)] 105)).alloc (.cells #[.int .i64 0, .int .i64 0] 24) := by
  go_enter Try.func46, Try.ntmps46
  go_wp2
  go_ret
  exact ⟨rfl, rfl⟩
end Go.Proofs.Ytaoahghfmlegbab
