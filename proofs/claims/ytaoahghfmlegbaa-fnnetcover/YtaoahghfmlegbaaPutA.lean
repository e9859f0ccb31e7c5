/- The program's put and putAll, whole: the trie of a set becomes the trie of the set with prefixes' addresses given one value. -/
import Derived.Test.YtaoahghfmlegbaaPutL
import Derived.Test.YtaoahghfmlegbaaSome
namespace Go.Proofs.Ytaoahghfmlegbaa
open Go.RowKit Go.Lib

/-- put, at every trie of a set -/
theorem put_any (n : Nat) (b m : Int) (v : Bool) (S : Int → Bool) : ∀ (k : Nat) (a : Int) (B o : Nat) (fp : List Nat) (w : World), under b m a k → Tri w B o (canon S k a) fp → B ∉ fp → n ≤ B → (∀ c ∈ fp, n ≤ c) →
    Calls Try.prog 70 #[.pointer (some ⟨B, o, none⟩), .agg #[.int .i64 b, .int .i64 m], .int .i64 (16 - (k : Int)), .bool v] w fun e w' => (∃ u, e = .returned u) ∧ PutPost n w B o (canon (upd S b m v) k a) fp w' := by
  intro k
  induction k with
  | zero =>
    intro a B o fp w hu hT hB hn hfp
    have hm : 16 - ((0 : Nat) : Int) = m := by
      obtain ⟨ho, _, _, _, h3, _, _⟩ := hu
      have := (okP_of ho).2.1
      omega
    rw [put_here hu hm, hm]
    obtain ⟨u, p, h2, _⟩ := hT.cells
    exact put_at n B o b m u v p fp w h2 hn
  | succ k ih =>
    intro a B o fp w hu hT hB hn hfp
    by_cases hm : 16 - ((k + 1 : Nat) : Int) = m
    · rw [put_here hu hm, hm]
      obtain ⟨u, p, h2, _⟩ := hT.cells
      exact put_at n B o b m u v p fp w h2 hn
    · have hk : k + 1 ≤ 16 := hu.2.2.2.2.2.1
      obtain ⟨_, _, a1, a2, _⟩ := okP_of hu.1
      have d1 : (0 : Int) ≤ 16 - ((k + 1 : Nat) : Int) := by omega
      have d2 : 16 - ((k + 1 : Nat) : Int) ≤ 15 := by omega
      have e1 : (15 - (16 - ((k + 1 : Nat) : Int))).toNat = k := by omega
      have e2 : 16 - ((k + 1 : Nat) : Int) + 1 = 16 - (k : Int) := by omega
      rcases Int.lt_or_le b (a + pw k) with hl | hl
      · rw [put_low hu hm hl]
        have hu' := (under_low hu hm hl).1
        have hh : b / pw (15 - (16 - ((k + 1 : Nat) : Int))).toNat % 2 = 0 := by rw [e1]; exact half_low hu hl
        cases hc : canon S (k + 1) a with
        | leaf u =>
          rw [hc] at hT
          obtain ⟨rfl, h2⟩ := hT
          have c1 : canon S k a = .leaf u := canon_const k a (fun x h1 h2 => canon_leaf (k + 1) a hc x h1 (by have := pw_succ k; have := pw_pos k; omega))
          have c2 : canon S k (a + pw k) = .leaf u := canon_const k _ (fun x h1 h2 => canon_leaf (k + 1) a hc x (by have := pw_pos k; omega) (by have := pw_succ k; omega))
          rw [c2]
          refine leaf_low n B o b m _ u v _ w h2 hn d1 d2 a1 a2 hm hh (fun H w hH hT => ?_)
          rw [e2]
          exact ih a H 0 [] w hu' (by rw [c1]; exact hT) (by simp) hH (by simp)
        | node x y =>
          rw [hc] at hT
          obtain ⟨rfl, rfl⟩ := canon_node hc
          obtain ⟨H, f1, f2, u, rfl, hd, h2, hx, hy⟩ := hT
          simp only [List.mem_cons, List.mem_append, not_or] at hB
          refine node_low n B o H b m _ u v _ _ _ f1 f2 w h2 hx hy hd ⟨hB.1, hB.2.1, hB.2.2⟩ ⟨hn, hfp H (by simp)⟩ d1 d2 a1 a2 hm hh (fun w hT => ?_)
          rw [e2]
          exact ih a H 0 f1 w hu' hT hd.1 (hfp H (by simp)) (fun c h => hfp c (by simp [h]))
      · rw [Go.Proofs.Ytaoahghfmlegbaa.put_high hl]
        have hu' := under_high hu hm hl
        have hh : b / pw (15 - (16 - ((k + 1 : Nat) : Int))).toNat % 2 = 1 := by rw [e1]; exact half_high hu hl
        cases hc : canon S (k + 1) a with
        | leaf u =>
          rw [hc] at hT
          obtain ⟨rfl, h2⟩ := hT
          have c1 : canon S k a = .leaf u := canon_const k a (fun x h1 h2 => canon_leaf (k + 1) a hc x h1 (by have := pw_succ k; have := pw_pos k; omega))
          have c2 : canon S k (a + pw k) = .leaf u := canon_const k _ (fun x h1 h2 => canon_leaf (k + 1) a hc x (by have := pw_pos k; omega) (by have := pw_succ k; omega))
          rw [c1]
          refine leaf_high n B o b m _ u v _ w h2 hn d1 d2 a1 a2 hm hh (fun H w hH hT => ?_)
          rw [e2]
          exact ih (a + pw k) H 2 [] w hu' (by rw [c2]; exact hT) (by simp) hH (by simp)
        | node x y =>
          rw [hc] at hT
          obtain ⟨rfl, rfl⟩ := canon_node hc
          obtain ⟨H, f1, f2, u, rfl, hd, h2, hx, hy⟩ := hT
          simp only [List.mem_cons, List.mem_append, not_or] at hB
          have := node_high n B o H b m (16 - ((k + 1 : Nat) : Int)) u v _ _ (canon (upd S b m v) k (a + pw k)) f2 f1 w h2 hy hx ⟨hd.2.1, hd.1, fun c h k => hd.2.2 c k h⟩ ⟨hB.1, hB.2.2, hB.2.1⟩ ⟨hn, hfp H (by simp)⟩ d1 d2 a1 a2 hm hh (fun w hT => by
            rw [e2]
            exact ih (a + pw k) H 2 f2 w hu' hT hd.2.1 (hfp H (by simp)) (fun c h => hfp c (by simp [h])))
          refine this.mono fun e w' ⟨he, fq, q1, q2, q3⟩ => ⟨he, fq, q1, fun c h => ?_, q3.1, fun c i hc hf ho => q3.2 c i hc (fun h => hf ?_) ho⟩
          · rcases q2 c h with k | k
            · refine .inl ?_
              simp only [List.mem_cons, List.mem_append] at k ⊢
              rcases k with k | k | k
              · exact .inl k
              · exact .inr (.inr k)
              · exact .inr (.inl k)
            · exact .inr k
          · simp only [List.mem_cons, List.mem_append] at h ⊢
            rcases h with k | k | k
            · exact .inl k
            · exact .inr (.inr k)
            · exact .inr (.inl k)

/-- a trie at the root of which all else lies beyond n -/
def Root (n : Nat) (w : World) (R : Nat) (t : Tr) : Prop := ∃ fp, Tri w R 0 t fp ∧ R ∉ fp ∧ n ≤ R ∧ ∀ c ∈ fp, n ≤ c
theorem root_put {n : Nat} {w w' : World} {R : Nat} {t t' : Tr} {fp : List Nat} (h : Tri w R 0 t fp) (hR : R ∉ fp) (hn : n ≤ R) (hfp : ∀ c ∈ fp, n ≤ c) (hs : n ≤ w.heap.size) (hp : PutPost n w R 0 t' fp w') : Root n w' R t' := by
  obtain ⟨fq, q1, q2, _⟩ := hp
  refine ⟨fq, q1, fun e => ?_, hn, fun c h => (q2 c h).elim (hfp c) (fun k => by omega)⟩
  rcases q2 R e with k | k
  · exact hR k
  · have := h.lt.1; omega
theorem Root.below {n : Nat} {w w' : World} {R : Nat} {t : Tr} (h : Root n w R t) (hb : Below w.heap.size w w') : Root n w' R t := by
  obtain ⟨fp, h1, h2⟩ := h; exact ⟨fp, h1.below hb, h2⟩

set_option maxRecDepth 100000 in
set_option maxHeartbeats 1000000 in
theorem putall_any (n : Nat) (L : List (Int × Int)) (v : Bool) (S : Int → Bool) (R : Nat) (vL : Value) (w : World) (hr : ∀ w', Below n w w' → Rd w' vL L) (hL : allOk L = true) (hlen : L.length ≤ 40) (hT : Root n w R (canon S 16 0)) (hnw : n ≤ w.heap.size) :
    Calls Try.prog 44 #[.pointer (some ⟨R, 0, none⟩), vL, .bool v] w fun e w' => (∃ u, e = .returned u) ∧ Root n w' R (canon (setF L v S) 16 0) ∧ Below n w w' := by
  obtain ⟨p, cap, rfl⟩ := (hr w (Below.refl _ _)).form
  have HL : Hid (allOk L = true) := hL
  have HT : Hid (Root n w R (canon S 16 0)) := hT
  have HR : Hid (∀ w', Below n w w' → Rd w' (.slice p L.length cap) L) := hr
  clear hL hT hr
  go_enter Try.func44, Try.ntmps44
  go_wp2_with fail
  go_loopw [10] (fun i wr => ∃ k : Nat, k ≤ L.length ∧ i = .int .i64 k ∧ Hid (Root n wr R (canon (setF (L.take k) v S) 16 0)) ∧ Below n w wr) (fun i _ => L.length - (intOf i).toNat)
  case atStart => exact ⟨0, Nat.zero_le _, rfl, by rw [List.take_zero, setF_nil]; exact HT, Below.refl _ _⟩
  case round =>
    obtain ⟨k, hk, rfl, hroot, hB⟩ := hrel
    by_cases hlt : k < L.length
    · obtain ⟨g, rfl, hg, c0, c1⟩ := (HR.out wr hB).at hlt
      have hq := allOk_of HL.out (List.getElem_mem hlt)
      have HS : Hid (setF (L.take (k + 1)) v S = upd (setF (L.take k) v S) L[k].1 L[k].2 v) := by
        unfold Hid; rw [setF_snoc, List.take_succ_eq_append_getElem hlt]
      obtain ⟨b, hb'⟩ : ∃ b, L[k].1 = b := ⟨_, rfl⟩
      obtain ⟨m, hm'⟩ : ∃ m, L[k].2 = m := ⟨_, rfl⟩
      rw [hb'] at c0 hq HS
      rw [hm'] at c1 hq HS
      clear hb' hm'
      have hb0 : Below wr.heap.size wr (wr.alloc (.cells #[.int .i64 b, .int .i64 m] 31)) := (Below.refl _ _).more _
      obtain ⟨fp, q1, q2, q3, q4⟩ := hroot.out.below hb0
      have hsz : n ≤ (wr.alloc (.cells #[.int .i64 b, .int .i64 m] 31)).heap.size := by have := hB.size; simp; omega
      have hp := put_any n b m v (setF (L.take k) v S) 16 0 R 0 fp (wr.alloc (.cells #[.int .i64 b, .int .i64 m] 31)) (under_root hq) q1 q2 q3 q4
      rw [← HS.out] at hp
      have hp2 := hp.mono (R' := fun e w' => (∃ u, e = .returned u) ∧ Hid (Root n w' R (canon (setF (L.take (k + 1)) v S) 16 0)) ∧ Below n w w') (fun e w' ⟨he, hpp⟩ => ⟨he, root_put q1 q2 q3 q4 hsz hpp, (hB.trans (hb0.mono (by have := hB.size; omega))).trans (by obtain ⟨_, _, _, h⟩ := hpp; exact h.1)⟩)
      have e16 : (16 : Int) - ((16 : Nat) : Int) = 0 := by decide
      rw [e16] at hp2
      clear hp q1 q2 q3 q4 hq HS hroot
      go_wp2_with (go_at_call 70; refine hp2.mono ?_; clear hp2; rintro e w1 ⟨⟨u1, rfl⟩, hr1, hb1⟩)
      go_roundw
      case rel => exact ⟨k + 1, hlt, rfl, hr1, hb1⟩
      case measure => simp [intOf]; omega
    · have : k = L.length := by omega
      subst this
      rw [List.take_length] at hroot
      go_wp2
      go_end0
      exact ⟨⟨_, rfl⟩, hroot.out, hB⟩

set_option maxRecDepth 100000 in
set_option maxHeartbeats 1000000 in
theorem isset_any (L : List (Int × Int)) (v : Value) (w : World) (hr : Rd w v L) :
    Calls Try.prog 43 #[v] w fun e w' => e = .returned (.bool (okSet L)) ∧ Below w.heap.size w w' := by
  obtain ⟨p, cap, rfl⟩ := hr.form
  by_cases hlen : L.length ≤ 40
  · go_enter Try.func43, Try.ntmps43
    go_wp2_with fail
    go_loopw [10] (fun i wr => ∃ k : Nat, k ≤ L.length ∧ i = .int .i64 k ∧ Hid (allOk (L.take k) = true) ∧ Below w.heap.size w wr) (fun i _ => L.length - (intOf i).toNat)
    case atStart => exact ⟨0, Nat.zero_le _, rfl, by unfold Hid; simp [allOk], Below.refl _ _⟩
    case round =>
      obtain ⟨k, hk, rfl, hall, hB⟩ := hrel
      by_cases hlt : k < L.length
      · obtain ⟨g, rfl, hg, c0, c1⟩ := (hr.below hB).at hlt
        obtain ⟨a, ha⟩ : ∃ a, L[k].1 = a := ⟨_, rfl⟩
        obtain ⟨l, hl⟩ : ∃ l, L[k].2 = l := ⟨_, rfl⟩
        have HA : Hid (allOk (L.take (k + 1)) = okP a l) := by unfold Hid; rw [allOk_take hlt, hall.out, ha, hl]; rfl
        have HN : Hid (okP a l = false → okSet L = false) := by
          unfold Hid; intro h; unfold okSet; rw [allOk_no hlt (by rw [ha, hl]; exact h)]; simp
        rw [ha] at c0
        rw [hl] at c1
        clear ha hl
        cases hok : okP a l with
        | true =>
          rw [hok] at HA
          go_wp2_with (go_at_call 51; refine (iok_any _ _ _).mono ?_; rintro e w1 ⟨rfl, hb⟩)
          go_roundw
          case rel => exact ⟨k + 1, hlt, rfl, HA, below_then (hB.more _) hb⟩
          case measure => simp [intOf]; omega
        | false =>
          have HE : Hid (okSet L = false) := HN.out hok
          go_wp2_with (go_at_call 51; refine (iok_any _ _ _).mono ?_; rintro e w1 ⟨rfl, hb⟩)
          go_ret
          exact ⟨ret_bool HE.out.symm, below_then (hB.more _) hb⟩
      · have : k = L.length := by omega
        subst this
        have HE : Hid (okSet L = true) := by unfold Hid okSet; have := hall.out; rw [List.take_length] at this; rw [this, decide_eq_true hlen]; rfl
        go_wp2
        go_ret
        exact ⟨ret_bool HE.out.symm, hB⟩
  · have HE : Hid (okSet L = false) := by unfold Hid okSet; rw [decide_eq_false hlen]; rfl
    go_enter Try.func43, Try.ntmps43
    go_wp2
    go_ret
    exact ⟨ret_bool HE.out.symm, Below.refl _ _⟩
end Go.Proofs.Ytaoahghfmlegbaa
