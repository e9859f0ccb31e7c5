/- The program's put. -/
import Derived.Test.YtaoahghfmlegbabJoin
import Derived.Laws.BitsLemmas
import Derived.Laws.BitsAllLaws
namespace Go.Proofs.Ytaoahghfmlegbab
open Go.RowKit Go.Lib

theorem and_one (n : Int) (h0 : 0 ≤ n) (h1 : n ≤ 65535) : bits .and .i64 n 1 = n % 2 := by
  have h := bits_mask .i64 62 (by decide) (fun m h0 h1 => by have e : (2 : Int) ^ 62 = 4611686018427387904 := by decide
                                                             rw [e] at h1; rw [IntKind.wrap_i64]; omega) 1 (by decide) n h0 (by have e : (2 : Int) ^ 62 = 4611686018427387904 := by decide
                                                                                                                                rw [e]; omega)
  simpa using h
set_option maxRecDepth 100000 in
set_option maxHeartbeats 400000 in
theorem half_any (b d : Int) (w : World) (d1 : 0 ≤ d) (d2 : d ≤ 15) (b1 : 0 ≤ b) (b2 : b ≤ 65535) :
    Calls Try.prog 78 #[.int .i64 b, .int .i64 d] w fun e w' => e = .returned (.int .i64 (b / pw (15 - d).toNat % 2)) ∧ w' = w := by
  go_enter Try.func78, Try.ntmps78
  go_wp2
  go_ret
  refine ⟨ret_int ?_, rfl⟩
  have hp := pw_pos (15 - d).toNat
  have h1 : 0 ≤ b / pw (15 - d).toNat := Int.ediv_nonneg b1 (by omega)
  have h2 : b / pw (15 - d).toNat ≤ b := Int.ediv_le_self _ b1
  exact and_one (b / pw (15 - d).toNat) h1 (by omega)

/-- what put leaves: the trie of the set with one prefix's addresses given one value -/
def PutPost (n : Nat) (w : World) (B o : Nat) (t : Tr) (fp : List Nat) (w' : World) : Prop :=
  ∃ fq, Tri w' B o t fq ∧ (∀ b ∈ fq, b ∈ fp ∨ w.heap.size ≤ b) ∧ Kept n w w' B o fp

set_option maxRecDepth 100000 in
set_option maxHeartbeats 2000000 in
/-- at the prefix itself -/
theorem put_at (n B o : Nat) (b m : Int) (u v : Bool) (q : Option Addr) (fp : List Nat) (w : World) (hT : Two w B o (.bool u) (.pointer q)) (hn : n ≤ B) :
    Calls Try.prog 62 #[.pointer (some ⟨B, o, none⟩), .agg #[.int .i64 b, .int .i64 m], .int .i64 m, .bool v] w fun e w' => (∃ u, e = .returned u) ∧ PutPost n w B o (.leaf v) fp w' := by
  have hl := hT.lt
  have HP : Hid (PutPost n w B o (.leaf v) fp (((w.setCell ⟨B, o, none⟩ (.bool v)).setCell ⟨B, o + 1, none⟩ (.pointer none)).alloc (.cells #[.int .i64 b, .int .i64 m] 24))) := by
    refine ⟨[], ⟨rfl, (set2_two hT _ _).below ((Below.refl _ _).more _)⟩, by simp, (((Below.refl n w).setCell (p := ⟨B, o, none⟩) hn _).setCell (p := ⟨B, o + 1, none⟩) hn _).alloc (by simp; omega) _, fun c i hc _ ho => ?_⟩
    have h := set2_cell w B o (.bool v) (.pointer none) c i ho
    have k := below_same (b := c) ((Below.refl _ ((w.setCell ⟨B, o, none⟩ (.bool v)).setCell ⟨B, o + 1, none⟩ (.pointer none))).more (.cells #[.int .i64 b, .int .i64 m] 24)) (by simpa using hc) i
    exact ⟨k.1.trans h.1, k.2.trans h.2⟩
  obtain ⟨t0, t1, t2, t3⟩ := hT
  go_enter Try.func62, Try.ntmps62
  go_wp2
  refine bodyPost_ret (results_none rfl _ _ _) rfl ?_
  exact ⟨⟨_, rfl⟩, HP.out⟩

theorem Tri.drew {w : World} {B o : Nat} {t : Tr} {fp : List Nat} (h : Tri w B o t fp) : Tri w.drew B o t fp := h.below (Below.refl _ _).drew
/-- a half's contract, seen from the node -/
theorem put_half {n : Nat} {W w2 : World} {B o H c c' : Nat} {y : Tr} {u : Bool} {f1 f2 fq : List Nat} (hcc : c = 0 ∧ c' = 2 ∨ c = 2 ∧ c' = 0) (hT : Two W B o (.bool u) (.pointer (some ⟨H, 0, none⟩)))
    (hy : Tri W H c' y f2) (hd : H ∉ f1 ∧ H ∉ f2 ∧ ∀ b ∈ f1, b ∉ f2) (hB : B ≠ H ∧ B ∉ f1 ∧ B ∉ f2) (h2 : ∀ b ∈ fq, b ∈ f1 ∨ W.heap.size ≤ b) (h3 : Kept n W w2 H c f1) :
    Two w2 B o (.bool u) (.pointer (some ⟨H, 0, none⟩)) ∧ Tri w2 H c' y f2 ∧ (H ∉ fq ∧ H ∉ f2 ∧ ∀ b ∈ fq, b ∉ f2) := by
  have hly := hy.lt
  refine ⟨hT.keep (h3.same hT.lt hB.2.1 hB.1 o) (h3.same hT.lt hB.2.1 hB.1 (o + 1)), ?_, ?_, hd.2.1, ?_⟩
  · refine hy.keep (h3.2 H c' hly.1 hd.1 (by omega)) (h3.2 H (c' + 1) hly.1 hd.1 (by omega)) (fun b hb => h3.same (hly.2 b hb) (fun e => hd.2.2 b e hb) (fun e => hd.2.1 (e ▸ hb)))
  · intro e
    rcases h2 H e with h | h
    · exact hd.1 h
    · exact absurd hly.1 (by omega)
  · intro b hb h
    rcases h2 b hb with k | k
    · exact hd.2.2 b k h
    · exact absurd (hly.2 b h) (by omega)
/-- what the step down leaves -/
theorem put_fin {n : Nat} {w W w2 w3 : World} {B o H c : Nat} {t : Tr} {f1 f2 fq fr fp : List Nat} (hn : n ≤ H) (hw : Kept n w W B o []) (h2 : ∀ b ∈ fq, b ∈ f1 ∨ W.heap.size ≤ b) (h3 : Kept n W w2 H c f1) (h4 : Tri w3 B o t fr) (h5 : ∀ b ∈ fr, b = H ∨ b ∈ fq ∨ b ∈ f2) (h6 : Kept n w2 w3 B o [])
    (hH : H ∈ fp ∨ w.heap.size ≤ H) (hf1 : ∀ b ∈ f1, b ∈ fp ∨ w.heap.size ≤ b) (hf2 : ∀ b ∈ f2, b ∈ fp ∨ w.heap.size ≤ b) : PutPost n w B o t fp w3 := by
  have hs := hw.1.size
  refine ⟨fr, h4, fun b hb => ?_, (hw.1.trans h3.1).trans h6.1, fun b i hb hf ho => ?_⟩
  · rcases h5 b hb with rfl | h | h
    · exact hH
    · rcases h2 b h with k | k
      · exact hf1 b k
      · exact .inr (by omega)
    · exact hf2 b h
  · have e1 := hw.2 b i hb (by simp) ho
    have e2 := h3.same (b := b) (by omega) (fun e => (hf1 b e).elim hf (fun k => by omega)) (fun e => hH.elim (fun k => hf (e ▸ k)) (fun k => by omega)) i
    have e3 := h6.2 b i (by have := h3.1.size; omega) (by simp) ho
    exact ⟨e3.1.trans (e2.1.trans e1.1), e3.2.trans (e2.2.trans e1.2)⟩
theorem kept_drew {n : Nat} {w W : World} {B o : Nat} {fp : List Nat} (h : Kept n w W B o fp) : Kept n w W.drew B o fp := ⟨h.1.drew, h.2⟩
theorem Two.drew {w : World} {B o : Nat} {x y : Value} (h : Two w B o x y) : Two w.drew B o x y := h
/-- what the region's reads want, behind the half's call -/
theorem three_kept {n : Nat} {W w2 : World} {B o H c P : Nat} {u : Value} {q : Value} {f1 : List Nat} {x y : Value} (h3 : Kept n W.drew w2 H c f1) (hP : P < W.heap.size ∧ P ∉ f1 ∧ P ≠ H) (hT : Two w2 B o u q) (p0 : W.cell? ⟨P, 0, none⟩ = some x) (p1 : W.cell? ⟨P, 1, none⟩ = some y) :
    w2.cell? ⟨B, o + 1, none⟩ = some q ∧ w2.cell? ⟨P, 0, none⟩ = some x ∧ w2.cell? ⟨P, 1, none⟩ = some y :=
  ⟨hT.2.1, (h3.same hP.1 hP.2.1 hP.2.2 0).1.trans p0, (h3.same hP.1 hP.2.1 hP.2.2 1).1.trans p1⟩

end Go.Proofs.Ytaoahghfmlegbab
