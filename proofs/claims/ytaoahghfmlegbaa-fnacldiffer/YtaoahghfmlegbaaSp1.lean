/- Lists of numbers in memory; the model's l4Put: a number put into ascending ones. -/
import Derived.Test.YtaoahghfmlegbaaRu5
import Derived.BigQuiet
import Derived.Deep.AppendLies
import Derived.Deep.DeepCutAuto
import Derived.Maps.AppendAt
import Derived.Maps.Range
namespace Go.Proofs.Ytaoahghfmlegbaa
open Go.RowKit Go.Lib

def intC (E : List Int) : List Value := E.map (Value.int .i64)
def RowI (w : World) (b : Nat) (v : Value) (E : List Int) : Prop := w.ownsRow b 3 1 v E.length (intC E)
/-- numbers that can be read -/
def RdI (w : World) (v : Value) (E : List Int) : Prop :=
  (v = .slice none 0 0 ∧ E = []) ∨ ∃ g cap, v = .slice (some ⟨g, 0, none⟩) E.length cap ∧ E.length ≤ cap ∧ g < w.heap.size ∧ ∀ i x, E[i]? = some x → w.cell? ⟨g, i, none⟩ = some (.int .i64 x)
theorem RdI.below {w w' : World} {v : Value} {E : List Int} (h : RdI w v E) (hb : Below w.heap.size w w') : RdI w' v E := by
  rcases h with h | ⟨g, cap, hv, hl, hg, hcs⟩
  · exact .inl h
  · exact .inr ⟨g, cap, hv, hl, Nat.lt_of_lt_of_le hg hb.size, fun i x hx => (hb.cell (p := ⟨g, i, none⟩) hg).trans (hcs i x hx)⟩
theorem RdI.form {w : World} {v : Value} {E : List Int} (h : RdI w v E) : ∃ p cap, v = .slice p E.length cap := by
  rcases h with ⟨hv, hn⟩ | ⟨g, cap, h1, _⟩
  · exact ⟨none, 0, by rw [hn]; exact hv⟩
  · exact ⟨_, _, h1⟩
theorem RdI.at {w : World} {p : Option Addr} {n cap : Nat} {E : List Int} (h : RdI w (.slice p n cap) E) {i : Nat} (hi : i < E.length) : ∃ g, p = some ⟨g, 0, none⟩ ∧ n ≤ cap ∧ g < w.heap.size ∧ w.cell? ⟨g, i, none⟩ = some (.int .i64 E[i]) := by
  rcases h with ⟨_, hn⟩ | ⟨g, cap', h1, hl, hg, hc⟩
  · subst hn; simp at hi
  · cases h1
    exact ⟨g, rfl, hl, hg, hc i E[i] (List.getElem?_eq_getElem hi)⟩
theorem RowI.rd {w : World} {b : Nat} {v : Value} {E : List Int} (h : RowI w b v E) : RdI w v E := by
  rcases h.2 with ⟨hv, hn⟩ | ⟨g, cap, cur, rfl, hb, hh, hnc, hm, hs, ht⟩
  · exact .inl ⟨hv, List.length_eq_zero_iff.1 hn⟩
  · refine .inr ⟨g, cap, rfl, hnc, (Array.getElem?_eq_some_iff.1 hh).1, fun i x hx => ?_⟩
    have hi : i < E.length := (List.getElem?_eq_some_iff.1 hx).1
    rw [World.ownsRow.cellAt h i (by omega)]
    simp [intC, hx]
theorem RowI.below {w w' : World} {b : Nat} {v : Value} {E : List Int} (h : RowI w b v E) (hb : Below w.heap.size w w') : RowI w' b v E := by
  refine World.ownsRow.kept (row := none) h ⟨hb.os, hb.tape, hb.output, hb.size, fun k hk _ => hb.block k hk⟩ ?_
  cases h : v.ownBlock with
  | none => exact .inl rfl
  | some g => exact .inr (by simp)
theorem RowI.mono {w : World} {b c : Nat} {v : Value} {E : List Int} (h : RowI w b v E) (hc : c ≤ b) : RowI w c v E := by
  refine ⟨h.1, ?_⟩
  rcases h.2 with h2 | ⟨g, cap, cur, h1, h3, h4⟩
  · exact .inl h2
  · exact .inr ⟨g, cap, cur, h1, Nat.le_trans hc h3, h4⟩
theorem RowI.form {w : World} {b : Nat} {v : Value} {E : List Int} (h : RowI w b v E) : ∃ p cap, v = .slice p E.length cap := by
  rcases h.2 with ⟨hv, hn⟩ | ⟨g, cap, cur, h1, _⟩
  · exact ⟨none, 0, by rw [hn]; exact hv⟩
  · exact ⟨_, _, h1⟩
theorem infoI : (Try.prog.info? 3).map (fun i => (i.zero, i.size, i.bytes)) = some (some (.int .i64 0), 1, 8) := by kernel_rfl
theorem add_zoff (B j : Nat) : (⟨B, 0, none⟩ : Addr).add j = ⟨B, j, none⟩ := by unfold Addr.add; split <;> simp_all
theorem add_koff (B k j : Nat) : (⟨B, k, none⟩ : Addr).add j = ⟨B, k + j, none⟩ := by unfold Addr.add; split <;> simp_all
theorem intC_len (E : List Int) : (intC E).length = E.length := by simp [intC]
theorem intC_app (E M : List Int) : intC (E ++ M) = intC E ++ intC M := by simp [intC]
theorem intC_one (E : List Int) : ∀ u ∈ intC E, u.oneCell' = true := by
  intro u hu
  obtain ⟨x, _, rfl⟩ := List.mem_map.1 hu
  rfl
/-- numbers laid behind numbers of the call's own, in a region that draws its order -/
theorem step_append_i {ops : Array Oper} {o : Oper} {a : Act} {w : World} {K : Act → World → Prop} {Q : Exit → Act → World → Prop} {Z : Prop} (hw : Region.wanted o (yielded ops a.tmps) = true) (s x : Operand)
    (ho : o.op = .call { callee := .builtin .append, args := #[s, x], argTypes := #[116, 116] })
    (base : Nat) (v : Value) (E : List Int) (hs : a.eval s = v) (hown : RowI w base v E)
    (ad : Addr) (m c : Nat) (M : List Int) (hx : a.eval x = .slice (some ad) m c) (hl : M.length = m) (hnews : ∀ j y, M[j]? = some y → w.cell? (ad.add j) = some (.int .i64 y))
    (hb1 : E.length + m ≤ 1048576) (hbase : base ≤ w.heap.size)
    (h : ∀ v' w', RowI w' base v' (E ++ M) → w.grownBy w' v.ownBlock → K (a.put o.dst v') w') :
    if Region.wanted o (yielded ops a.tmps) = true then Oper.wp Try.prog o a w K Q else Z := by
  obtain ⟨i0, hi, hz0, hz1, hz2⟩ := info_parts infoI
  rw [if_pos hw]
  refine wp_append_own w s x 116 ho base 3 i0 (.int .i64 0) 1 8 Try.underlying116 hi hz0 hz1 hz2 rfl (by decide) v E.length (intC E) hs hown ad m c (intC M) hx (by rw [intC_len]; omega) ?_ (intC_one M) (by unfold maxLen; omega) (by omega) hbase ?_
  · intro j u hu
    simp only [intC, List.getElem?_map, Option.map_eq_some_iff] at hu
    obtain ⟨y, hy, rfl⟩ := hu
    exact hnews j y hy
  · intro v' w' hown' hgrow _
    refine h v' w' ?_ hgrow
    unfold RowI
    rw [List.length_append, intC_app, hl]
    exact hown'
theorem rowI_new (w : World) : RowI (w.alloc (.cells #[] 3)) w.heap.size (.slice (some ⟨w.heap.size, 0, none⟩) 0 0) [] := by
  have := World.ownsRow_lit (e := 3) (size := 1) (base := w.heap.size) w #[] 0 (Nat.le_refl _) (by unfold maxLen; omega) rfl
  exact this
theorem news_one (w : World) (n : Int) : ∀ j y, [n][j]? = some y → (w.alloc (.cells #[.int .i64 n] 3)).cell? ((⟨w.heap.size, 0, none⟩ : Addr).add j) = some (.int .i64 y) := by
  intro j y hj
  match j, hj with
  | 0, hj => simp at hj; subst hj; simp [Addr.add]
  | j + 1, hj => simp at hj
theorem news_keep {w w' : World} {B : Nat} {M : List Int} {row : Option Nat} (h : ∀ j y, M[j]? = some y → w.cell? ((⟨B, 0, none⟩ : Addr).add j) = some (.int .i64 y)) (hg : w.grownBy w' row) (hlt : B < w.heap.size) (hne : some B ≠ row) : ∀ j y, M[j]? = some y → w'.cell? ((⟨B, 0, none⟩ : Addr).add j) = some (.int .i64 y) := by
  intro j u hu
  have := h j u hu
  rw [add_zoff] at this ⊢
  rw [World.grownBy.cell_far hg ⟨B, j, none⟩ hlt hne]; exact this
theorem news_take {w : World} {g n cap k : Nat} {E : List Int} (h : RdI w (.slice (some ⟨g, 0, none⟩) n cap) E) : ∀ j y, (E.take k)[j]? = some y → w.cell? ((⟨g, 0, none⟩ : Addr).add j) = some (.int .i64 y) := by
  intro j y hy
  have hj : E[j]? = some y := by
    rw [List.getElem?_take] at hy
    split at hy
    · exact hy
    · cases hy
  rw [add_zoff]
  have hi := (List.getElem?_eq_some_iff.1 hj).1
  obtain ⟨g', e, _, _, hc⟩ := h.at hi
  cases e
  rw [hc]
  rw [List.getElem?_eq_getElem hi] at hj
  cases hj
  rfl
theorem news_drop {w : World} {g n cap k : Nat} {E : List Int} (h : RdI w (.slice (some ⟨g, 0, none⟩) n cap) E) : ∀ j y, (E.drop k)[j]? = some y → w.cell? ((⟨g, k, none⟩ : Addr).add j) = some (.int .i64 y) := by
  intro j y hy
  have hj : E[k + j]? = some y := by rw [List.getElem?_drop] at hy; exact hy
  rw [add_koff]
  have hi := (List.getElem?_eq_some_iff.1 hj).1
  obtain ⟨g', e, _, _, hc⟩ := h.at hi
  cases e
  rw [hc]
  rw [List.getElem?_eq_getElem hi] at hj
  cases hj
  rfl

/-- ascending numbers, with one more -/
def PutOf (E : List Int) (n : Int) (E' : List Int) : Prop := E'.Pairwise (· < ·) ∧ (∀ x, x ∈ E' ↔ x ∈ E ∨ (x = n ∧ n ≤ 65535)) ∧ E'.length ≤ E.length + 1
theorem put_same {E : List Int} {n : Int} (h : E.Pairwise (· < ·)) (hn : 65535 < n ∨ n ∈ E) : PutOf E n E := by
  refine ⟨h, fun x => ⟨.inl, ?_⟩, by omega⟩
  rintro (hx | ⟨rfl, hx⟩)
  · exact hx
  · rcases hn with hn | hn
    · omega
    · exact hn
theorem put_new {E : List Int} {n : Int} {k : Nat} (h : E.Pairwise (· < ·)) (hk : k ≤ E.length) (hn : n ≤ 65535) (h1 : ∀ j (hj : j < E.length), j < k → E[j] < n) (h2 : ∀ hk : k < E.length, n < E[k]) : PutOf E n (E.take k ++ [n] ++ E.drop k) := by
  have e : E.take k ++ E.drop k = E := List.take_append_drop k E
  have h' := h
  rw [← e, List.pairwise_append] at h'
  have ht : ∀ x ∈ E.take k, x < n := fun x hx => by
    obtain ⟨j, hj, rfl⟩ := List.getElem_of_mem hx
    rw [List.getElem_take]
    simp at hj
    exact h1 j (by omega) (by omega)
  have hd : ∀ x ∈ E.drop k, n < x := fun x hx => by
    obtain ⟨j, hj, rfl⟩ := List.getElem_of_mem hx
    rw [List.getElem_drop]
    simp at hj
    have hkl : k < E.length := by omega
    by_cases hj0 : j = 0
    · subst hj0; simpa using h2 hkl
    · have := List.pairwise_iff_getElem.1 h k (k + j) hkl (by omega) (by omega)
      have := h2 hkl
      omega
  refine ⟨?_, fun x => ?_, ?_⟩
  · rw [List.pairwise_append, List.pairwise_append]
    refine ⟨⟨h'.1, List.pairwise_singleton _ _, fun x hx y hy => by simp at hy; subst hy; exact ht x hx⟩, h'.2.1, fun x hx y hy => ?_⟩
    rcases List.mem_append.1 hx with hx | hx
    · exact h'.2.2 x hx y hy
    · simp at hx; subst hx; exact hd y hy
  · have : x ∈ E ↔ x ∈ E.take k ∨ x ∈ E.drop k := by rw [← List.mem_append, e]
    simp only [List.mem_append, List.mem_singleton, this]
    constructor
    · rintro ((h | h) | h)
      · exact .inl (.inl h)
      · exact .inr ⟨h, hn⟩
      · exact .inl (.inr h)
    · rintro ((h | h) | ⟨h, _⟩)
      · exact .inl (.inl h)
      · exact .inr h
      · exact .inl (.inr h)
  · simp; omega
end Go.Proofs.Ytaoahghfmlegbaa
