/- The draws: lemmas for DrawAclDiffer. -/
import Derived.Test.YtaoahghfmlegbaaDr6
namespace Go.Proofs.Ytaoahghfmlegbaa
open Go.RowKit Go.Lib

theorem rowR_some' {w : World} {b : Nat} {v : Value} {M : List Ru} (h : RowR w b v M) (hv : v ≠ .slice none 0 0) : ∃ g c, v = .slice (some ⟨g, 0, none⟩) M.length c := by
  rcases h.rd with ⟨hn, _⟩ | ⟨g, c, rfl, _⟩
  · exact absurd hn hv
  · exact ⟨g, c, rfl⟩
theorem rdR_grown {w W : World} {g n c : Nat} {L : List Ru} {row : Option Nat} (h : RdR w (.slice (some ⟨g, 0, none⟩) n c) L) (hg : w.grownBy W row) (hR : row ≠ some g) : RdR W (.slice (some ⟨g, 0, none⟩) n c) L := by
  refine h.keep hg.size fun k j => ?_
  by_cases hk : k = g
  · subst hk
    exact .inr fun hl => World.cell?_of_block (hg.block k hl (fun e => hR e.symm))
  · refine .inl ?_
    intro g' o n' c' e
    cases e
    exact fun e => hk e.symm
theorem rdR_set {w : World} {g n c K j : Nat} {L : List Ru} (h : RdR w (.slice (some ⟨g, 0, none⟩) n c) L) (hK : g ≠ K) (u : Value) : RdR (w.setCell ⟨K, j, none⟩ u) (.slice (some ⟨g, 0, none⟩) n c) L :=
  rdR_grown (row := some K) h ⟨rfl, rfl, rfl, by simp, fun k _ hk => Below.heap_setCell _ _ _ _ (fun e => hk (by simp [e]))⟩ (fun e => hK (by cases e; rfl))
/-- a world with the six cells of a rule written -/
abbrev set6 (w : World) (g o : Nat) (r : Ru) : World := (((((w.setCell ⟨g, o, none⟩ (.bool r.1)).setCell ⟨g, o + 1, none⟩ (.int .i64 r.2.1.1)).setCell ⟨g, o + 2, none⟩ (.int .i64 r.2.1.2)).setCell ⟨g, o + 3, none⟩ (.int .i64 r.2.2.1.1)).setCell ⟨g, o + 4, none⟩ (.int .i64 r.2.2.1.2)).setCell ⟨g, o + 5, none⟩ (.int .i64 r.2.2.2)
theorem row6 {w : World} {b g n cap o : Nat} {xs : List Value} (h : w.ownsRow b 48 6 (.slice (some ⟨g, 0, none⟩) n cap) n xs) (r : Ru) :
    (set6 w g o r).ownsRow b 48 6 (.slice (some ⟨g, 0, none⟩) n cap) n ((((((xs.set o (.bool r.1)).set (o + 1) (.int .i64 r.2.1.1)).set (o + 2) (.int .i64 r.2.1.2)).set (o + 3) (.int .i64 r.2.2.1.1)).set (o + 4) (.int .i64 r.2.2.1.2)).set (o + 5) (.int .i64 r.2.2.2)) :=
  (World.ownsRow.stored (World.ownsRow.stored (World.ownsRow.stored (World.ownsRow.stored (World.ownsRow.stored (World.ownsRow.stored h o _).1 (o + 1) _).1 (o + 2) _).1 (o + 3) _).1 (o + 4) _).1 (o + 5) _).1
theorem flat6 (L : List Ru) (i : Nat) (r : Ru) (hi : i < L.length) : (((((((flatR L).set (i * 6) (.bool r.1)).set (i * 6 + 1) (.int .i64 r.2.1.1)).set (i * 6 + 2) (.int .i64 r.2.1.2)).set (i * 6 + 3) (.int .i64 r.2.2.1.1)).set (i * 6 + 4) (.int .i64 r.2.2.1.2)).set (i * 6 + 5) (.int .i64 r.2.2.2)) = flatR (L.set i r) := by
  apply List.ext_getElem?
  intro k
  by_cases hk : k < L.length * 6
  · have hd : k / 6 < L.length := by omega
    have e : k = k / 6 * 6 + k % 6 := by omega
    have hm : k % 6 < 6 := by omega
    by_cases he : k / 6 = i
    · have h1 := flatR_at (L.set i r) (k / 6) r (by rw [he, List.getElem?_set_self (by omega)]) (k % 6) hm
      rw [← e] at h1
      rw [h1]
      have hj : k % 6 = 0 ∨ k % 6 = 1 ∨ k % 6 = 2 ∨ k % 6 = 3 ∨ k % 6 = 4 ∨ k % 6 = 5 := by omega
      have hk' : k = i * 6 + k % 6 := by omega
      have hl : i * 6 + 5 < L.length * 6 := by omega
      rcases hj with q | q | q | q | q | q <;> rw [q] at hk' ⊢ <;> subst hk' <;> simp [List.getElem?_set, flatR_len, ruC] <;> omega
    · have h1 := flatR_at (L.set i r) (k / 6) L[k / 6] (by rw [List.getElem?_set_ne (fun e => he e.symm)]; exact List.getElem?_eq_getElem hd) (k % 6) hm
      have h2 := flatR_at L (k / 6) L[k / 6] (List.getElem?_eq_getElem hd) (k % 6) hm
      rw [← e] at h1 h2
      rw [h1, List.getElem?_set_ne (by omega), List.getElem?_set_ne (by omega), List.getElem?_set_ne (by omega), List.getElem?_set_ne (by omega), List.getElem?_set_ne (by omega), List.getElem?_set_ne (by omega), h2]
  · rw [List.getElem?_eq_none (by simp [flatR_len]; omega), List.getElem?_eq_none (by simp [flatR_len]; omega)]
theorem rowR_put6 {w : World} {b g cap : Nat} {L : List Ru} (h : RowR w b (.slice (some ⟨g, 0, none⟩) L.length cap) L) {i : Nat} (hi : i < L.length) (r : Ru) :
    RowR (set6 w g (i * 6) r) b (.slice (some ⟨g, 0, none⟩) L.length cap) (L.set i r) := by
  have := row6 (o := i * 6) h r
  rw [flat6 L i r hi] at this
  unfold RowR
  rw [List.length_set]
  exact this
theorem step_append_h {P : Program} {ops : Array Oper} {o : Oper} {a : Act} {w : World} {K : Act → World → Prop} {Q : Exit → Act → World → Prop} {E : Prop} (hw : Region.wanted o (yielded ops a.tmps) = true) (s x : Operand) (t : TypeId)
    (ho : o.op = .call { callee := .builtin .append, args := #[s, x], argTypes := #[t, t] })
    (base : Nat) (e : TypeId) (i : TypeInfo) (z : Value) (size bytes : Nat) (ht : P.underlying t = some (.slice e)) (hi : P.info? e = some i) (hz : i.zero = some z)
    (hsize : i.size = size) (hby : i.bytes = bytes) (hzs : z.cells.size = size) (hsz : 0 < size)
    (v : Value) (n : Nat) (xs : List Value) (hs : a.eval s = v) (hown : w.ownsRow base e size v n xs)
    (ad : Addr) (m c : Nat) (news : List Value) (hx : a.eval x = .slice (some ad) m c) (hl : news.length = m * size) (hnews : ∀ j u, news[j]? = some u → w.cell? (ad.add j) = some u) (h1 : ∀ u ∈ news, u.oneCell' = true)
    (h63 : n + m ≤ maxLen) (hbytes : (n + m) * bytes ≤ 140737488355328) (hbase : base ≤ w.heap.size)
    (h : ∀ v' w', w'.ownsRow base e size v' (n + m) (xs ++ news) → w.grownBy w' v.ownBlock → (v' = .slice none 0 0 ↔ v = .slice none 0 0 ∧ m = 0) → K (a.put o.dst v') w') :
    if Region.wanted o (yielded ops a.tmps) = true then Oper.wp P o a w K Q else E := by
  rw [if_pos hw]
  exact wp_append_own w s x t ho base e i z size bytes ht hi hz hsize hby hzs hsz v n xs hs hown ad m c news hx hl hnews h1 h63 hbytes hbase h
theorem drew_set6 {w W : World} {R n cap g o : Nat} {q : Option Addr} {p c : Int} (h0 : Rdr w R q n cap p) (h : Drew w R q n cap p c W) (hg : w.heap.size ≤ g) (r : Ru) : Drew w R q n cap p c (set6 W g o r) :=
  drew_set h0 (drew_set h0 (drew_set h0 (drew_set h0 (drew_set h0 (drew_set h0 h hg _) hg _) hg _) hg _) hg _) hg _
theorem rdR_set6 {w : World} {g n c K o : Nat} {L : List Ru} (h : RdR w (.slice (some ⟨g, 0, none⟩) n c) L) (hK : g ≠ K) (r : Ru) : RdR (set6 w K o r) (.slice (some ⟨g, 0, none⟩) n c) L :=
  rdR_set (rdR_set (rdR_set (rdR_set (rdR_set (rdR_set h hK _) hK _) hK _) hK _) hK _) hK _
theorem rowR_swap {w : World} {b g cap : Nat} {L : List Ru} (h : RowR w b (.slice (some ⟨g, 0, none⟩) L.length cap) L) {i j : Nat} (hi : i < L.length) (hj : j < L.length) (r s : Ru) :
    ∃ M : List Ru, M.length = L.length ∧ RowR (set6 (set6 w g (i * 6) r) g (j * 6) s) b (.slice (some ⟨g, 0, none⟩) L.length cap) M := by
  have h1 := rowR_put6 h hi r
  have hl : (L.set i r).length = L.length := List.length_set
  rw [← hl] at h1
  have h2 := rowR_put6 (i := j) h1 (by omega) s
  rw [hl] at h2
  exact ⟨_, by simp, h2⟩
theorem off_add (g a j : Nat) : (⟨g, a, none⟩ : Addr).add j = ⟨g, a + j, none⟩ := by unfold Addr.add; split <;> simp_all
theorem flatR_split (L : List Ru) (k : Nat) : flatR L = flatR (L.take k) ++ flatR (L.drop k) := by rw [← flatR_app, List.take_append_drop]
theorem newsR_take {w : World} {g n cap : Nat} {L : List Ru} (h : RdR w (.slice (some ⟨g, 0, none⟩) n cap) L) (k : Nat) : ∀ j u, (flatR (L.take k))[j]? = some u → w.cell? ((⟨g, 0, none⟩ : Addr).add j) = some u := by
  intro j u hu
  refine news_rules h j u ?_
  rw [flatR_split L k, List.getElem?_append_left (List.getElem?_eq_some_iff.1 hu).1]
  exact hu
theorem newsR_drop {w : World} {g n cap : Nat} {L : List Ru} (h : RdR w (.slice (some ⟨g, 0, none⟩) n cap) L) {k : Nat} (hk : k ≤ L.length) : ∀ j u, (flatR (L.drop k))[j]? = some u → w.cell? ((⟨g, k * 6, none⟩ : Addr).add j) = some u := by
  intro j u hu
  have e : (flatR (L.take k)).length = k * 6 := by rw [flatR_len, List.length_take]; congr 1; omega
  have := news_rules h (k * 6 + j) u (by rw [flatR_split L k, List.getElem?_append_right (by omega), e, show k * 6 + j - k * 6 = j by omega]; exact hu)
  rw [off_add] at this ⊢
  rw [Nat.zero_add] at this
  exact this
end Go.Proofs.Ytaoahghfmlegbaa
