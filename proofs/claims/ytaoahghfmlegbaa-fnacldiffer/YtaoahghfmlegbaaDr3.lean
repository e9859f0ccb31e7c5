/- The draws of rules: l5SpoilRules, l5AnyRules. -/
import Derived.Test.YtaoahghfmlegbaaDr2
namespace Go.Proofs.Ytaoahghfmlegbaa
open Go.RowKit Go.Lib

theorem flatR_set (L : List Ru) (i j : Nat) (r : Ru) (u : Value) (hi : i < L.length) (hj : j < 6) (h : ∀ k, k < 6 → (ruC r)[k]? = if k = j then some u else (ruC L[i])[k]?) : flatR (L.set i r) = (flatR L).set (i * 6 + j) u := by
  apply List.ext_getElem?
  intro k
  by_cases hk : k < L.length * 6
  · have hd : k / 6 < L.length := by omega
    have e : k = k / 6 * 6 + k % 6 := by omega
    have hm : k % 6 < 6 := by omega
    by_cases he : k / 6 = i
    · have h1 := flatR_at (L.set i r) (k / 6) r (by rw [he, List.getElem?_set_self (by omega)]) (k % 6) hm
      have h2 := flatR_at L (k / 6) L[i] (by rw [he]; exact List.getElem?_eq_getElem hi) (k % 6) hm
      rw [← e] at h1 h2
      rw [h1, h _ hm]
      by_cases hkj : k % 6 = j
      · rw [if_pos hkj, show i * 6 + j = k by omega, List.getElem?_set_self (by rw [flatR_len]; omega)]
      · rw [if_neg hkj, List.getElem?_set_ne (by omega), h2]
    · have h1 := flatR_at (L.set i r) (k / 6) L[k / 6] (by rw [List.getElem?_set_ne (fun e => he e.symm)]; exact List.getElem?_eq_getElem hd) (k % 6) hm
      have h2 := flatR_at L (k / 6) L[k / 6] (List.getElem?_eq_getElem hd) (k % 6) hm
      rw [← e] at h1 h2
      rw [h1, List.getElem?_set_ne (by omega), h2]
  · rw [List.getElem?_eq_none (by rw [flatR_len, List.length_set]; omega), List.getElem?_eq_none (by rw [List.length_set, flatR_len]; omega)]
theorem rowR_put {w : World} {b g cap : Nat} {L : List Ru} (h : RowR w b (.slice (some ⟨g, 0, none⟩) L.length cap) L) {i j : Nat} {r : Ru} {u : Value} (hi : i < L.length) (hj : j < 6) (hr : ∀ k, k < 6 → (ruC r)[k]? = if k = j then some u else (ruC L[i])[k]?) :
    RowR (w.setCell ⟨g, i * 6 + j, none⟩ u) b (.slice (some ⟨g, 0, none⟩) L.length cap) (L.set i r) := by
  have h2 := (World.ownsRow.stored h (i * 6 + j) u).1
  unfold RowR
  rw [List.length_set, flatR_set L i j r u hi hj hr]
  exact h2
theorem rowR_from {w : World} {b g cap : Nat} {L : List Ru} {i : Nat} {p : Bool} {x y : Int × Int} {k : Int} (h : RowR w b (.slice (some ⟨g, 0, none⟩) L.length cap) L) (hi : i < L.length) (e : L[i] = (p, x, y, k)) (a l : Int) :
    ∃ M : List Ru, M.length = L.length ∧ RowR ((w.setCell ⟨g, i * 6 + 1, none⟩ (.int .i64 a)).setCell ⟨g, i * 6 + 2, none⟩ (.int .i64 l)) b (.slice (some ⟨g, 0, none⟩) L.length cap) M := by
  have h1 := rowR_put (r := (p, (a, x.2), y, k)) (j := 1) (u := .int .i64 a) h hi (by omega) (fun k hk => by rw [e]; match k, hk with | 0, _ => rfl | 1, _ => rfl | 2, _ => rfl | 3, _ => rfl | 4, _ => rfl | 5, _ => rfl)
  have hl : (L.set i (p, (a, x.2), y, k)).length = L.length := List.length_set
  rw [← hl] at h1
  have h2 := rowR_put (r := (p, (a, l), y, k)) (j := 2) (i := i) (u := .int .i64 l) h1 (by omega) (by omega) (fun k hk => by rw [List.getElem_set_self]; match k, hk with | 0, _ => rfl | 1, _ => rfl | 2, _ => rfl | 3, _ => rfl | 4, _ => rfl | 5, _ => rfl)
  rw [hl] at h2
  exact ⟨_, by simp, h2⟩
theorem rowR_to {w : World} {b g cap : Nat} {L : List Ru} {i : Nat} {p : Bool} {x y : Int × Int} {k : Int} (h : RowR w b (.slice (some ⟨g, 0, none⟩) L.length cap) L) (hi : i < L.length) (e : L[i] = (p, x, y, k)) (a l : Int) :
    ∃ M : List Ru, M.length = L.length ∧ RowR ((w.setCell ⟨g, i * 6 + 3, none⟩ (.int .i64 a)).setCell ⟨g, i * 6 + 4, none⟩ (.int .i64 l)) b (.slice (some ⟨g, 0, none⟩) L.length cap) M := by
  have h1 := rowR_put (r := (p, x, (a, y.2), k)) (j := 3) (u := .int .i64 a) h hi (by omega) (fun k hk => by rw [e]; match k, hk with | 0, _ => rfl | 1, _ => rfl | 2, _ => rfl | 3, _ => rfl | 4, _ => rfl | 5, _ => rfl)
  have hl : (L.set i (p, x, (a, y.2), k)).length = L.length := List.length_set
  rw [← hl] at h1
  have h2 := rowR_put (r := (p, x, (a, l), k)) (j := 4) (i := i) (u := .int .i64 l) h1 (by omega) (by omega) (fun k hk => by rw [List.getElem_set_self]; match k, hk with | 0, _ => rfl | 1, _ => rfl | 2, _ => rfl | 3, _ => rfl | 4, _ => rfl | 5, _ => rfl)
  rw [hl] at h2
  exact ⟨_, by simp, h2⟩
theorem rowR_kind {w : World} {b g cap : Nat} {L : List Ru} {i : Nat} {p : Bool} {x y : Int × Int} {k : Int} (h : RowR w b (.slice (some ⟨g, 0, none⟩) L.length cap) L) (hi : i < L.length) (e : L[i] = (p, x, y, k)) (a : Int) :
    ∃ M : List Ru, M.length = L.length ∧ RowR (w.setCell ⟨g, i * 6 + 5, none⟩ (.int .i64 a)) b (.slice (some ⟨g, 0, none⟩) L.length cap) M :=
  ⟨_, by simp, rowR_put (r := (p, x, y, a)) (j := 5) (u := .int .i64 a) h hi (by omega) (fun k hk => by rw [e]; match k, hk with | 0, _ => rfl | 1, _ => rfl | 2, _ => rfl | 3, _ => rfl | 4, _ => rfl | 5, _ => rfl)⟩
theorem rowR_permit {w : World} {b g cap : Nat} {L : List Ru} {i : Nat} {p : Bool} {x y : Int × Int} {k : Int} (h : RowR w b (.slice (some ⟨g, 0, none⟩) L.length cap) L) (hi : i < L.length) (e : L[i] = (p, x, y, k)) (a : Bool) :
    ∃ M : List Ru, M.length = L.length ∧ RowR (w.setCell ⟨g, i * 6, none⟩ (.bool a)) b (.slice (some ⟨g, 0, none⟩) L.length cap) M :=
  ⟨_, by simp, rowR_put (r := (a, x, y, k)) (j := 0) (u := .bool a) h hi (by omega) (fun k hk => by rw [e]; match k, hk with | 0, _ => rfl | 1, _ => rfl | 2, _ => rfl | 3, _ => rfl | 4, _ => rfl | 5, _ => rfl)⟩
end Go.Proofs.Ytaoahghfmlegbaa
