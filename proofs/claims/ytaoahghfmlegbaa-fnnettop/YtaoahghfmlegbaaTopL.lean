/- The fewest prefixes, as the law of the fewest asks: plain mathematics; no program. -/
import Derived.Test.YtaoahghfmlegbaaFew
import Derived.Test.YtaoahghfmlegbaaBest
namespace Go.Proofs.Ytaoahghfmlegbaa

theorem run_mem {S : Int → Bool} {hi : Int} : ∀ {W : List (Int × Int)} {lo : Int}, Run S hi lo W → ∀ p ∈ W, okP p.1 p.2 = true ∧ ∀ x, p.1 ≤ x → x < p.1 + sz p.2 → S x = true
  | [], _, _, p, hp => by cases hp
  | q :: r, lo, h, p, hp => by
    obtain ⟨a, b, c, d, e, f⟩ := h
    rcases List.mem_cons.mp hp with rfl | hp
    · exact ⟨a, d⟩
    · exact run_mem f p hp
theorem gt_mem {L : List (Int × Int)} {i : Nat} (h : i < L.length) : gt L i ∈ L := by rw [← gt_eq h]; exact List.getElem_mem h
theorem gt_drop {L : List (Int × Int)} {i : Nat} (h : i < L.length) : L.drop i = gt L i :: L.drop (i + 1) := by rw [← gt_eq h]; exact List.drop_eq_getElem_cons h

/-- no two are the halves of one -/
theorem no_join {S : Int → Bool} {j k : Nat} (hj : j < (few S 16 0).length) (hk : k < (few S 16 0).length) (h1 : (gt (few S 16 0) j).2 = (gt (few S 16 0) k).2)
    (h2 : (gt (few S 16 0) j).1 + sz (gt (few S 16 0) k).2 = (gt (few S 16 0) k).1) (h3 : (gt (few S 16 0) j).1 % (sz (gt (few S 16 0) k).2 * 2) = 0) : False := by
  have m1 := gt_mem hj
  have m2 := gt_mem hk
  obtain ⟨o1, s1⟩ := run_mem (few_root S) _ m1
  obtain ⟨o2, s2⟩ := run_mem (few_root S) _ m2
  have hm := few_max S 16 0 (by simp) _ m1
  generalize gt (few S 16 0) j = p at *
  generalize gt (few S 16 0) k = q at *
  rw [ok_iff] at o1 o2
  rw [← h1] at h2 h3 s2
  by_cases hl : p.2 = 0
  · rw [hl] at h2
    have : sz 0 = 65536 := by decide
    omega
  · obtain ⟨x, x1, x2, x3⟩ := hm h3 (by have := o1.1; simp; omega)
    rcases Int.lt_or_le x (p.1 + sz p.2) with c | c
    · rw [s1 x x1 c] at x3; cases x3
    · rw [s2 x (by omega) (by omega)] at x3; cases x3

theorem setOf_no {L O : List (Int × Int)} {x : Int} (h : setOf L O x = false) : anyHas L x = false ∨ (anyHas L x = true ∧ anyHas O x = true) := by
  unfold setOf at h
  cases h1 : anyHas L x with
  | false => exact .inl rfl
  | true => cases h2 : anyHas O x with
    | true => exact .inr ⟨rfl, rfl⟩
    | false => rw [h1, h2] at h; cases h
theorem setOf_yes {L O : List (Int × Int)} {x : Int} (h : setOf L O x = true) : anyHas L x = true ∧ anyHas O x = false := by
  unfold setOf at h
  cases h1 : anyHas L x with
  | false => rw [h1] at h; cases h
  | true => cases h2 : anyHas O x with
    | true => rw [h1, h2] at h; cases h
    | false => exact ⟨rfl, rfl⟩
end Go.Proofs.Ytaoahghfmlegbaa
