/- Lists of prefixes in memory: rows of two cells an element. -/
import Derived.Test.YtaoahghfmlegbabL1b
import Derived.Laws.MakeOwn
import Derived.OwnWalk
namespace Go.Proofs.Ytaoahghfmlegbab
open Go.RowKit Go.Lib

/-- the cells of a list of prefixes -/
def flat (L : List (Int × Int)) : List Value := L.flatMap fun q => [.int .i64 q.1, .int .i64 q.2]
theorem flat_nil : flat [] = [] := rfl
theorem flat_cons (q : Int × Int) (L : List (Int × Int)) : flat (q :: L) = .int .i64 q.1 :: .int .i64 q.2 :: flat L := rfl
theorem flat_app (L M : List (Int × Int)) : flat (L ++ M) = flat L ++ flat M := by simp [flat]
theorem flat_len : ∀ L : List (Int × Int), (flat L).length = L.length * 2
  | [] => rfl
  | q :: L => by rw [flat_cons]; simp [flat_len L]; omega
theorem flat_at : ∀ (L : List (Int × Int)) (i : Nat) (q : Int × Int), L[i]? = some q → (flat L)[i * 2]? = some (.int .i64 q.1) ∧ (flat L)[i * 2 + 1]? = some (.int .i64 q.2)
  | [], i, q, h => by simp at h
  | p :: L, 0, q, h => by simp at h; subst h; simp [flat_cons]
  | p :: L, i + 1, q, h => by
    have := flat_at L i q (by simpa using h)
    have e : (i + 1) * 2 = i * 2 + 1 + 1 := by omega
    rw [flat_cons, e]
    simpa using this

/-- a list that lies in a row of its own, from the block b on -/
def Row (w : World) (b : Nat) (v : Value) (L : List (Int × Int)) : Prop := w.ownsRow b 24 2 v L.length (flat L)
/-- a list that can be read -/
def Rd (w : World) (v : Value) (L : List (Int × Int)) : Prop :=
  (v = .slice none 0 0 ∧ L = []) ∨ ∃ g cap, v = .slice (some ⟨g, 0, none⟩) L.length cap ∧ g < w.heap.size ∧
    ∀ i q, L[i]? = some q → w.cell? ⟨g, i * 2, none⟩ = some (.int .i64 q.1) ∧ w.cell? ⟨g, i * 2 + 1, none⟩ = some (.int .i64 q.2)
theorem Rd.below {w w' : World} {v : Value} {L : List (Int × Int)} (h : Rd w v L) (hb : Below w.heap.size w w') : Rd w' v L := by
  rcases h with h | ⟨g, cap, hv, hg, hc⟩
  · exact .inl h
  · refine .inr ⟨g, cap, hv, Nat.lt_of_lt_of_le hg hb.size, fun i q hq => ?_⟩
    rw [hb.cell (p := ⟨g, i * 2, none⟩) hg, hb.cell (p := ⟨g, i * 2 + 1, none⟩) hg]
    exact hc i q hq
theorem Rd.alloc {w : World} {v : Value} {L : List (Int × Int)} (h : Rd w v L) (o : Obj) : Rd (w.alloc o) v L := h.below ((Below.refl _ _).more _)
theorem Row.rd {w : World} {b : Nat} {v : Value} {L : List (Int × Int)} (h : Row w b v L) : Rd w v L := by
  rcases h.2 with ⟨hv, hn⟩ | ⟨g, cap, cur, rfl, hb, hh, hnc, hm, hs, ht⟩
  · exact .inl ⟨hv, List.length_eq_zero_iff.1 hn⟩
  · refine .inr ⟨g, cap, rfl, (Array.getElem?_eq_some_iff.1 hh).1, fun i q hq => ?_⟩
    have hi : i < L.length := (List.getElem?_eq_some_iff.1 hq).1
    have := flat_at L i q hq
    rw [World.ownsRow.cellAt h (i * 2) (by omega), World.ownsRow.cellAt h (i * 2 + 1) (by omega)]
    exact this
theorem Row.below {w w' : World} {b : Nat} {v : Value} {L : List (Int × Int)} (h : Row w b v L) (hb : Below w.heap.size w w') : Row w' b v L := by
  refine World.ownsRow.kept (row := none) h ⟨hb.os, hb.tape, hb.output, hb.size, fun k hk _ => hb.block k hk⟩ ?_
  cases h : v.ownBlock with
  | none => exact .inl rfl
  | some g => exact .inr (by simp)
theorem Row.mono {w : World} {b c : Nat} {v : Value} {L : List (Int × Int)} (h : Row w b v L) (hc : c ≤ b) : Row w c v L := by
  refine ⟨h.1, ?_⟩
  rcases h.2 with h2 | ⟨g, cap, cur, h1, h3, h4⟩
  · exact .inl h2
  · exact .inr ⟨g, cap, cur, h1, Nat.le_trans hc h3, h4⟩
theorem Row.nil (w : World) (b : Nat) : Row w b (.slice none 0 0) [] := World.ownsRow_nil _ _ _ _
theorem Row.small {w : World} {b : Nat} {v : Value} {L : List (Int × Int)} (h : Row w b v L) : L.length ≤ maxLen := by
  rcases h.2 with ⟨_, hn⟩ | ⟨g, cap, cur, _, _, _, h1, h2, _⟩
  · omega
  · omega
theorem Row.form {w : World} {b : Nat} {v : Value} {L : List (Int × Int)} (h : Row w b v L) : ∃ p cap, v = .slice p L.length cap := by
  rcases h.2 with ⟨hv, hn⟩ | ⟨g, cap, cur, h1, _⟩
  · exact ⟨none, 0, by rw [hn]; exact hv⟩
  · exact ⟨_, _, h1⟩
theorem Rd.form {w : World} {v : Value} {L : List (Int × Int)} (h : Rd w v L) : ∃ p cap, v = .slice p L.length cap := by
  rcases h with ⟨hv, hn⟩ | ⟨g, cap, h1, _⟩
  · exact ⟨none, 0, by rw [hn]; exact hv⟩
  · exact ⟨_, _, h1⟩
/-- what lies at one place of a list that can be read -/
theorem Rd.at {w : World} {p : Option Addr} {n cap : Nat} {L : List (Int × Int)} (h : Rd w (.slice p n cap) L) {i : Nat} (hi : i < L.length) :
    ∃ g, p = some ⟨g, 0, none⟩ ∧ g < w.heap.size ∧ w.cell? ⟨g, i * 2, none⟩ = some (.int .i64 L[i].1) ∧ w.cell? ⟨g, i * 2 + 1, none⟩ = some (.int .i64 L[i].2) := by
  rcases h with ⟨_, hn⟩ | ⟨g, cap', h1, hg, hc⟩
  · subst hn; simp at hi
  · cases h1
    exact ⟨g, rfl, hg, hc i L[i] (List.getElem?_eq_getElem hi)⟩
end Go.Proofs.Ytaoahghfmlegbab
