/- Lists of rules in memory: rows of six cells an element; which rules and packets are ok, which rule is about a packet: the model's and the program's. -/
import Derived.Test.YtaoahghfmlegbaaRuM
import Derived.Test.YtaoahghfmlegbaaSl
import Derived.Test.YtaoahghfmlegbaaI1
namespace Go.Proofs.Ytaoahghfmlegbaa
open Go.RowKit Go.Lib

/-- the cells of a rule, and a rule as a value -/
def ruC (r : Ru) : List Value := [.bool r.1, .int .i64 r.2.1.1, .int .i64 r.2.1.2, .int .i64 r.2.2.1.1, .int .i64 r.2.2.1.2, .int .i64 r.2.2.2]
abbrev ruV (r : Ru) : Value := .agg #[.bool r.1, .int .i64 r.2.1.1, .int .i64 r.2.1.2, .int .i64 r.2.2.1.1, .int .i64 r.2.2.1.2, .int .i64 r.2.2.2]
abbrev pkV (p : Pk) : Value := .agg #[.int .i64 p.1, .int .i64 p.2.1, .int .i64 p.2.2]
def flatR (L : List Ru) : List Value := L.flatMap ruC
theorem flatR_nil : flatR [] = [] := rfl
theorem flatR_cons (r : Ru) (L : List Ru) : flatR (r :: L) = ruC r ++ flatR L := rfl
theorem flatR_app (L M : List Ru) : flatR (L ++ M) = flatR L ++ flatR M := by simp [flatR]
theorem ruC_len (r : Ru) : (ruC r).length = 6 := rfl
theorem flatR_len : ∀ L : List Ru, (flatR L).length = L.length * 6
  | [] => rfl
  | r :: L => by rw [flatR_cons, List.length_append, flatR_len L, ruC_len]; simp; omega
theorem flatR_at : ∀ (L : List Ru) (i : Nat) (r : Ru), L[i]? = some r → ∀ j, j < 6 → (flatR L)[i * 6 + j]? = (ruC r)[j]?
  | [], i, r, h => by simp at h
  | p :: L, 0, r, h => by
    simp at h; subst h
    intro j hj
    rw [flatR_cons, Nat.zero_mul, Nat.zero_add, List.getElem?_append_left (by rw [ruC_len]; exact hj)]
  | p :: L, i + 1, r, h => by
    intro j hj
    have := flatR_at L i r (by simpa using h) j hj
    rw [flatR_cons, List.getElem?_append_right (by rw [ruC_len]; omega), ruC_len, ← this]
    congr 1
    omega
/-- a rule's six cells -/
def At6 (w : World) (g o : Nat) (r : Ru) : Prop :=
  w.cell? ⟨g, o, none⟩ = some (.bool r.1) ∧ w.cell? ⟨g, o + 1, none⟩ = some (.int .i64 r.2.1.1) ∧ w.cell? ⟨g, o + 2, none⟩ = some (.int .i64 r.2.1.2) ∧
  w.cell? ⟨g, o + 3, none⟩ = some (.int .i64 r.2.2.1.1) ∧ w.cell? ⟨g, o + 4, none⟩ = some (.int .i64 r.2.2.1.2) ∧ w.cell? ⟨g, o + 5, none⟩ = some (.int .i64 r.2.2.2)
theorem At6.same {w w' : World} {g o : Nat} {r : Ru} (h : At6 w g o r) (hc : ∀ j, w'.cell? ⟨g, j, none⟩ = w.cell? ⟨g, j, none⟩) : At6 w' g o r := by
  unfold At6 at *
  simp only [hc]
  exact h
theorem At6.below {w w' : World} {g o : Nat} {r : Ru} (h : At6 w g o r) (hg : g < w.heap.size) (hb : Below w.heap.size w w') : At6 w' g o r :=
  h.same fun j => hb.cell (p := ⟨g, j, none⟩) hg
/-- a list of rules that lies in a row of its own, from the block b on -/
def RowR (w : World) (b : Nat) (v : Value) (L : List Ru) : Prop := w.ownsRow b 48 6 v L.length (flatR L)
/-- a list of rules that can be read -/
def RdR (w : World) (v : Value) (L : List Ru) : Prop :=
  (v = .slice none 0 0 ∧ L = []) ∨ ∃ g cap, v = .slice (some ⟨g, 0, none⟩) L.length cap ∧ L.length ≤ cap ∧ g < w.heap.size ∧ ∀ i r, L[i]? = some r → At6 w g (i * 6) r
/-- the block in which a list lies is another one than b -/
def offB (v : Value) (b : Nat) : Prop := ∀ g o n c, v = .slice (some ⟨g, o, none⟩) n c → g ≠ b
theorem RdR.keep {w w' : World} {v : Value} {L : List Ru} (h : RdR w v L) (hs : w.heap.size ≤ w'.heap.size) (hc : ∀ g j, offB v g ∨ (g < w.heap.size → w'.cell? ⟨g, j, none⟩ = w.cell? ⟨g, j, none⟩)) : RdR w' v L := by
  rcases h with h | ⟨g, cap, hv, hl, hg, hcs⟩
  · exact .inl h
  · refine .inr ⟨g, cap, hv, hl, Nat.lt_of_lt_of_le hg hs, fun i r hr => (hcs i r hr).same fun j => ?_⟩
    rcases hc g j with h | h
    · exact absurd rfl (h g 0 _ _ hv)
    · exact h hg
theorem RdR.below {w w' : World} {v : Value} {L : List Ru} (h : RdR w v L) (hb : Below w.heap.size w w') : RdR w' v L :=
  h.keep hb.size fun g j => .inr fun hg => hb.cell (p := ⟨g, j, none⟩) hg
theorem RdR.form {w : World} {v : Value} {L : List Ru} (h : RdR w v L) : ∃ p cap, v = .slice p L.length cap := by
  rcases h with ⟨hv, hn⟩ | ⟨g, cap, h1, _⟩
  · exact ⟨none, 0, by rw [hn]; exact hv⟩
  · exact ⟨_, _, h1⟩
theorem RdR.at {w : World} {p : Option Addr} {n cap : Nat} {L : List Ru} (h : RdR w (.slice p n cap) L) {i : Nat} (hi : i < L.length) :
    ∃ g, p = some ⟨g, 0, none⟩ ∧ n ≤ cap ∧ g < w.heap.size ∧ At6 w g (i * 6) L[i] := by
  rcases h with ⟨_, hn⟩ | ⟨g, cap', h1, hl, hg, hc⟩
  · subst hn; simp at hi
  · cases h1
    exact ⟨g, rfl, hl, hg, hc i L[i] (List.getElem?_eq_getElem hi)⟩
theorem RowR.rd {w : World} {b : Nat} {v : Value} {L : List Ru} (h : RowR w b v L) : RdR w v L := by
  rcases h.2 with ⟨hv, hn⟩ | ⟨g, cap, cur, rfl, hb, hh, hnc, hm, hs, ht⟩
  · exact .inl ⟨hv, List.length_eq_zero_iff.1 hn⟩
  · refine .inr ⟨g, cap, rfl, hnc, (Array.getElem?_eq_some_iff.1 hh).1, fun i r hr => ?_⟩
    have hi : i < L.length := (List.getElem?_eq_some_iff.1 hr).1
    have := flatR_at L i r hr
    have k : ∀ j, j < 6 → w.cell? ⟨g, i * 6 + j, none⟩ = (ruC r)[j]? := fun j hj => by
      rw [World.ownsRow.cellAt h (i * 6 + j) (by omega)]
      exact this j hj
    exact ⟨k 0 (by omega), k 1 (by omega), k 2 (by omega), k 3 (by omega), k 4 (by omega), k 5 (by omega)⟩
theorem RowR.below {w w' : World} {b : Nat} {v : Value} {L : List Ru} (h : RowR w b v L) (hb : Below w.heap.size w w') : RowR w' b v L := by
  refine World.ownsRow.kept (row := none) h ⟨hb.os, hb.tape, hb.output, hb.size, fun k hk _ => hb.block k hk⟩ ?_
  cases h : v.ownBlock with
  | none => exact .inl rfl
  | some g => exact .inr (by simp)
theorem RowR.mono {w : World} {b c : Nat} {v : Value} {L : List Ru} (h : RowR w b v L) (hc : c ≤ b) : RowR w c v L := by
  refine ⟨h.1, ?_⟩
  rcases h.2 with h2 | ⟨g, cap, cur, h1, h3, h4⟩
  · exact .inl h2
  · exact .inr ⟨g, cap, cur, h1, Nat.le_trans hc h3, h4⟩
theorem RowR.nil (w : World) (b : Nat) : RowR w b (.slice none 0 0) [] := World.ownsRow_nil _ _ _ _

theorem new_lt {w w1 : World} {o : Obj} (hb : Below (w.alloc o).heap.size (w.alloc o) w1) : w.heap.size < w1.heap.size := by
  have := hb.size
  simp at this
  omega
set_option maxRecDepth 100000 in
set_option maxHeartbeats 1000000 in
theorem iruok_any (p : Bool) (a l b m k : Int) (w : World) :
    Calls Try.prog 78 #[ruV (p, (a, l), (b, m), k)] w fun e w' => e = .returned (.bool (okR (p, (a, l), (b, m), k))) ∧ Below w.heap.size w w' := by
  have HO : Hid (okR (p, (a, l), (b, m), k) = (okP a l && (okP b m && inB k 0 7))) := rfl
  cases h1 : okP a l with
  | false =>
    rw [h1] at HO
    have HB : Below w.heap.size w w := Below.refl _ _
    go_enter Try.func78, Try.ntmps78
    go_wp2_with (go_at_call 51; refine (iok_any _ _ _).mono ?_; rintro e w1 ⟨rfl, hb⟩; obtain ⟨hc, hf⟩ := bcell hb)
    go_ret
    exact ⟨ret_bool HO.out.symm, below_then (HB.more _) hb⟩
  | true =>
    rw [h1] at HO
    have HB : Below w.heap.size w w := Below.refl _ _
    cases h2 : okP b m with
    | false =>
      rw [h2] at HO
      go_enter Try.func78, Try.ntmps78
      go_wp2_with (go_at_call 51; refine (iok_any _ _ _).mono ?_; rintro e w1 ⟨rfl, hb⟩; obtain ⟨hc, hf⟩ := bcell hb; first | (replace HB := below_then (HB.more _) hb; have hsz := new_lt hb) | (replace HB := below_then HB hb))
      go_ret
      exact ⟨ret_bool HO.out.symm, HB⟩
    | true =>
      rw [h2] at HO
      by_cases k1 : 0 ≤ k
      · by_cases k2 : k ≤ 7
        · have HO2 : Hid (okR (p, (a, l), (b, m), k) = true) := HO.out.trans (by rw [inB_yes ⟨k1, k2⟩]; rfl)
          go_enter Try.func78, Try.ntmps78
          go_wp2_with (go_at_call 51; refine (iok_any _ _ _).mono ?_; rintro e w1 ⟨rfl, hb⟩; obtain ⟨hc, hf⟩ := bcell hb; first | (replace HB := below_then (HB.more _) hb; have hsz := new_lt hb) | (replace HB := below_then HB hb))
          go_ret
          exact ⟨ret_bool HO2.out.symm, HB⟩
        · have HO2 : Hid (okR (p, (a, l), (b, m), k) = false) := HO.out.trans (by rw [inB_no (by omega)]; rfl)
          have hd : decide (k ≤ 7) = false := decide_eq_false k2
          go_enter Try.func78, Try.ntmps78
          go_wp2_with (go_at_call 51; refine (iok_any _ _ _).mono ?_; rintro e w1 ⟨rfl, hb⟩; obtain ⟨hc, hf⟩ := bcell hb; first | (replace HB := below_then (HB.more _) hb; have hsz := new_lt hb) | (replace HB := below_then HB hb))
          go_ret
          exact ⟨ret_bool HO2.out.symm, HB⟩
      · have HO2 : Hid (okR (p, (a, l), (b, m), k) = false) := HO.out.trans (by rw [inB_no (by omega)]; rfl)
        have hd : decide (k ≥ 0) = false := decide_eq_false k1
        go_enter Try.func78, Try.ntmps78
        go_wp2_with (go_at_call 51; refine (iok_any _ _ _).mono ?_; rintro e w1 ⟨rfl, hb⟩; obtain ⟨hc, hf⟩ := bcell hb; first | (replace HB := below_then (HB.more _) hb; have hsz := new_lt hb) | (replace HB := below_then HB hb))
        go_ret
        exact ⟨ret_bool HO2.out.symm, HB⟩
end Go.Proofs.Ytaoahghfmlegbaa
