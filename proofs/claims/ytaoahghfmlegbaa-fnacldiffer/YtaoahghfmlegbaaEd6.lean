/- What a call may turn; the numbers of a part; which edges rules have. -/
import Derived.Test.YtaoahghfmlegbaaEd5
import Derived.Test.YtaoahghfmlegbaaSp5
namespace Go.Proofs.Ytaoahghfmlegbaa
open Go.RowKit Go.Lib Go.Maps

/-- a call turns, of what lay there, some blocks alone, and their first cells not -/
def KeepZ (Z : Nat → Prop) (W W' : World) : Prop :=
  W.heap.size ≤ W'.heap.size ∧ (∀ k j, k < W.heap.size → ¬ Z k → W'.cell? ⟨k, j, none⟩ = W.cell? ⟨k, j, none⟩ ∧ W'.frozen? ⟨k, j, none⟩ = W.frozen? ⟨k, j, none⟩) ∧ (∀ w : World, (∀ k, Z k → w.heap.size ≤ k) → Below w.heap.size w W → Below w.heap.size w W') ∧ ∀ k, k < W.heap.size → W'.cell? ⟨k, 0, none⟩ = W.cell? ⟨k, 0, none⟩
theorem KeepZ.trans {Z : Nat → Prop} {a b c : World} (h : KeepZ Z a b) (k : KeepZ Z b c) : KeepZ Z a c := by
  refine ⟨Nat.le_trans h.1 k.1, fun i j hi hz => ?_, fun w hz hb => k.2.2.1 w hz (h.2.2.1 w hz hb), fun i hi => (k.2.2.2 i (Nat.lt_of_lt_of_le hi h.1)).trans (h.2.2.2 i hi)⟩
  have h1 := h.2.1 i j hi hz
  have h2 := k.2.1 i j (Nat.lt_of_lt_of_le hi h.1) hz
  exact ⟨h2.1.trans h1.1, h2.2.trans h1.2⟩
theorem KeepZ.of_below {Z : Nat → Prop} {a b : World} (h : Below a.heap.size a b) : KeepZ Z a b :=
  ⟨h.size, fun i j hi _ => ⟨h.cell (p := ⟨i, j, none⟩) hi, h.frozen (p := ⟨i, j, none⟩) hi⟩, fun _ _ hb => below_then hb h, fun i hi => h.cell (p := ⟨i, 0, none⟩) hi⟩
theorem KeepZ.of_grown {Z : Nat → Prop} {a b : World} {x : Nat} (h : a.grownBy b (some x)) (hx : Z x) (h0 : b.cell? ⟨x, 0, none⟩ = a.cell? ⟨x, 0, none⟩) : KeepZ Z a b :=
  ⟨h.size, fun i j hi hz => ⟨h.cell_far ⟨i, j, none⟩ hi (fun e => hz (by cases e; exact hx)), h.frozen_far ⟨i, j, none⟩ hi (fun e => hz (by cases e; exact hx))⟩, fun w hz hb => hb.grown h hb.size (fun k e => by cases e; exact hz _ hx), fun i hi => by
    by_cases e : i = x
    · subst e; exact h0
    · exact h.cell_far ⟨i, 0, none⟩ hi (by simpa using e)⟩
theorem KeepZ.refl (Z : Nat → Prop) (a : World) : KeepZ Z a a := .of_below (Below.refl _ _)
/-- three cells of a new block stored -/
theorem KeepZ.set3' {Z : Nat → Prop} {w W : World} {n : Nat} (h : KeepZ Z w W) (hn : w.heap.size ≤ n) (x y z : Value) : KeepZ Z w (((W.setCell ⟨n, 0, none⟩ x).setCell ⟨n, 1, none⟩ y).setCell ⟨n, 2, none⟩ z) := by
  have hg : W.grownBy (((W.setCell ⟨n, 0, none⟩ x).setCell ⟨n, 1, none⟩ y).setCell ⟨n, 2, none⟩ z) (some n) := ((grown_set _ _ _ _).trans (grown_set _ _ _ _)).trans (grown_set _ _ _ _)
  have hne : ∀ i, i < w.heap.size → some i ≠ some n := fun i hi e => by cases e; omega
  refine ⟨Nat.le_trans h.1 hg.size, fun i j hi hz => ?_, fun v hz hb => ?_, fun i hi => ?_⟩
  · have h1 := h.2.1 i j hi hz
    exact ⟨(hg.cell_far ⟨i, j, none⟩ (Nat.lt_of_lt_of_le hi h.1) (hne i hi)).trans h1.1, (hg.frozen_far ⟨i, j, none⟩ (Nat.lt_of_lt_of_le hi h.1) (hne i hi)).trans h1.2⟩
  · exact (h.2.2.1 v hz hb).grown hg (h.2.2.1 v hz hb).size (fun k e => by cases e; exact Nat.le_trans hb.size hn)
  · exact (hg.cell_far ⟨i, 0, none⟩ (Nat.lt_of_lt_of_le hi h.1) (hne i hi)).trans (h.2.2.2 i hi)
theorem KeepZ.set3 {Z : Nat → Prop} {w W : World} (h : KeepZ Z w W) (x y z : Value) : KeepZ Z w (((W.setCell ⟨w.heap.size, 0, none⟩ x).setCell ⟨w.heap.size, 1, none⟩ y).setCell ⟨w.heap.size, 2, none⟩ z) := h.set3' (Nat.le_refl _) x y z
/-- new numbers are kept -/
theorem RowI.keepZ {Z : Nat → Prop} {a b : World} {n : Nat} {v : Value} {E : List Int} (h : RowI a n v E) (k : KeepZ Z a b) (hz : ∀ x, Z x → x < n) : RdI b v E := by
  rcases h.2 with ⟨hv, hn⟩ | ⟨g, cap, cur, rfl, hb, hh, hnc, hm, hs, ht⟩
  · exact .inl ⟨hv, List.length_eq_zero_iff.1 hn⟩
  · have hgl := (Array.getElem?_eq_some_iff.1 hh).1
    refine .inr ⟨g, cap, rfl, hnc, Nat.lt_of_lt_of_le hgl k.1, fun i x hx => ?_⟩
    have hi : i < E.length := (List.getElem?_eq_some_iff.1 hx).1
    rw [(k.2.1 g i hgl (fun hzg => by have := hz g hzg; omega)).1, World.ownsRow.cellAt h i (by omega)]
    simp [intC, hx]
/-- the numbers of a part, ascending -/
def IsPart (E : List (Int × Int)) (p : Int) (F : List Int) : Prop := F.Pairwise (· < ·) ∧ ∀ x, x ∈ F ↔ i64ok x ∧ (p, x) ∈ E
theorem mem_addE {E : List (Int × Int)} {p a q c : Int} : (q, c) ∈ addE E p a ↔ (q, c) ∈ E ∨ (q = p ∧ c = a ∧ a ≤ mostP p) := by
  unfold addE
  split
  · rename_i h
    simp only [List.mem_cons, Prod.mk.injEq]
    constructor
    · rintro (⟨rfl, rfl⟩ | h')
      · exact .inr ⟨rfl, rfl, h⟩
      · exact .inl h'
    · rintro (h' | ⟨rfl, rfl, _⟩)
      · exact .inr h'
      · exact .inl ⟨rfl, rfl⟩
  · rename_i h
    constructor
    · exact .inl
    · rintro (h' | ⟨_, _, h''⟩)
      · exact h'
      · exact absurd h'' h
/-- an edge that a rule has -/
def hasE (r : Ru) (q c : Int) : Prop := (q = 0 ∧ (c = r.2.1.1 ∨ c = r.2.1.1 + sz r.2.1.2) ∧ c ≤ 65535) ∨ (q = 1 ∧ (c = r.2.2.1.1 ∨ c = r.2.2.1.1 + sz r.2.2.1.2) ∧ c ≤ 65535) ∨ (q = 2 ∧ r.2.2.2 ≠ 0 ∧ (c = r.2.2.2 ∨ c = r.2.2.2 + 1) ∧ c ≤ 7)
theorem mem_ruleE (E : List (Int × Int)) (r : Ru) (q c : Int) : (q, c) ∈ ruleE E r ↔ (q, c) ∈ E ∨ hasE r q c := by
  unfold hasE
  unfold ruleE
  by_cases hk : r.2.2.2 = 0
  · simp only [hk, if_true, mem_addE, mostP]
    simp only [show ((0 : Int) = 2) = False by simp, show ((1 : Int) = 2) = False by simp, if_false]
    constructor
    · rintro ((((h | ⟨rfl, rfl, h⟩) | ⟨rfl, rfl, h⟩) | ⟨rfl, rfl, h⟩) | ⟨rfl, rfl, h⟩)
      · exact .inl h
      · exact .inr (.inl ⟨rfl, .inl rfl, h⟩)
      · exact .inr (.inl ⟨rfl, .inr rfl, h⟩)
      · exact .inr (.inr (.inl ⟨rfl, .inl rfl, h⟩))
      · exact .inr (.inr (.inl ⟨rfl, .inr rfl, h⟩))
    · rintro (h | ⟨rfl, rfl | rfl, h⟩ | ⟨rfl, rfl | rfl, h⟩ | ⟨_, h, _⟩)
      · exact .inl (.inl (.inl (.inl h)))
      · exact .inl (.inl (.inl (.inr ⟨rfl, rfl, h⟩)))
      · exact .inl (.inl (.inr ⟨rfl, rfl, h⟩))
      · exact .inl (.inr ⟨rfl, rfl, h⟩)
      · exact .inr ⟨rfl, rfl, h⟩
      · exact absurd rfl h
  · simp only [hk, if_false, mem_addE, mostP]
    simp only [show ((0 : Int) = 2) = False by simp, show ((1 : Int) = 2) = False by simp, if_false, if_true]
    constructor
    · rintro ((((((h | ⟨rfl, rfl, h⟩) | ⟨rfl, rfl, h⟩) | ⟨rfl, rfl, h⟩) | ⟨rfl, rfl, h⟩) | ⟨rfl, rfl, h⟩) | ⟨rfl, rfl, h⟩)
      · exact .inl h
      · exact .inr (.inl ⟨rfl, .inl rfl, h⟩)
      · exact .inr (.inl ⟨rfl, .inr rfl, h⟩)
      · exact .inr (.inr (.inl ⟨rfl, .inl rfl, h⟩))
      · exact .inr (.inr (.inl ⟨rfl, .inr rfl, h⟩))
      · exact .inr (.inr (.inr ⟨rfl, hk, .inl rfl, h⟩))
      · exact .inr (.inr (.inr ⟨rfl, hk, .inr rfl, h⟩))
    · rintro (h | ⟨rfl, rfl | rfl, h⟩ | ⟨rfl, rfl | rfl, h⟩ | ⟨rfl, _, rfl | rfl, h⟩)
      · exact .inl (.inl (.inl (.inl (.inl (.inl h)))))
      · exact .inl (.inl (.inl (.inl (.inl (.inr ⟨rfl, rfl, h⟩)))))
      · exact .inl (.inl (.inl (.inl (.inr ⟨rfl, rfl, h⟩))))
      · exact .inl (.inl (.inl (.inr ⟨rfl, rfl, h⟩)))
      · exact .inl (.inl (.inr ⟨rfl, rfl, h⟩))
      · exact .inl (.inr ⟨rfl, rfl, h⟩)
      · exact .inr ⟨rfl, rfl, h⟩
theorem mem_foldE : ∀ (L : List Ru) (E : List (Int × Int)) (q c : Int), (q, c) ∈ L.foldl ruleE E ↔ (q, c) ∈ E ∨ ∃ r ∈ L, hasE r q c
  | [], E, q, c => by simp
  | r :: L, E, q, c => by
    rw [List.foldl_cons, mem_foldE L, mem_ruleE]
    constructor
    · rintro ((h | h) | ⟨r', hr', h⟩)
      · exact .inl h
      · exact .inr ⟨r, by simp, h⟩
      · exact .inr ⟨r', by simp [hr'], h⟩
    · rintro (h | ⟨r', hr', h⟩)
      · exact .inl (.inl h)
      · rcases List.mem_cons.1 hr' with rfl | hr'
        · exact .inl (.inr h)
        · exact .inr ⟨r', hr', h⟩
theorem mem_rulesE (L : List Ru) (q c : Int) : (q, c) ∈ rulesE L ↔ (q, c) ∈ E0 ∨ ∃ r ∈ L, hasE r q c := mem_foldE L E0 q c
theorem i64_mid {x : Int} (h : 0 ≤ x ∧ x ≤ 65535) : i64ok x := i64_of (by omega) (by omega)
theorem rulesE_bd {L : List Ru} (hok : ∀ r ∈ L, okR r = true) {p a : Int} (h : (p, a) ∈ rulesE L) : 0 ≤ a ∧ a ≤ 65535 := by
  rcases (mem_rulesE L p a).1 h with h | ⟨r, hr, h⟩
  · simp [E0] at h
    omega
  · obtain ⟨o1, o2, k0, k7⟩ := okR_of (hok r hr)
    have p1 := okP_of o1
    have p2 := okP_of o2
    have z1 := sz_bd r.2.1.2 p1.1
    have z2 := sz_bd r.2.2.1.2 p2.1
    rcases h with ⟨_, h | h, _⟩ | ⟨_, h | h, _⟩ | ⟨_, _, h | h, _⟩ <;> omega
theorem partF {L : List Ru} (hok : ∀ r ∈ L, okR r = true) {F : List Int} (h : IsPart (rulesE L) 0 F) : Cov F 0 65535 (edF L) := by
  refine cov_of ((h.2 0).2 ⟨i64_mid (by omega), (mem_rulesE L _ _).2 (.inl (by simp [E0]))⟩) (fun e he => rulesE_bd hok ((h.2 e).1 he).2) (fun b hb h0 h1 => (h.2 b).2 ⟨i64_mid ⟨h0, h1⟩, (mem_rulesE L _ _).2 (.inr ?_)⟩)
  obtain ⟨r, hr, hb⟩ := List.mem_flatMap.1 hb
  simp at hb
  exact ⟨r, hr, .inl ⟨rfl, hb, h1⟩⟩
theorem partT {L : List Ru} (hok : ∀ r ∈ L, okR r = true) {F : List Int} (h : IsPart (rulesE L) 1 F) : Cov F 0 65535 (edT L) := by
  refine cov_of ((h.2 0).2 ⟨i64_mid (by omega), (mem_rulesE L _ _).2 (.inl (by simp [E0]))⟩) (fun e he => rulesE_bd hok ((h.2 e).1 he).2) (fun b hb h0 h1 => (h.2 b).2 ⟨i64_mid ⟨h0, h1⟩, (mem_rulesE L _ _).2 (.inr ?_)⟩)
  obtain ⟨r, hr, hb⟩ := List.mem_flatMap.1 hb
  simp at hb
  exact ⟨r, hr, .inr (.inl ⟨rfl, hb, h1⟩)⟩
theorem partK {L : List Ru} (hok : ∀ r ∈ L, okR r = true) {F : List Int} (h : IsPart (rulesE L) 2 F) : Cov F 1 7 (edK L) := by
  refine cov_of ((h.2 1).2 ⟨i64_mid (by omega), (mem_rulesE L _ _).2 (.inl (by simp [E0]))⟩) (fun e he => ?_) (fun b hb h0 h1 => (h.2 b).2 ⟨i64_mid (by omega), (mem_rulesE L _ _).2 (.inr ?_)⟩)
  · rcases (mem_rulesE L _ _).1 ((h.2 e).1 he).2 with h | ⟨r, hr, h⟩
    · simp [E0] at h
      omega
    · obtain ⟨_, _, k0, k7⟩ := okR_of (hok r hr)
      rcases h with ⟨h, _⟩ | ⟨h, _⟩ | ⟨_, hk, h | h, h7⟩
      · omega
      · omega
      · omega
      · omega
  · obtain ⟨r, hr, hb⟩ := List.mem_flatMap.1 hb
    by_cases hk : r.2.2.2 = 0
    · rw [if_pos hk] at hb; simp at hb
    · rw [if_neg hk] at hb
      simp at hb
      exact ⟨r, hr, .inr (.inr ⟨rfl, hk, hb, h1⟩)⟩
end Go.Proofs.Ytaoahghfmlegbaa
