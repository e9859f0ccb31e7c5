/- The program's trie in memory: a node is two cells, its halves a block of four. -/
import Derived.Test.YtaoahghfmlegbabTrie
import Derived.Test.YtaoahghfmlegbabI1
namespace Go.Proofs.Ytaoahghfmlegbab
open Go.RowKit Go.Lib

/-- two cells of a block, which may be written -/
def Two (w : World) (B o : Nat) (x y : Value) : Prop :=
  w.cell? ⟨B, o, none⟩ = some x ∧ w.cell? ⟨B, o + 1, none⟩ = some y ∧ w.frozen? ⟨B, o, none⟩ = false ∧ w.frozen? ⟨B, o + 1, none⟩ = false
/-- the trie t lies at ⟨B, o⟩, its other cells in the blocks fp, each block once -/
def Tri (w : World) : Nat → Nat → Tr → List Nat → Prop
  | B, o, .leaf v, fp => fp = [] ∧ Two w B o (.bool v) (.pointer none)
  | B, o, .node x y, fp => ∃ (H : Nat) (f1 f2 : List Nat) (u : Bool), fp = H :: (f1 ++ f2) ∧ (H ∉ f1 ∧ H ∉ f2 ∧ ∀ b ∈ f1, b ∉ f2) ∧ Two w B o (.bool u) (.pointer (some ⟨H, 0, none⟩)) ∧ Tri w H 0 x f1 ∧ Tri w H 2 y f2

/-- of one block nothing has turned -/
def SameB (w w' : World) (b : Nat) : Prop := ∀ o, w'.cell? ⟨b, o, none⟩ = w.cell? ⟨b, o, none⟩ ∧ w'.frozen? ⟨b, o, none⟩ = w.frozen? ⟨b, o, none⟩
theorem Two.keep {w w' : World} {B o : Nat} {x y : Value} (h : Two w B o x y) (h0 : w'.cell? ⟨B, o, none⟩ = w.cell? ⟨B, o, none⟩ ∧ w'.frozen? ⟨B, o, none⟩ = w.frozen? ⟨B, o, none⟩) (h1 : w'.cell? ⟨B, o + 1, none⟩ = w.cell? ⟨B, o + 1, none⟩ ∧ w'.frozen? ⟨B, o + 1, none⟩ = w.frozen? ⟨B, o + 1, none⟩) : Two w' B o x y :=
  ⟨h0.1.trans h.1, h1.1.trans h.2.1, h0.2.trans h.2.2.1, h1.2.trans h.2.2.2⟩
theorem Tri.keep {w w' : World} : ∀ {t : Tr} {B o : Nat} {fp : List Nat}, Tri w B o t fp → (w'.cell? ⟨B, o, none⟩ = w.cell? ⟨B, o, none⟩ ∧ w'.frozen? ⟨B, o, none⟩ = w.frozen? ⟨B, o, none⟩) → (w'.cell? ⟨B, o + 1, none⟩ = w.cell? ⟨B, o + 1, none⟩ ∧ w'.frozen? ⟨B, o + 1, none⟩ = w.frozen? ⟨B, o + 1, none⟩) →
    (∀ b ∈ fp, SameB w w' b) → Tri w' B o t fp
  | .leaf _, _, _, _, ⟨h1, h2⟩, k0, k1, _ => ⟨h1, h2.keep k0 k1⟩
  | .node x y, _, _, _, ⟨H, f1, f2, u, e, hd, h2, hx, hy⟩, k0, k1, hk => by
    subst e
    have hH : SameB w w' H := hk H (by simp)
    exact ⟨H, f1, f2, u, rfl, hd, h2.keep k0 k1, Tri.keep hx (hH 0) (hH 1) (fun b hb => hk b (by simp [hb])), Tri.keep hy (hH 2) (hH 3) (fun b hb => hk b (by simp [hb]))⟩
theorem Two.lt {w : World} {B o : Nat} {x y : Value} (h : Two w B o x y) : B < w.heap.size := cell_lt h.1
theorem Tri.lt {w : World} : ∀ {t : Tr} {B o : Nat} {fp : List Nat}, Tri w B o t fp → B < w.heap.size ∧ ∀ b ∈ fp, b < w.heap.size
  | .leaf _, _, _, _, ⟨h1, h2⟩ => ⟨h2.lt, by simp [h1]⟩
  | .node x y, _, _, _, ⟨H, f1, f2, u, e, hd, h2, hx, hy⟩ => by
    subst e
    refine ⟨h2.lt, fun b hb => ?_⟩
    simp only [List.mem_cons, List.mem_append] at hb
    rcases hb with rfl | hb | hb
    · exact (Tri.lt hx).1
    · exact (Tri.lt hx).2 b hb
    · exact (Tri.lt hy).2 b hb
theorem below_same {w w' : World} {b : Nat} (hb : Below w.heap.size w w') (h : b < w.heap.size) : SameB w w' b := fun o => ⟨hb.cell (p := ⟨b, o, none⟩) h, hb.frozen (p := ⟨b, o, none⟩) h⟩
theorem Tri.below {w w' : World} {t : Tr} {B o : Nat} {fp : List Nat} (h : Tri w B o t fp) (hb : Below w.heap.size w w') : Tri w' B o t fp :=
  have hl := Tri.lt h
  Tri.keep h (below_same hb hl.1 o) (below_same hb hl.1 (o + 1)) (fun b k => below_same hb (hl.2 b k))
theorem Two.below {w w' : World} {B o : Nat} {x y : Value} (h : Two w B o x y) (hb : Below w.heap.size w w') : Two w' B o x y :=
  h.keep (below_same hb h.lt o) (below_same hb h.lt (o + 1))

/-- what a call that writes at ⟨B, o⟩ and in the blocks fp leaves as it was -/
def Kept (n : Nat) (w w' : World) (B o : Nat) (fp : List Nat) : Prop :=
  Below n w w' ∧ ∀ b i, b < w.heap.size → b ∉ fp → ¬ (b = B ∧ (i = o ∨ i = o + 1)) → w'.cell? ⟨b, i, none⟩ = w.cell? ⟨b, i, none⟩ ∧ w'.frozen? ⟨b, i, none⟩ = w.frozen? ⟨b, i, none⟩
theorem Kept.same {n : Nat} {w w' : World} {B o : Nat} {fp : List Nat} (h : Kept n w w' B o fp) {b : Nat} (hb : b < w.heap.size) (hf : b ∉ fp) (hB : b ≠ B) : SameB w w' b := fun i => h.2 b i hb hf (fun e => hB e.1)
theorem kept_of_below {n : Nat} {w w' : World} {B o : Nat} {fp : List Nat} (h : Below w.heap.size w w') (hn : n ≤ w.heap.size) : Kept n w w' B o fp := ⟨h.mono hn, fun _ _ hb _ _ => ⟨h.cell hb, h.frozen hb⟩⟩
theorem Kept.then {n : Nat} {w w1 w2 : World} {B o : Nat} {fp fq : List Nat} (h : Kept n w w1 B o fp) (k : Kept n w1 w2 B o fq) (hf : ∀ b ∈ fq, b ∈ fp ∨ w.heap.size ≤ b) : Kept n w w2 B o fp := by
  refine ⟨h.1.trans k.1, fun b i hb hn ho => ?_⟩
  have h1 := h.2 b i hb hn ho
  have h2 := k.2 b i (Nat.lt_of_lt_of_le hb h.1.size) (fun e => (hf b e).elim hn (fun e => by omega)) ho
  exact ⟨h2.1.trans h1.1, h2.2.trans h1.2⟩

theorem cell_other {w : World} {a b : Addr} {v : Value} (h : a ≠ b) : (w.setCell a v).cell? b = w.cell? b := World.cell?_setCell_other _ _ _ _ h
/-- two cells written -/
theorem set2_cell (w : World) (B o : Nat) (x y : Value) (b i : Nat) (h : ¬ (b = B ∧ (i = o ∨ i = o + 1))) :
    ((w.setCell ⟨B, o, none⟩ x).setCell ⟨B, o + 1, none⟩ y).cell? ⟨b, i, none⟩ = w.cell? ⟨b, i, none⟩ ∧ ((w.setCell ⟨B, o, none⟩ x).setCell ⟨B, o + 1, none⟩ y).frozen? ⟨b, i, none⟩ = w.frozen? ⟨b, i, none⟩ := by
  refine ⟨?_, by rw [World.frozen?_setCell, World.frozen?_setCell]⟩
  rw [cell_other (fun e => h (by cases e; exact ⟨rfl, .inr rfl⟩)), cell_other (fun e => h (by cases e; exact ⟨rfl, .inl rfl⟩))]
theorem set2_two {w : World} {B o : Nat} {x y : Value} (h : Two w B o x y) (x' y' : Value) : Two ((w.setCell ⟨B, o, none⟩ x').setCell ⟨B, o + 1, none⟩ y') B o x' y' := by
  refine ⟨?_, ?_, ?_, ?_⟩
  · rw [cell_other (fun e => by cases e), World.cell?_setCell_same' _ _ _ (by rw [h.1]; rfl)]
  · rw [World.cell?_setCell_same' _ _ _ (by rw [cell_other (fun e => by cases e), h.2.1]; rfl)]
  · rw [World.frozen?_setCell, World.frozen?_setCell]; exact h.2.2.1
  · rw [World.frozen?_setCell, World.frozen?_setCell]; exact h.2.2.2
end Go.Proofs.Ytaoahghfmlegbab
