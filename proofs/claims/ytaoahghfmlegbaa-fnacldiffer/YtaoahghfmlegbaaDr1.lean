/- The draws of rules: l5Rules. -/
import Derived.Test.YtaoahghfmlegbaaDraw8
import Derived.Test.YtaoahghfmlegbaaSp5
namespace Go.Proofs.Ytaoahghfmlegbaa
open Go.RowKit Go.Lib

/-- a rule in a box of its own, at the block K -/
def B6 (W : World) (K : Nat) (r : Ru) : Prop :=
  (W.cell? ⟨K, 0, none⟩ = some (.bool r.1) ∧ W.cell? ⟨K, 1, none⟩ = some (.int .i64 r.2.1.1) ∧ W.cell? ⟨K, 2, none⟩ = some (.int .i64 r.2.1.2) ∧
  W.cell? ⟨K, 3, none⟩ = some (.int .i64 r.2.2.1.1) ∧ W.cell? ⟨K, 4, none⟩ = some (.int .i64 r.2.2.1.2) ∧ W.cell? ⟨K, 5, none⟩ = some (.int .i64 r.2.2.2)) ∧ ∀ j, W.frozen? ⟨K, j, none⟩ = false
theorem B6.same {w W : World} {K : Nat} {r : Ru} (h : B6 w K r) (hb : W.heap[K]? = w.heap[K]?) : B6 W K r := by
  have c : ∀ j, W.cell? ⟨K, j, none⟩ = w.cell? ⟨K, j, none⟩ := fun j => World.cell?_of_block hb
  have f : ∀ j, W.frozen? ⟨K, j, none⟩ = w.frozen? ⟨K, j, none⟩ := fun j => World.frozen?_of_block hb
  unfold B6 at *
  simp only [c, f]
  exact h
theorem B6.lt {w : World} {K : Nat} {r : Ru} (h : B6 w K r) : K < w.heap.size := cell_lt h.1.1
theorem B6.grown {w W : World} {R K : Nat} {r : Ru} (h : B6 w K r) (hg : w.grownBy W (some R)) (hK : K ≠ R) : B6 W K r := h.same (hg.block K h.lt (by simp [hK]))
theorem B6.below {w W : World} {K : Nat} {r : Ru} (h : B6 w K r) (hb : Below w.heap.size w W) : B6 W K r := h.same (hb.block K h.lt)
theorem B6.alloc {w : World} {K : Nat} {r : Ru} (h : B6 w K r) (o : Obj) : B6 (w.alloc o) K r := h.below ((Below.refl _ _).more _)
theorem B6.new (w : World) (b : Bool) (a l c m k : Int) (t : TypeId) : B6 (w.alloc (.cells #[.bool b, .int .i64 a, .int .i64 l, .int .i64 c, .int .i64 m, .int .i64 k] t)) w.heap.size (b, (a, l), (c, m), k) := ⟨by simp, fun j => fz_new _ _ _ _⟩
theorem B6.keep {W : World} {K K2 j : Nat} {r : Ru} (h : B6 W K2 r) (hK : K2 ≠ K) (u : Value) : B6 (W.setCell ⟨K, j, none⟩ u) K2 r := h.same (Below.heap_setCell _ _ _ _ (fun e => hK e))
theorem B6.from {W : World} {K : Nat} {b : Bool} {p q : Int × Int} {k : Int} (h : B6 W K (b, p, q, k)) (a l : Int) : B6 ((W.setCell ⟨K, 1, none⟩ (.int .i64 a)).setCell ⟨K, 2, none⟩ (.int .i64 l)) K (b, (a, l), q, k) := by
  obtain ⟨⟨c0, c1, c2, c3, c4, c5⟩, f⟩ := h
  refine ⟨?_, fun j => by rw [World.frozen?_setCell, World.frozen?_setCell]; exact f j⟩
  have e1 : (W.setCell ⟨K, 1, none⟩ (.int .i64 a)).cell? ⟨K, 1, none⟩ = some (.int .i64 a) := World.cell?_setCell_same' _ _ _ (by rw [c1]; rfl)
  have e2 : ((W.setCell ⟨K, 1, none⟩ (.int .i64 a)).setCell ⟨K, 2, none⟩ (.int .i64 l)).cell? ⟨K, 2, none⟩ = some (.int .i64 l) := World.cell?_setCell_same' _ _ _ (by rw [World.cell?_setCell_other _ _ _ _ (fun e => by cases e), c2]; rfl)
  refine ⟨?_, ?_, e2, ?_, ?_, ?_⟩
  · rw [World.cell?_setCell_other _ _ _ _ (fun e => by cases e), World.cell?_setCell_other _ _ _ _ (fun e => by cases e)]; exact c0
  · rw [World.cell?_setCell_other _ _ _ _ (fun e => by cases e)]; exact e1
  · rw [World.cell?_setCell_other _ _ _ _ (fun e => by cases e), World.cell?_setCell_other _ _ _ _ (fun e => by cases e)]; exact c3
  · rw [World.cell?_setCell_other _ _ _ _ (fun e => by cases e), World.cell?_setCell_other _ _ _ _ (fun e => by cases e)]; exact c4
  · rw [World.cell?_setCell_other _ _ _ _ (fun e => by cases e), World.cell?_setCell_other _ _ _ _ (fun e => by cases e)]; exact c5
theorem B6.to {W : World} {K : Nat} {b : Bool} {p q : Int × Int} {k : Int} (h : B6 W K (b, p, q, k)) (a l : Int) : B6 ((W.setCell ⟨K, 3, none⟩ (.int .i64 a)).setCell ⟨K, 4, none⟩ (.int .i64 l)) K (b, p, (a, l), k) := by
  obtain ⟨⟨c0, c1, c2, c3, c4, c5⟩, f⟩ := h
  refine ⟨?_, fun j => by rw [World.frozen?_setCell, World.frozen?_setCell]; exact f j⟩
  have e1 : (W.setCell ⟨K, 3, none⟩ (.int .i64 a)).cell? ⟨K, 3, none⟩ = some (.int .i64 a) := World.cell?_setCell_same' _ _ _ (by rw [c3]; rfl)
  have e2 : ((W.setCell ⟨K, 3, none⟩ (.int .i64 a)).setCell ⟨K, 4, none⟩ (.int .i64 l)).cell? ⟨K, 4, none⟩ = some (.int .i64 l) := World.cell?_setCell_same' _ _ _ (by rw [World.cell?_setCell_other _ _ _ _ (fun e => by cases e), c4]; rfl)
  refine ⟨?_, ?_, ?_, ?_, e2, ?_⟩
  · rw [World.cell?_setCell_other _ _ _ _ (fun e => by cases e), World.cell?_setCell_other _ _ _ _ (fun e => by cases e)]; exact c0
  · rw [World.cell?_setCell_other _ _ _ _ (fun e => by cases e), World.cell?_setCell_other _ _ _ _ (fun e => by cases e)]; exact c1
  · rw [World.cell?_setCell_other _ _ _ _ (fun e => by cases e), World.cell?_setCell_other _ _ _ _ (fun e => by cases e)]; exact c2
  · rw [World.cell?_setCell_other _ _ _ _ (fun e => by cases e)]; exact e1
  · rw [World.cell?_setCell_other _ _ _ _ (fun e => by cases e), World.cell?_setCell_other _ _ _ _ (fun e => by cases e)]; exact c5
theorem rowR_drew {W W' : World} {R b : Nat} {v : Value} {L : List Ru} (h : RowR W b v L) (hg : W.grownBy W' (some R)) (hR : R < b) : RowR W' b v L := by
  refine World.ownsRow.kept h hg ?_
  cases e : v.ownBlock with
  | none => exact .inl rfl
  | some k => refine .inr ?_; intro he; cases he; have := World.ownsRow.lt h R e; omega
theorem RowR.alloc {w : World} {b : Nat} {v : Value} {L : List Ru} (h : RowR w b v L) (o : Obj) : RowR (w.alloc o) b v L := World.ownsRow.alloc h o
theorem rowR_set {W : World} {b K j : Nat} {v : Value} {L : List Ru} (h : RowR W b v L) (hK : v.ownBlock ≠ some K) (u : Value) : RowR (W.setCell ⟨K, j, none⟩ u) b v L := by
  refine World.ownsRow.kept (row := some K) h ⟨rfl, rfl, rfl, by simp, fun k _ hk => Below.heap_setCell _ _ _ _ (fun e => hk (by simp [e]))⟩ ?_
  exact .inr hK
theorem cell_r6 (w : World) (b : Bool) (a l c m k : Int) (t : TypeId) : ∀ j u, [Value.bool b, .int .i64 a, .int .i64 l, .int .i64 c, .int .i64 m, .int .i64 k][j]? = some u → (w.alloc (.cells #[.bool b, .int .i64 a, .int .i64 l, .int .i64 c, .int .i64 m, .int .i64 k] t)).cell? ((⟨w.heap.size, 0, none⟩ : Addr).add j) = some u := by
  intro j u hj
  match j, hj with
  | 0, hj => simp at hj; subst hj; simp [Addr.add]
  | 1, hj => simp at hj; subst hj; simp [Addr.add]
  | 2, hj => simp at hj; subst hj; simp [Addr.add]
  | 3, hj => simp at hj; subst hj; simp [Addr.add]
  | 4, hj => simp at hj; subst hj; simp [Addr.add]
  | 5, hj => simp at hj; subst hj; simp [Addr.add]
  | j + 6, hj => simp at hj
theorem cell_r6' (w : World) (b : Bool) (a l c m k : Int) (t : TypeId) {g : Nat} (hg : g = w.heap.size) : ∀ j u, [Value.bool b, .int .i64 a, .int .i64 l, .int .i64 c, .int .i64 m, .int .i64 k][j]? = some u → (w.alloc (.cells #[.bool b, .int .i64 a, .int .i64 l, .int .i64 c, .int .i64 m, .int .i64 k] t)).cell? ((⟨g, 0, none⟩ : Addr).add j) = some u := by
  subst hg; exact cell_r6 w b a l c m k t
theorem one6 (b : Bool) (a l c m k : Int) : ∀ u ∈ [Value.bool b, .int .i64 a, .int .i64 l, .int .i64 c, .int .i64 m, .int .i64 k], u.oneCell' = true := flatR_one [(b, (a, l), (c, m), k)]
theorem ruR_ok {b : Bool} {a l c m k : Int} (h1 : okP a l = true) (h2 : okP c m = true) (h3 : 0 ≤ k ∧ k ≤ 7) : okR (b, (a, l), (c, m), k) = true := by
  unfold okR; rw [h1, h2, inB_yes h3]; rfl
theorem allR_snoc {L : List Ru} {r : Ru} (h : ∀ x ∈ L, okR x = true) (k : okR r = true) : ∀ x ∈ L ++ [r], okR x = true := by
  intro x hx
  rcases List.mem_append.1 hx with h1 | h1
  · exact h x h1
  · simp at h1; subst h1; exact k
/-- what the end of a round leaves -/
theorem rules_round {w W W' : World} {R n cap : Nat} {q : Option Addr} {p c : Int} {v v' : Value} {L : List Ru} {b : Bool} {x y x' y' k : Int} (h0 : Rdr w R q n cap p) (hrow : RowR W w.heap.size v L) (hD : Drew w R q n cap p c W) (hall : ∀ r ∈ L, okR r = true) (ho : okR (b, (x, y), (x', y'), k) = true) (hc : c ≤ 1 + 50 * ((L.length : Int) + 1))
    (hown : W'.ownsRow w.heap.size 48 6 v' (L.length + 1) (flatR L ++ [.bool b, .int .i64 x, .int .i64 y, .int .i64 x', .int .i64 y', .int .i64 k])) (hg : W.grownBy W' v.ownBlock) :
    RowR W' w.heap.size v' (L ++ [(b, (x, y), (x', y'), k)]) ∧ (∀ r ∈ L ++ [(b, (x, y), (x', y'), k)], okR r = true) ∧ Drew w R q n cap p (1 + 50 * ((L ++ [(b, (x, y), (x', y'), k)]).length : Int)) W' := by
  refine ⟨?_, allR_snoc hall ho, ?_⟩
  · unfold RowR; rw [List.length_append, flatR_app]; exact hown
  · refine (drew_grown h0 hD hg (fun k e => (World.ownsRow.lt hrow k e).1)).weak ?_
    rw [List.length_append]; simp; omega
theorem snocR_len (L : List Ru) (x : Ru) : (L ++ [x]).length = L.length + 1 := by simp
theorem kk_ok {r s : Nat} (h1 : (r : Int) < 3) (h2 : (s : Int) < 3) : ∃ k : Int, IntKind.i64.wrap ((r : Int) * (s : Int)) = k ∧ 0 ≤ k ∧ k ≤ 4 := by
  have a : r = 0 ∨ r = 1 ∨ r = 2 := by omega
  have b : s = 0 ∨ s = 1 ∨ s = 2 := by omega
  rcases a with rfl | rfl | rfl <;> rcases b with rfl | rfl | rfl <;> exact ⟨_, rfl, by decide, by decide⟩
end Go.Proofs.Ytaoahghfmlegbaa
