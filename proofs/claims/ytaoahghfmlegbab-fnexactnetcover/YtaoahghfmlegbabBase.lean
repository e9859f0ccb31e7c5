/- Small laws that the other texts share: endings, worlds with new blocks, a number within two others. -/
import Derived.Test.YtaoahghfmlegbabProg
import Derived.WalkKit
import Derived.ProofKit
import Derived.WalkSpells
import Derived.WalkLawsBesides
import Derived.WalkSmall
import Derived.OwnWalk
namespace Go.Proofs.Ytaoahghfmlegbab
open Go.RowKit Go.Lib

theorem ret_bool {a b : Bool} (h : a = b) : Ending.returned (.bool a) = .returned (.bool b) := by rw [h]

theorem ret_int {k : IntKind} {a b : Int} (h : a = b) : Ending.returned (.int k a) = .returned (.int k b) := by rw [h]

theorem ret_pair {a b : Int} {x : Value} (h : a = b) : Ending.returned (.tuple #[.int .i64 a, x]) = .returned (.tuple #[.int .i64 b, x]) := by rw [h]
theorem ret_str {a b : ByteArray} (h : a = b) : Ending.returned (.string a) = .returned (.string b) := by rw [h]

theorem below_then {w a b : World} (h : Below w.heap.size w a) (k : Below a.heap.size a b) : Below w.heap.size w b := h.trans (k.mono h.size)

theorem _root_.Go.RowKit.Below.more {a w : World} (h : Below a.heap.size a w) (o : Obj) : Below a.heap.size a (w.alloc o) := h.alloc h.size o
theorem bcell {W w1 : World} (hb : Below W.heap.size W w1) : (∀ b o, b < W.heap.size → w1.cell? ⟨b, o, none⟩ = W.cell? ⟨b, o, none⟩) ∧ (∀ b o, b < W.heap.size → w1.frozen? ⟨b, o, none⟩ = W.frozen? ⟨b, o, none⟩) :=
  ⟨fun b o h => hb.cell (p := ⟨b, o, none⟩) h, fun b o h => hb.frozen (p := ⟨b, o, none⟩) h⟩

theorem size2 {w w1 : World} {o o2 : Obj} (hb : Below ((w.alloc o).alloc o2).heap.size ((w.alloc o).alloc o2) w1) : w.heap.size + 1 < w1.heap.size := by
  have := hb.size
  simp at this
  omega
theorem size3 {w w1 : World} {o o2 o3 : Obj} (hb : Below (((w.alloc o).alloc o2).alloc o3).heap.size (((w.alloc o).alloc o2).alloc o3) w1) : w.heap.size + 1 + 1 < w1.heap.size := by
  have := hb.size
  simp at this
  omega

theorem fz_new (W : World) (c : Array Value) (t : TypeId) (j : Nat) : (W.alloc (.cells c t)).frozen? ⟨W.heap.size, j, none⟩ = false := by simp
/-- two new blocks of two cells each -/
theorem two_new (w : World) (x1 x2 y1 y2 : Value) (t : TypeId) :
    ((w.alloc (.cells #[x1, x2] t)).alloc (.cells #[y1, y2] t)).cell? ⟨w.heap.size, 0, none⟩ = some x1 ∧ ((w.alloc (.cells #[x1, x2] t)).alloc (.cells #[y1, y2] t)).cell? ⟨w.heap.size, 1, none⟩ = some x2 ∧
    ((w.alloc (.cells #[x1, x2] t)).alloc (.cells #[y1, y2] t)).cell? ⟨w.heap.size + 1, 0, none⟩ = some y1 ∧ ((w.alloc (.cells #[x1, x2] t)).alloc (.cells #[y1, y2] t)).cell? ⟨w.heap.size + 1, 1, none⟩ = some y2 ∧
    ∀ b o, b < w.heap.size → ((w.alloc (.cells #[x1, x2] t)).alloc (.cells #[y1, y2] t)).cell? ⟨b, o, none⟩ = w.cell? ⟨b, o, none⟩ ∧ ((w.alloc (.cells #[x1, x2] t)).alloc (.cells #[y1, y2] t)).frozen? ⟨b, o, none⟩ = w.frozen? ⟨b, o, none⟩ := by
  refine ⟨by simp, by simp, by simp, by simp, fun b o h => ?_⟩
  have hb : Below w.heap.size w ((w.alloc (.cells #[x1, x2] t)).alloc (.cells #[y1, y2] t)) := ((Below.refl _ _).more _).more _
  exact ⟨hb.cell (p := ⟨b, o, none⟩) h, hb.frozen (p := ⟨b, o, none⟩) h⟩

/-- three new blocks: the cells of the second and of the third -/
theorem three_new (w : World) (A : Obj) (x y u v : Value) (t : TypeId) : ∀ j, j < 2 →
    ((((w.alloc A).alloc (.cells #[x, y] t)).alloc (.cells #[u, v] t)).cell? ⟨w.heap.size + 1, j, none⟩ = some (if j = 0 then x else y) ∧ (((w.alloc A).alloc (.cells #[x, y] t)).alloc (.cells #[u, v] t)).frozen? ⟨w.heap.size + 1, j, none⟩ = false) ∧
    ((((w.alloc A).alloc (.cells #[x, y] t)).alloc (.cells #[u, v] t)).cell? ⟨w.heap.size + 1 + 1, j, none⟩ = some (if j = 0 then u else v) ∧ (((w.alloc A).alloc (.cells #[x, y] t)).alloc (.cells #[u, v] t)).frozen? ⟨w.heap.size + 1 + 1, j, none⟩ = false) := by
  intro j hj
  have e : w.heap.size + 1 + 1 = ((w.alloc A).alloc (.cells #[x, y] t)).heap.size := by simp
  have hj2 : j = 0 ∨ j = 1 := by omega
  refine ⟨⟨?_, ?_⟩, ?_, ?_⟩
  · rw [World.cell?_alloc_lt _ _ _ (by simp), World.cell?_alloc_at _ _ _ _ (by simp)]
    rcases hj2 with rfl | rfl <;> rfl
  · rw [World.frozen?_alloc_old _ _ _ (by simp)]
    simp
  · rw [World.cell?_alloc_at _ _ _ _ (by simp)]
    rcases hj2 with rfl | rfl <;> rfl
  · rw [e]
    exact fz_new _ _ _ _
theorem heap_new (w : World) (o : Obj) : (w.alloc o).heap[w.heap.size]? = some o := by unfold World.alloc; simp
theorem cell_one (w : World) (u : Value) (t : TypeId) : ∀ j x, [u][j]? = some x → (w.alloc (.cells #[u] t)).cell? ((⟨w.heap.size, 0, none⟩ : Addr).add j) = some x := by
  intro j x hj
  match j, hj with
  | 0, hj => simp at hj; subst hj; simp [Addr.add]
  | j + 1, hj => simp at hj
/-- a number within two others -/
def inB (n lo hi : Int) : Bool := decide (lo ≤ n ∧ n ≤ hi)
theorem inB_yes {n lo hi : Int} (h : lo ≤ n ∧ n ≤ hi) : inB n lo hi = true := decide_eq_true h
theorem inB_no {n lo hi : Int} (h : ¬ (lo ≤ n ∧ n ≤ hi)) : inB n lo hi = false := decide_eq_false h
set_option maxRecDepth 100000 in
set_option maxHeartbeats 400000 in
theorem in_any (n lo hi : Int) (w : World) :
    Calls Try.prog 47 #[.int .i64 n, .int .i64 lo, .int .i64 hi] w fun e w' => e = .returned (.bool (inB n lo hi)) ∧ w' = w := by
  by_cases h1 : lo ≤ n
  · by_cases h2 : n ≤ hi
    · go_enter Try.func47, Try.ntmps47
      go_wp2
      go_ret
      exact ⟨ret_bool (by rw [inB_yes ⟨h1, h2⟩]), rfl⟩
    · have hd : decide (n ≤ hi) = false := by simpa using h2
      go_enter Try.func47, Try.ntmps47
      go_wp2
      go_ret
      exact ⟨ret_bool (by rw [inB_no (by omega)]), rfl⟩
  · have hd : decide (lo ≤ n) = false := by simpa using h1
    go_enter Try.func47, Try.ntmps47
    go_wp2
    go_ret
    exact ⟨ret_bool (by rw [inB_no (by omega)]), rfl⟩

theorem take_snoc (s : ByteArray) (k : Nat) (h : k < s.size) : s.data.toList.take (k + 1) = s.data.toList.take k ++ [s[k]] := by
  rw [List.take_succ_eq_append_getElem (by simpa using h)]; rfl
theorem len_eq (s : ByteArray) : s.data.toList.length = s.size := by simp


/-- what holds in a region over one box of two numbers: nothing below has turned, the box holds what it held -/
def S2 (W0 : World) (B : Nat) (a l : Int) (w' : World) : Prop :=
  w'.cell? ⟨B, 0, none⟩ = some (.int .i64 a) ∧ w'.cell? ⟨B, 1, none⟩ = some (.int .i64 l) ∧ Below W0.heap.size W0 w'
theorem s2_of {W0 w' : World} {B : Nat} {a l : Int} (h1 : W0.cell? ⟨B, 0, none⟩ = some (.int .i64 a)) (h2 : W0.cell? ⟨B, 1, none⟩ = some (.int .i64 l)) (hB : B < W0.heap.size) (hb : Below W0.heap.size W0 w') : S2 W0 B a l w' :=
  ⟨by rw [hb.cell (p := ⟨B, 0, none⟩) hB]; exact h1, by rw [hb.cell (p := ⟨B, 1, none⟩) hB]; exact h2, hb⟩
theorem s2_drew {W0 wp : World} {B : Nat} {a l : Int} (h : S2 W0 B a l wp) : S2 W0 B a l wp.drew := ⟨h.1, h.2.1, h.2.2.drew⟩
theorem s2_next {W0 wp w1 : World} {B : Nat} {a l : Int} (hB : B < W0.heap.size) (h : S2 W0 B a l wp) (hb : Below wp.heap.size wp w1) : S2 W0 B a l w1 := by
  obtain ⟨h1, h2, h5⟩ := h
  have hs := h5.size
  refine ⟨?_, ?_, below_then h5 hb⟩
  · rw [hb.cell (p := ⟨B, 0, none⟩) (by simp; omega)]; exact h1
  · rw [hb.cell (p := ⟨B, 1, none⟩) (by simp; omega)]; exact h2
/-- two cells of a row that nothing turns -/
def SS (W0 : World) (g : Nat) (x y : Value) (w' : World) : Prop :=
  w'.cell? ⟨g, 0, none⟩ = some x ∧ w'.cell? ⟨g, 1, none⟩ = some y ∧ Below W0.heap.size W0 w'
theorem ss_of {W0 w' : World} {g : Nat} {x y : Value} (h1 : W0.cell? ⟨g, 0, none⟩ = some x) (h2 : W0.cell? ⟨g, 1, none⟩ = some y) (hg : g < W0.heap.size) (hb : Below W0.heap.size W0 w') : SS W0 g x y w' :=
  ⟨by rw [hb.cell (p := ⟨g, 0, none⟩) hg]; exact h1, by rw [hb.cell (p := ⟨g, 1, none⟩) hg]; exact h2, hb⟩
/-- a box of two numbers that the call has made -/
def Boxed2 (W0 : World) (K : Nat) (p q : Int) (W : World) : Prop :=
  W.cell? ⟨K, 0, none⟩ = some (.int .i64 p) ∧ W.cell? ⟨K, 1, none⟩ = some (.int .i64 q) ∧ W0.heap.size ≤ K ∧ K < W.heap.size ∧ Below W0.heap.size W0 W
theorem box_new {w1 w2 : World} (hb : Below w1.drew.heap.size w1.drew w2) (p q : Int) (t : TypeId) : Boxed2 w1 w2.heap.size p q (w2.alloc (.cells #[.int .i64 p, .int .i64 q] t)) :=
  ⟨by simp, by simp, hb.size, by simp, (below_then (Below.refl _ _).drew hb).more _⟩
theorem box_here (w1 : World) (p q : Int) (t : TypeId) : Boxed2 w1 w1.heap.size p q (w1.alloc (.cells #[.int .i64 p, .int .i64 q] t)).drew :=
  ⟨by simp, by simp, Nat.le_refl _, by simp, ((Below.refl _ _).more _).drew⟩
theorem box_set {w1 w3 : World} {x y : Value} {t : TypeId} (hb : Below (w1.alloc (.cells #[x, y] t)).drew.heap.size (w1.alloc (.cells #[x, y] t)).drew w3) (p q : Int) :
    Boxed2 w1 w1.heap.size p q ((w3.setCell ⟨w1.heap.size, 0, none⟩ (.int .i64 p)).setCell ⟨w1.heap.size, 1, none⟩ (.int .i64 q)) := by
  have h0 : w3.cell? ⟨w1.heap.size, 0, none⟩ = some x := by rw [hb.cell (p := ⟨w1.heap.size, 0, none⟩) (by simp)]; simp
  have h1 : w3.cell? ⟨w1.heap.size, 1, none⟩ = some y := by rw [hb.cell (p := ⟨w1.heap.size, 1, none⟩) (by simp)]; simp
  have hs := hb.size
  simp at hs
  refine ⟨?_, ?_, Nat.le_refl _, by simp; omega, ?_⟩
  · simp [go_sem, h0]
  · simp [go_sem, h1]
  exact ((below_then ((Below.refl _ _).more _).drew hb).setCell (Nat.le_refl _) _).setCell (Nat.le_refl _) _
theorem cell_lt {w : World} {g j : Nat} {v : Value} (h : w.cell? ⟨g, j, none⟩ = some v) : g < w.heap.size := by
  rcases Nat.lt_or_ge g w.heap.size with hl | hl
  · exact hl
  · simp [World.cell?, Array.getElem?_eq_none hl] at h

theorem old_one {w w1 : World} {x y : Value} {t : TypeId} (hb : Below (w.alloc (.cells #[x, y] t)).heap.size (w.alloc (.cells #[x, y] t)) w1) :
    w1.cell? ⟨w.heap.size, 0, none⟩ = some x ∧ w1.cell? ⟨w.heap.size, 1, none⟩ = some y ∧ w1.frozen? ⟨w.heap.size, 0, none⟩ = false ∧ w1.frozen? ⟨w.heap.size, 1, none⟩ = false ∧ w.heap.size < w1.heap.size := by
  have hs := hb.size
  simp at hs
  refine ⟨?_, ?_, ?_, ?_, by omega⟩
  · rw [hb.cell (p := ⟨w.heap.size, 0, none⟩) (by simp)]; simp
  · rw [hb.cell (p := ⟨w.heap.size, 1, none⟩) (by simp)]; simp
  · rw [hb.frozen (p := ⟨w.heap.size, 0, none⟩) (by simp)]; simp
  · rw [hb.frozen (p := ⟨w.heap.size, 1, none⟩) (by simp)]; simp

theorem old_box {w w1 : World} {x y : Value} {t : TypeId} {o : Obj} (hb : Below ((w.alloc (.cells #[x, y] t)).alloc o).heap.size ((w.alloc (.cells #[x, y] t)).alloc o) w1) :
    w1.cell? ⟨w.heap.size, 0, none⟩ = some x ∧ w1.cell? ⟨w.heap.size, 1, none⟩ = some y ∧ w1.frozen? ⟨w.heap.size, 0, none⟩ = false ∧ w1.frozen? ⟨w.heap.size, 1, none⟩ = false ∧ w.heap.size < w1.heap.size := by
  have hs := hb.size
  simp at hs
  refine ⟨?_, ?_, ?_, ?_, by omega⟩
  · rw [hb.cell (p := ⟨w.heap.size, 0, none⟩) (by simp; omega), World.cell?_alloc_lt _ _ _ (by simp)]; simp
  · rw [hb.cell (p := ⟨w.heap.size, 1, none⟩) (by simp; omega), World.cell?_alloc_lt _ _ _ (by simp)]; simp
  · rw [hb.frozen (p := ⟨w.heap.size, 0, none⟩) (by simp; omega), World.frozen?_alloc_old _ _ _ (by simp)]; simp
  · rw [hb.frozen (p := ⟨w.heap.size, 1, none⟩) (by simp; omega), World.frozen?_alloc_old _ _ _ (by simp)]; simp

end Go.Proofs.Ytaoahghfmlegbab
