/- The draws of lists: l5List. -/
import Derived.Test.YtaoahghfmlegbaaDraw3
import Derived.Test.YtaoahghfmlegbaaToS
import Derived.Test.YtaoahghfmlegbaaL1h
import Derived.Test.YtaoahghfmlegbaaTrie
import Derived.Deep.RegionWith
import Derived.Deep.DeepCutAuto
namespace Go.Proofs.Ytaoahghfmlegbaa
open Go.RowKit Go.Lib

theorem row_drew {W W' : World} {R b : Nat} {v : Value} {L : List (Int × Int)} (h : Row W b v L) (hg : W.grownBy W' (some R)) (hR : R < b) : Row W' b v L := by
  refine World.ownsRow.kept h hg ?_
  cases e : v.ownBlock with
  | none => exact .inl rfl
  | some k => refine .inr ?_; intro he; cases he; have := World.ownsRow.lt h R e; omega
theorem drew_grown {w W W' : World} {R n cap : Nat} {q : Option Addr} {p c : Int} {row : Option Nat} (h0 : Rdr w R q n cap p) (h : Drew w R q n cap p c W) (hg' : W.grownBy W' row) (hr : ∀ k, row = some k → w.heap.size ≤ k) : Drew w R q n cap p c W' := by
  obtain ⟨hg, p', h1, h2, a1, a2, a3, a4, a5, a6⟩ := h
  have hR := h0.lt
  have hs := hg.size
  have hb : ∀ k, k < w.heap.size → W'.heap[k]? = W.heap[k]? := fun k hk => hg'.block k (by omega) (fun e => by have := hr k e.symm; omega)
  refine ⟨⟨hg'.os.trans hg.os, hg'.tape.trans hg.tape, hg'.output.trans hg.output, Nat.le_trans hg.size hg'.size, fun k hk hk' => (hb k hk).trans (hg.block k hk hk')⟩, p', h1, h2, (World.cell?_of_block (hb R hR)).trans a1, (World.cell?_of_block (hb R hR)).trans a2, (World.frozen?_of_block (hb R hR)).trans a3, a4, a5, ?_⟩
  rcases h0.2.2.2.2.2 with hn | ⟨g0, o0, q0, gR, gl, _⟩
  · exact .inl hn
  · rcases a6 with hn | ⟨g, o, hq, hgR, hl, hc⟩
    · exact .inl hn
    · rw [q0] at hq
      cases hq
      refine .inr ⟨_, _, q0, gR, Nat.lt_of_lt_of_le hl hg'.size, fun i hi => ?_⟩
      obtain ⟨y, hy, k⟩ := hc i hi
      exact ⟨y, (World.cell?_of_block (hb _ gl)).trans hy, k⟩
theorem pre_more {w W : World} {R n cap : Nat} {q : Option Addr} {p c : Int} (h : Drew w R q n cap p c W) (hp : p + c ≤ 1073741800) :
    Calls Try.prog 68 #[.pointer (some ⟨R, 0, none⟩)] W fun e W' => ∃ a l : Int, e = .returned (.agg #[.int .i64 a, .int .i64 l]) ∧ okP a l = true ∧ Drew w R q n cap p (c + 20) W' ∧ W.grownBy W' (some R) := by
  have h' := h
  obtain ⟨hg, p', h1, h2, h3⟩ := h'
  refine (pre_any R q n cap p' W h3 (by omega)).mono ?_
  rintro e W' ⟨a, l, rfl, ho, hd⟩
  refine ⟨a, l, rfl, ho, ?_, hd.1⟩
  obtain ⟨hg2, p'', k1, k2, k3⟩ := hd
  exact ⟨⟨hg2.os.trans hg.os, hg2.tape.trans hg.tape, hg2.output.trans hg.output, Nat.le_trans hg.size hg2.size, fun k hk hr => (hg2.block k (Nat.lt_of_lt_of_le hk hg.size) hr).trans (hg.block k hk hr)⟩, p'', by omega, by omega, k3⟩
theorem spoil_more {w W : World} {R n cap : Nat} {q : Option Addr} {p c a l : Int} (h : Drew w R q n cap p c W) (hp : p + c ≤ 1073741800) (ho : okP a l = true) :
    Calls Try.prog 69 #[.pointer (some ⟨R, 0, none⟩), .agg #[.int .i64 a, .int .i64 l]] W fun e W' => ∃ b m : Int, e = .returned (.agg #[.int .i64 b, .int .i64 m]) ∧ Mid b ∧ Mid m ∧ Drew w R q n cap p (c + 20) W' ∧ W.grownBy W' (some R) := by
  obtain ⟨hg, p', h1, h2, h3⟩ := h
  obtain ⟨l1, l2, a1, a2, _⟩ := okP_of ho
  refine (spoil_any R q n cap p' a l W h3 (by omega) (by omega) (by omega) (by omega) (by omega)).mono ?_
  rintro e W' ⟨b, m, rfl, hb, hm, hd⟩
  refine ⟨b, m, rfl, hb, hm, ?_, hd.1⟩
  obtain ⟨hg2, p'', k1, k2, k3⟩ := hd
  exact ⟨⟨hg2.os.trans hg.os, hg2.tape.trans hg.tape, hg2.output.trans hg.output, Nat.le_trans hg.size hg2.size, fun k hk hr => (hg2.block k (Nat.lt_of_lt_of_le hk hg.size) hr).trans (hg.block k hk hr)⟩, p'', by omega, by omega, k3⟩
theorem addr_more {w W : World} {R n cap : Nat} {q : Option Addr} {p c a l : Int} (h : Drew w R q n cap p c W) (hp : p + c ≤ 1073741800) :
    Calls Try.prog 50 #[.pointer (some ⟨R, 0, none⟩), .agg #[.int .i64 a, .int .i64 l]] W fun e W' => ∃ x : Int, e = .returned (.int .i64 x) ∧ Mid x ∧ Drew w R q n cap p (c + 20) W' ∧ W.grownBy W' (some R) := by
  obtain ⟨hg, p', h1, h2, h3⟩ := h
  refine (addr_any R q n cap p' a l W h3 (by omega)).mono ?_
  rintro e W' ⟨x, rfl, hx, hd⟩
  refine ⟨x, rfl, hx, ?_, hd.1⟩
  obtain ⟨hg2, p'', k1, k2, k3⟩ := hd
  exact ⟨⟨hg2.os.trans hg.os, hg2.tape.trans hg.tape, hg2.output.trans hg.output, Nat.le_trans hg.size hg2.size, fun k hk hr => (hg2.block k (Nat.lt_of_lt_of_le hk hg.size) hr).trans (hg.block k hk hr)⟩, p'', by omega, by omega, k3⟩
theorem allOk_snoc {L : List (Int × Int)} {a l : Int} (h : allOk L = true) (k : okP a l = true) : allOk (L ++ [(a, l)]) = true := by unfold allOk at *; rw [List.all_append, h]; simp [k]
theorem cell_pr (w : World) (x y : Value) (t : TypeId) : ∀ j u, [x, y][j]? = some u → (w.alloc (.cells #[x, y] t)).cell? ((⟨w.heap.size, 0, none⟩ : Addr).add j) = some u := by
  intro j u hj
  match j, hj with
  | 0, hj => simp at hj; subst hj; simp [Addr.add]
  | 1, hj => simp at hj; subst hj; simp [Addr.add]
  | j + 2, hj => simp at hj
theorem snoc_len (L : List (Int × Int)) (x : Int × Int) : (L ++ [x]).length = L.length + 1 := by simp
theorem pr_one (x y : Int) : ∀ u ∈ [Value.int .i64 x, .int .i64 y], u.oneCell' = true := by
  intro u hu; simp at hu; rcases hu with rfl | rfl <;> rfl
theorem Row.alloc {w : World} {b : Nat} {v : Value} {L : List (Int × Int)} (h : Row w b v L) (o : Obj) : Row (w.alloc o) b v L := World.ownsRow.alloc h o
theorem Bx.set2 {W : World} {K : Nat} {x y : Value} (h : Bx W K x y) (u v : Value) : Bx ((W.setCell ⟨K, 0, none⟩ u).setCell ⟨K, 1, none⟩ v) K u v := by
  refine ⟨?_, ?_, ?_, ?_⟩
  · rw [World.cell?_setCell_other _ _ _ _ (fun e => by cases e), World.cell?_setCell_same' _ _ _ (by rw [h.1]; rfl)]
  · rw [World.cell?_setCell_same' _ _ _ (by rw [World.cell?_setCell_other _ _ _ _ (fun e => by cases e), h.2.1]; rfl)]
  · rw [World.frozen?_setCell, World.frozen?_setCell]; exact h.2.2.1
  · rw [World.frozen?_setCell, World.frozen?_setCell]; exact h.2.2.2
theorem row_set {W : World} {b K j : Nat} {v : Value} {L : List (Int × Int)} (h : Row W b v L) (hK : v.ownBlock ≠ some K) (u : Value) : Row (W.setCell ⟨K, j, none⟩ u) b v L := by
  refine World.ownsRow.kept (row := some K) h ⟨rfl, rfl, rfl, by simp, fun k _ hk => Below.heap_setCell _ _ _ _ (fun e => hk (by simp [e]))⟩ (.inr hK)
theorem row_set2 {W : World} {b K : Nat} {v : Value} {L : List (Int × Int)} (h : Row W b v L) (hK : v.ownBlock ≠ some K) (u u' : Value) : Row ((W.setCell ⟨K, 0, none⟩ u).setCell ⟨K, 1, none⟩ u') b v L := row_set (row_set h hK u) hK u'
theorem four_grown {w W : World} {R A B : Nat} {x y u v : Value} (hg : w.grownBy W (some R)) (hA : A ≠ R) (hB : B ≠ R) (h : w.cell? ⟨A, 0, none⟩ = some x ∧ w.cell? ⟨A, 1, none⟩ = some y ∧ w.cell? ⟨B, 0, none⟩ = some u ∧ w.cell? ⟨B, 1, none⟩ = some v) : W.cell? ⟨A, 0, none⟩ = some x ∧ W.cell? ⟨A, 1, none⟩ = some y ∧ W.cell? ⟨B, 0, none⟩ = some u ∧ W.cell? ⟨B, 1, none⟩ = some v :=
  ⟨grown_cell hg hA h.1, grown_cell hg hA h.2.1, grown_cell hg hB h.2.2.1, grown_cell hg hB h.2.2.2⟩
theorem four_alloc {w : World} {A B : Nat} {x y u v : Value} (h : w.cell? ⟨A, 0, none⟩ = some x ∧ w.cell? ⟨A, 1, none⟩ = some y ∧ w.cell? ⟨B, 0, none⟩ = some u ∧ w.cell? ⟨B, 1, none⟩ = some v) (o : Obj) : (w.alloc o).cell? ⟨A, 0, none⟩ = some x ∧ (w.alloc o).cell? ⟨A, 1, none⟩ = some y ∧ (w.alloc o).cell? ⟨B, 0, none⟩ = some u ∧ (w.alloc o).cell? ⟨B, 1, none⟩ = some v :=
  ⟨(World.cell?_alloc_lt _ _ _ (cell_lt h.1)).trans h.1, (World.cell?_alloc_lt _ _ _ (cell_lt h.1)).trans h.2.1, (World.cell?_alloc_lt _ _ _ (cell_lt h.2.2.1)).trans h.2.2.1, (World.cell?_alloc_lt _ _ _ (cell_lt h.2.2.1)).trans h.2.2.2⟩
theorem four_set {w : World} {A B K : Nat} {x y u v : Value} (h : w.cell? ⟨A, 0, none⟩ = some x ∧ w.cell? ⟨A, 1, none⟩ = some y ∧ w.cell? ⟨B, 0, none⟩ = some u ∧ w.cell? ⟨B, 1, none⟩ = some v) (hA : A ≠ K) (hB : B ≠ K) (p q : Value) :
    ((w.setCell ⟨K, 0, none⟩ p).setCell ⟨K, 1, none⟩ q).cell? ⟨A, 0, none⟩ = some x ∧ ((w.setCell ⟨K, 0, none⟩ p).setCell ⟨K, 1, none⟩ q).cell? ⟨A, 1, none⟩ = some y ∧ ((w.setCell ⟨K, 0, none⟩ p).setCell ⟨K, 1, none⟩ q).cell? ⟨B, 0, none⟩ = some u ∧ ((w.setCell ⟨K, 0, none⟩ p).setCell ⟨K, 1, none⟩ q).cell? ⟨B, 1, none⟩ = some v := by
  have k : ∀ C j, C ≠ K → ((w.setCell ⟨K, 0, none⟩ p).setCell ⟨K, 1, none⟩ q).cell? ⟨C, j, none⟩ = w.cell? ⟨C, j, none⟩ := fun C j hC => by
    rw [World.cell?_setCell_other _ _ _ _ (fun e => hC (by cases e; rfl)), World.cell?_setCell_other _ _ _ _ (fun e => hC (by cases e; rfl))]
  exact ⟨(k A 0 hA).trans h.1, (k A 1 hA).trans h.2.1, (k B 0 hB).trans h.2.2.1, (k B 1 hB).trans h.2.2.2⟩
theorem box4_a {w W : World} (hb : Below w.heap.size w W) (x1 y1 x2 y2 : Value) (t : TypeId) : w.heap.size ≤ W.heap.size ∧ w.heap.size ≤ W.heap.size + 1 ∧ (((W.alloc (.cells #[x1, y1] t)).alloc (.cells #[x2, y2] t)).cell? ⟨W.heap.size, 0, none⟩ = some x1 ∧ ((W.alloc (.cells #[x1, y1] t)).alloc (.cells #[x2, y2] t)).cell? ⟨W.heap.size, 1, none⟩ = some y1 ∧ ((W.alloc (.cells #[x1, y1] t)).alloc (.cells #[x2, y2] t)).cell? ⟨W.heap.size + 1, 0, none⟩ = some x2 ∧ ((W.alloc (.cells #[x1, y1] t)).alloc (.cells #[x2, y2] t)).cell? ⟨W.heap.size + 1, 1, none⟩ = some y2) ∧ Below w.heap.size w ((W.alloc (.cells #[x1, y1] t)).alloc (.cells #[x2, y2] t)) := by
  obtain ⟨h1, h2, h3, h4, _⟩ := two_new W x1 y1 x2 y2 t
  have := hb.size
  exact ⟨by omega, by omega, ⟨h1, h2, h3, h4⟩, (hb.more _).more _⟩
theorem box4_b {w W : World} (hb : Below w.heap.size w W) (x1 y1 x2 y2 : Value) (t : TypeId) : w.heap.size ≤ W.heap.size + 1 ∧ w.heap.size ≤ W.heap.size ∧ (((W.alloc (.cells #[x2, y2] t)).alloc (.cells #[x1, y1] t)).cell? ⟨W.heap.size + 1, 0, none⟩ = some x1 ∧ ((W.alloc (.cells #[x2, y2] t)).alloc (.cells #[x1, y1] t)).cell? ⟨W.heap.size + 1, 1, none⟩ = some y1 ∧ ((W.alloc (.cells #[x2, y2] t)).alloc (.cells #[x1, y1] t)).cell? ⟨W.heap.size, 0, none⟩ = some x2 ∧ ((W.alloc (.cells #[x2, y2] t)).alloc (.cells #[x1, y1] t)).cell? ⟨W.heap.size, 1, none⟩ = some y2) ∧ Below w.heap.size w ((W.alloc (.cells #[x2, y2] t)).alloc (.cells #[x1, y1] t)) := by
  obtain ⟨h1, h2, h3, h4, _⟩ := two_new W x2 y2 x1 y1 t
  have := hb.size
  exact ⟨by omega, by omega, ⟨h3, h4, h1, h2⟩, (hb.more _).more _⟩
/-- a box that lay ahead of a region, and nothing below turned -/
def SB (W5 : World) (K : Nat) (x y : Value) (w : World) : Prop := w.cell? ⟨K, 0, none⟩ = some x ∧ w.cell? ⟨K, 1, none⟩ = some y ∧ Below W5.heap.size W5 w
theorem sb_next {W5 w w' : World} {K : Nat} {x y : Value} (hK : K < W5.heap.size) (h : SB W5 K x y w) (hb : Below w.heap.size w w') : SB W5 K x y w' := by
  have hs := h.2.2.size
  exact ⟨(hb.cell (p := ⟨K, 0, none⟩) (show K < w.heap.size by omega)).trans h.1, (hb.cell (p := ⟨K, 1, none⟩) (show K < w.heap.size by omega)).trans h.2.1, below_then h.2.2 hb⟩
theorem sb_alloc {W5 w : World} {K : Nat} {x y : Value} (h : SB W5 K x y w) (o : Obj) : SB W5 K x y (w.alloc o) :=
  ⟨(World.cell?_alloc_lt _ _ _ (cell_lt h.1)).trans h.1, (World.cell?_alloc_lt _ _ _ (cell_lt h.1)).trans h.2.1, h.2.2.more _⟩
theorem sb_set2 {W5 w : World} {K C : Nat} {x y : Value} (hK : K < W5.heap.size) (h : SB W5 K x y w) (hC : W5.heap.size ≤ C) (u v : Value) : SB W5 K x y ((w.setCell ⟨C, 0, none⟩ u).setCell ⟨C, 1, none⟩ v) := by
  refine ⟨?_, ?_, (h.2.2.setCell (p := ⟨C, 0, none⟩) hC _).setCell (p := ⟨C, 1, none⟩) hC _⟩
  · rw [World.cell?_setCell_other _ _ _ _ (fun e => by have := congrArg Addr.block e; simp at this; omega), World.cell?_setCell_other _ _ _ _ (fun e => by have := congrArg Addr.block e; simp at this; omega)]; exact h.1
  · rw [World.cell?_setCell_other _ _ _ _ (fun e => by have := congrArg Addr.block e; simp at this; omega), World.cell?_setCell_other _ _ _ _ (fun e => by have := congrArg Addr.block e; simp at this; omega)]; exact h.2.1
theorem mid_all {L : List (Int × Int)} (h : allOk L = true) : ∀ x ∈ L, Mid x.1 ∧ Mid x.2 := by
  intro x hx
  obtain ⟨l1, l2, a1, a2, _⟩ := okP_of (allOk_of h hx)
  unfold Mid
  omega
theorem pair_at {r : Nat} {x1 y1 x2 y2 : Int} (h : (r : Int) < 2) (h1 : okP x1 y1 = true) (h2 : okP x2 y2 = true) : ∃ x y : Int, #[Value.int .i64 x1, .int .i64 y1, .int .i64 x2, .int .i64 y2][r * 2]? = some (.int .i64 x) ∧ #[Value.int .i64 x1, .int .i64 y1, .int .i64 x2, .int .i64 y2][r * 2 + 1]? = some (.int .i64 y) ∧ okP x y = true := by
  have : r = 0 ∨ r = 1 := by omega
  rcases this with rfl | rfl
  · exact ⟨x1, y1, rfl, rfl, h1⟩
  · exact ⟨x2, y2, rfl, rfl, h2⟩
/-- what the end of a round leaves -/
theorem list_round {w W W' : World} {R n cap : Nat} {q : Option Addr} {p c : Int} {v v' : Value} {L : List (Int × Int)} {x y : Int} (h0 : Rdr w R q n cap p) (hrow : Row W w.heap.size v L) (hD : Drew w R q n cap p c W) (hall : allOk L = true) (ho : okP x y = true) (hc : c ≤ 1 + 30 * ((L.length : Int) + 1))
    (hown : W'.ownsRow w.heap.size 31 2 v' (L.length + 1) (flat L ++ [.int .i64 x, .int .i64 y])) (hg : W.grownBy W' v.ownBlock) :
    Row W' w.heap.size v' (L ++ [(x, y)]) ∧ allOk (L ++ [(x, y)]) = true ∧ Drew w R q n cap p (1 + 30 * ((L ++ [(x, y)]).length : Int)) W' := by
  refine ⟨?_, allOk_snoc hall ho, ?_⟩
  · unfold Row; rw [List.length_append, flat_app]; exact hown
  · refine (drew_grown h0 hD hg (fun k e => (World.ownsRow.lt hrow k e).1)).weak ?_
    rw [List.length_append]; simp; omega
theorem _root_.Go.World.ownsRow.lt' {w : World} {b : Nat} {v : Value} {L : List (Int × Int)} (h : Row w b v L) : b ≤ w.heap.size ∨ v.ownBlock = none := by
  cases e : v.ownBlock with
  | none => exact .inr rfl
  | some k => have := World.ownsRow.lt h k e; exact .inl (by omega)
theorem row_nil_new (w : World) : Row (w.alloc (.cells #[] 31)) w.heap.size (.slice (some ⟨w.heap.size, 0, none⟩) 0 0) [] := World.ownsRow_lit w #[] 0 (Nat.le_refl _) (by decide) rfl

theorem bx_keep {W : World} {K K2 : Nat} {x y : Value} (h : Bx W K2 x y) (hK : K2 ≠ K) (u v : Value) : Bx ((W.setCell ⟨K, 0, none⟩ u).setCell ⟨K, 1, none⟩ v) K2 x y := by
  have k : ∀ j, ((W.setCell ⟨K, 0, none⟩ u).setCell ⟨K, 1, none⟩ v).cell? ⟨K2, j, none⟩ = W.cell? ⟨K2, j, none⟩ := fun j => by
    rw [World.cell?_setCell_other _ _ _ _ (fun e => hK (by cases e; rfl)), World.cell?_setCell_other _ _ _ _ (fun e => hK (by cases e; rfl))]
  refine ⟨(k 0).trans h.1, (k 1).trans h.2.1, ?_, ?_⟩
  · rw [World.frozen?_setCell, World.frozen?_setCell]; exact h.2.2.1
  · rw [World.frozen?_setCell, World.frozen?_setCell]; exact h.2.2.2
theorem flat_set0 (L : List (Int × Int)) (x y : Int) : flat (L.set 0 (x, y)) = ((flat L).set 0 (.int .i64 x)).set 1 (.int .i64 y) := by
  cases L with
  | nil => rfl
  | cons q L => rw [List.set_cons_zero, flat_cons, flat_cons]; rfl
theorem row_head {w : World} {b g cap : Nat} {L : List (Int × Int)} (h : Row w b (.slice (some ⟨g, 0, none⟩) L.length cap) L) (x y : Int) :
    Row ((w.setCell ⟨g, 0, none⟩ (.int .i64 x)).setCell ⟨g, 1, none⟩ (.int .i64 y)) b (.slice (some ⟨g, 0, none⟩) L.length cap) (L.set 0 (x, y)) := by
  have h2 := (World.ownsRow.stored (World.ownsRow.stored h 0 (.int .i64 x)).1 1 (.int .i64 y)).1
  unfold Row
  rw [List.length_set, flat_set0]
  exact h2
theorem mid_set {L : List (Int × Int)} (h : ∀ x ∈ L, Mid x.1 ∧ Mid x.2) {x y : Int} (hx : Mid x) (hy : Mid y) : ∀ z ∈ L.set 0 (x, y), Mid z.1 ∧ Mid z.2 := by
  intro z hz
  rcases List.mem_or_eq_of_mem_set hz with h1 | rfl
  · exact h z h1
  · exact ⟨hx, hy⟩
end Go.Proofs.Ytaoahghfmlegbaa
