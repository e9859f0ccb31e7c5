/- The program's join. -/
import Derived.Test.YtaoahghfmlegbabNode
import Derived.Deep.RegionHeld3
import Derived.Deep.DeepCutAuto
namespace Go.Proofs.Ytaoahghfmlegbab
open Go.RowKit Go.Lib

/-- what a trie's own two cells hold -/
theorem Tri.cells {w : World} {B o : Nat} {t : Tr} {fp : List Nat} (h : Tri w B o t fp) : ∃ v p, Two w B o (.bool v) (.pointer p) ∧ ((t = .leaf v ∧ p = none ∧ fp = []) ∨ ((∃ x y, t = .node x y) ∧ ∃ H, p = some ⟨H, 0, none⟩)) := by
  cases t with
  | leaf v => exact ⟨v, none, h.2, .inl ⟨rfl, rfl, h.1⟩⟩
  | node x y => obtain ⟨H, f1, f2, u, _, _, h2, _⟩ := h; exact ⟨u, _, h2, .inr ⟨⟨x, y, rfl⟩, H, rfl⟩⟩

/-- two boxes that a call has made -/
def Box2 (w : World) (K1 K2 : Nat) (x1 y1 x2 y2 : Value) (W : World) : Prop :=
  W.cell? ⟨K1, 0, none⟩ = some x1 ∧ W.cell? ⟨K1, 1, none⟩ = some y1 ∧ W.cell? ⟨K2, 0, none⟩ = some x2 ∧ W.cell? ⟨K2, 1, none⟩ = some y2 ∧ Below w.heap.size w W

/-- what join leaves -/
def JoinPost (w : World) (B o : Nat) (v1 v2 : Bool) (p1 p2 : Option Addr) (w' : World) : Prop :=
  (¬ (p1 = none ∧ p2 = none ∧ v1 = v2) ∧ Below w.heap.size w w') ∨ ((p1 = none ∧ p2 = none ∧ v1 = v2) ∧ ∃ W, Below w.heap.size w W ∧ w' = (W.setCell ⟨B, o, none⟩ (.bool v1)).setCell ⟨B, o + 1, none⟩ (.pointer none))
theorem box2_a (w : World) (x1 y1 x2 y2 : Value) (t : TypeId) : Box2 w w.heap.size (w.heap.size + 1) x1 y1 x2 y2 ((w.alloc (.cells #[x1, y1] t)).alloc (.cells #[x2, y2] t)).drew := by
  obtain ⟨h1, h2, h3, h4, _⟩ := two_new w x1 y1 x2 y2 t
  exact ⟨h1, h2, h3, h4, ((((Below.refl _ _).more _).more _)).drew⟩
theorem box2_b (w : World) (x1 y1 x2 y2 : Value) (t : TypeId) : Box2 w (w.heap.size + 1) w.heap.size x1 y1 x2 y2 ((w.alloc (.cells #[x2, y2] t)).alloc (.cells #[x1, y1] t)).drew := by
  obtain ⟨h1, h2, h3, h4, _⟩ := two_new w x2 y2 x1 y1 t
  exact ⟨h3, h4, h1, h2, ((((Below.refl _ _).more _).more _)).drew⟩

set_option maxRecDepth 100000 in
set_option maxHeartbeats 2000000 in
theorem join_read (B o H : Nat) (u v1 v2 : Bool) (p1 p2 : Option Addr) (w : World) (hT : Two w B o (.bool u) (.pointer (some ⟨H, 0, none⟩))) (hx : Two w H 0 (.bool v1) (.pointer p1)) (hy : Two w H 2 (.bool v2) (.pointer p2)) :
    Calls Try.prog 79 #[.pointer (some ⟨B, o, none⟩)] w fun e w' => (∃ v, e = .returned v) ∧ JoinPost w B o v1 v2 p1 p2 w' := by
  obtain ⟨t0, t1, t2, t3⟩ := hT
  obtain ⟨x0, x1, _, _⟩ := hx
  obtain ⟨y0, y1, _, _⟩ := hy
  have n1 := World.new_ne w ⟨B, o + 1, none⟩ t1
  have n2 := World.new_ne w ⟨H, 0, none⟩ x0
  simp only [Nat.zero_add, Nat.reduceAdd] at x1 y1
  go_enter Try.func79, Try.ntmps79
  go_wp2_with fail
  go_cut [2, 3] (fun a b W => ∃ K1 K2, a = .pointer (some ⟨K1, 0, none⟩) ∧ b = .pointer (some ⟨K2, 0, none⟩) ∧ Box2 w K1 K2 (.bool v1) (.pointer p1) (.bool v2) (.pointer p2) W)
  case first =>
    go_region_held3 (fun w' => w'.cell? ⟨B, o + 1, none⟩ = some (.pointer (some ⟨H, 0, none⟩)) ∧ w'.cell? ⟨H, 0, none⟩ = some (.bool v1) ∧ w'.cell? ⟨H, 1, none⟩ = some (.pointer p1) ∧ w'.cell? ⟨H, 2, none⟩ = some (.bool v2) ∧ w'.cell? ⟨H, 3, none⟩ = some (.pointer p2)) (go_keep) (fail)
    all_goals
      go_wp2_with fail
      go_meet
      case rel => first | exact ⟨_, _, rfl, rfl, box2_a w _ _ _ _ _⟩ | exact ⟨_, _, rfl, rfl, box2_b w _ _ _ _ _⟩
  case rest =>
    obtain ⟨K1, K2, rfl, rfl, k1, k2, k3, k4, hb⟩ := hcut
    have hBl : B < w.heap.size := cell_lt t0
    have c0 := (hb.cell (p := ⟨B, o, none⟩) hBl).trans t0
    have c1 := (hb.cell (p := ⟨B, o + 1, none⟩) hBl).trans t1
    have c2 := (hb.frozen (p := ⟨B, o, none⟩) hBl).trans t2
    have c3 := (hb.frozen (p := ⟨B, o + 1, none⟩) hBl).trans t3
    clear t0 t1 t2 t3 x0 x1 y0 y1 n1 n2
    cases p1 with
    | some a1 =>
      go_wp2
      go_end0
      exact ⟨⟨_, rfl⟩, .inl ⟨fun h => (nomatch h.1), hb⟩⟩
    | none =>
      cases p2 with
      | some a2 =>
        go_wp2
        go_end0
        exact ⟨⟨_, rfl⟩, .inl ⟨fun h => (nomatch h.2.1), hb⟩⟩
      | none =>
        by_cases hv : v1 = v2
        · subst hv
          go_wp2
          go_end0
          exact ⟨⟨_, rfl⟩, .inr ⟨⟨rfl, rfl, rfl⟩, _, hb, rfl⟩⟩
        · have hv2 : (v1 == v2) = false := by rw [beq_eq_false_iff_ne]; exact hv
          go_wp2
          go_end0
          exact ⟨⟨_, rfl⟩, .inl ⟨fun h => hv h.2.2, hb⟩⟩

/-- the two halves are made one, if no hole keeps them apart -/
theorem join_any (n B o H : Nat) (u : Bool) (x y : Tr) (f1 f2 : List Nat) (w : World) (hT : Two w B o (.bool u) (.pointer (some ⟨H, 0, none⟩))) (hx : Tri w H 0 x f1) (hy : Tri w H 2 y f2) (hd : H ∉ f1 ∧ H ∉ f2 ∧ ∀ b ∈ f1, b ∉ f2) (hn : n ≤ B) :
    Calls Try.prog 79 #[.pointer (some ⟨B, o, none⟩)] w fun e w' => (∃ v, e = .returned v) ∧ ∃ fp, Tri w' B o (Tr.join x y) fp ∧ (∀ b ∈ fp, b ∈ H :: (f1 ++ f2)) ∧ Kept n w w' B o [] := by
  obtain ⟨v1, p1, hx1, hx2⟩ := hx.cells
  obtain ⟨v2, p2, hy1, hy2⟩ := hy.cells
  refine (join_read B o H u v1 v2 p1 p2 w hT hx1 hy1).mono ?_
  rintro e w' ⟨he, ⟨hne, hb⟩ | ⟨⟨rfl, rfl, rfl⟩, W, hW, rfl⟩⟩
  · refine ⟨he, H :: (f1 ++ f2), ?_, fun b h => h, kept_of_below hb (Nat.le_trans hn (Nat.le_of_lt hT.lt))⟩
    have ej : Tr.join x y = .node x y := by
      rcases hx2 with ⟨rfl, rfl, _⟩ | ⟨⟨a, b, rfl⟩, _⟩
      · rcases hy2 with ⟨rfl, rfl, _⟩ | ⟨⟨a, b, rfl⟩, _⟩
        · exact join_ne (fun e => hne ⟨rfl, rfl, e⟩)
        · exact join_r _ _ _
      · exact join_l _ _ _
    rw [ej]
    exact ⟨H, f1, f2, u, rfl, hd, hT.below hb, hx.below hb, hy.below hb⟩
  · rcases hx2 with ⟨rfl, _, rfl⟩ | ⟨_, _, h⟩
    · rcases hy2 with ⟨rfl, _, rfl⟩ | ⟨_, _, h⟩
      · rw [join_same]
        refine ⟨he, [], ⟨rfl, set2_two (hT.below hW) _ _⟩, by simp, ?_, fun b i hb _ ho => ?_⟩
        · exact ((hW.mono (Nat.le_trans hn (Nat.le_of_lt hT.lt))).setCell (p := ⟨B, o, none⟩) hn _).setCell (p := ⟨B, o + 1, none⟩) hn _
        · have h := set2_cell W B o (.bool v1) (.pointer none) b i ho
          exact ⟨h.1.trans (hW.cell hb), h.2.trans (hW.frozen hb)⟩
      · cases h
    · cases h
end Go.Proofs.Ytaoahghfmlegbab
