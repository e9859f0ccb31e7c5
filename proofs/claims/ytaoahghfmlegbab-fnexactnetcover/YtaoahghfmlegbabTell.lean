/- The program's tell: the prefixes of one value, handed to yield one after another. -/
import Derived.Test.YtaoahghfmlegbabPutA
import Derived.Test.YtaoahghfmlegbabI1h
import Derived.RangeFuncNested
import Derived.RangeFuncBound
import Derived.RangeFuncCalls
import Derived.RangeFuncLeaves
import Derived.RangeFuncBox
import Derived.Shelf.Abstract
import Derived.Shelf.RegionOpen
import Derived.WalkKit
import Derived.OwnWalkIn
import Derived.TacticsInMore
import Derived.LoopNIn
import Derived.LoopIn
namespace Go.Proofs.Ytaoahghfmlegbab
open Go.RowKit Go.Lib Go.Shelf

attribute [local go_sem] Oper.semAt_some

/-- what a trie falls into: prefixes and the value of each -/
def _root_.Go.Proofs.Ytaoahghfmlegbab.Tr.parts : Tr → Nat → Int → List ((Int × Int) × Bool)
  | .leaf v, k, a => [((a, 16 - (k : Int)), v)]
  | .node x y, k, a => x.parts (k - 1) a ++ y.parts (k - 1) (a + pw (k - 1))
/-- those whose value is true -/
def taken (ps : List ((Int × Int) × Bool)) : List (Int × Int) := (ps.filter fun q => q.2).map fun q => q.1
theorem taken_app (p q : List ((Int × Int) × Bool)) : taken (p ++ q) = taken p ++ taken q := by simp [taken]
theorem taken_parts : ∀ (t : Tr) (k : Nat) (a : Int), taken (t.parts k a) = t.tell k a
  | .leaf true, _, _ => rfl
  | .leaf false, _, _ => rfl
  | .node x y, k, a => by
    simp only [Tr.parts, Tr.tell]
    rw [taken_app, taken_parts x, taken_parts y]
theorem parts_len (S : Int → Bool) : ∀ (k : Nat) (a : Int), ((canon S k a).parts k a).length ≤ 2 ^ k
  | 0, a => by rw [canon_zero]; simp [Tr.parts]
  | k + 1, a => by
    cases hc : canon S (k + 1) a with
    | leaf v => simp [Tr.parts]; exact Nat.one_le_pow _ _ (by decide)
    | node x y =>
      obtain ⟨rfl, rfl⟩ := canon_node hc
      simp only [Tr.parts, Nat.add_sub_cancel, List.length_append]
      have h1 := parts_len S k a
      have h2 := parts_len S k (a + pw k)
      have h3 : 2 ^ (k + 1) = 2 ^ k + 2 ^ k := by rw [Nat.pow_succ]; omega
      omega
/-- how one of them is handed over -/
def enc2 (q : (Int × Int) × Bool) : Array Value := #[.agg #[.int .i64 q.1.1, .int .i64 q.1.2], .bool q.2]

theorem room_none {F : Fence} (hd : F.depth = none) (k : Nat) : F.room k := fun d h => by rw [hd] at h; cases h
theorem round_any {F : Fence} (hd : F.depth = none) {m m' : Nat} {P : Program} {l : Nat} {f : FuncId} {tmps : Array Value} {assign body : Code} {w : World} {R : Ending → World → Prop}
    (h : RoundIn F m P l f tmps assign body w R) : RoundIn F m' P l f tmps assign body w R := ⟨h.1, fun c cs _ => h.2 c cs (room_none hd _)⟩
theorem yield_any {F : Fence} (hd : F.depth = none) {m : Nat} (m' : Nat) {P : Program} {l : Nat} {args : Array Value} {W : World} {R : Ending → World → Prop} (h : YieldAt F m P l args W R) : YieldAt F m' P l args W R := by
  obtain ⟨fn, tmps, assign, body, hy, hR⟩ := h
  exact ⟨fn, tmps, assign, body, hy, round_any hd hR⟩

/-- the block b is not the row of the list that lies in the box T -/
def NotRow (T : Nat) (W : World) (b : Nat) : Prop := ∀ v, W.cell? ⟨T, 0, none⟩ = some v → v.ownBlock ≠ some b
/-- the row of the list that lies in the box T has been made -/
def RowIn (T : Nat) (W : World) : Prop := ∀ v, W.cell? ⟨T, 0, none⟩ = some v → ∀ b, v.ownBlock = some b → b < W.heap.size
/-- what a round keeps: all below n₀; all cells but the box T and its row -/
def Kp (n₀ T : Nat) (W W' : World) : Prop :=
  Below n₀ W W' ∧ (∀ b o, W.heap[b]? = some o → o.isCells = true → b ≠ T → NotRow T W b → W'.heap[b]? = some o ∧ NotRow T W' b) ∧ (RowIn T W → RowIn T W')
theorem kp_t {n₀ T : Nat} {A B C : World} (h : Kp n₀ T A B) (k : Kp n₀ T B C) : Kp n₀ T A C :=
  ⟨h.1.trans k.1, fun b o h1 h2 h3 h4 => have q := h.2.1 b o h1 h2 h3 h4; k.2.1 b o q.1 h2 h3 q.2, fun r => k.2.2 (h.2.2 r)⟩
theorem kp_below {n₀ T : Nat} {W W' : World} (hb : Below W.heap.size W W') (hT : T < W.heap.size) (hn : n₀ ≤ W.heap.size) : Kp n₀ T W W' := by
  have hc := hb.cell (p := ⟨T, 0, none⟩) hT
  refine ⟨hb.mono hn, fun b o h1 _ _ h4 => ⟨(hb.block b (Array.getElem?_eq_some_iff.1 h1).1).trans h1, fun v hv => h4 v (by rw [← hc]; exact hv)⟩, fun r v hv b h => ?_⟩
  exact Nat.lt_of_lt_of_le (r v (by rw [← hc]; exact hv) b h) hb.size
theorem kp_b {n₀ T : Nat} {w : World} (hT : T < w.heap.size) (hn : n₀ ≤ w.heap.size) (W : World) (l : Nat) (o o' : Obj) (hl : w.heap.size ≤ l) (h : W.heap[l]? = some o) (ho : o.isCells = false) (hw : o.isWalk = false) : Kp n₀ T W (W.putObj l o') := by
  have hb := belowK_b (w := w) hn W l o o' hl h ho hw
  have hx : ∀ b, b ≠ l → (W.putObj l o').heap[b]? = W.heap[b]? := fun b hb => World.putObj_heap_other (fun e => hb (by rw [e]))
  have hc : (W.putObj l o').cell? ⟨T, 0, none⟩ = W.cell? ⟨T, 0, none⟩ := World.cell?_of_block (hx T (by omega))
  refine ⟨hb, fun b q h1 h2 _ h4 => ⟨(hx b (fun e => ?_)).trans h1, fun v hv => h4 v (by rw [← hc]; exact hv)⟩, fun r v hv b h => ?_⟩
  · subst e; rw [h] at h1; cases h1; rw [ho] at h2; cases h2
  · exact Nat.lt_of_lt_of_le (r v (by rw [← hc]; exact hv) b h) hb.size
/-- a block that a call has made itself -/
theorem kp_new {n₀ T : Nat} {W W' : World} {b : Nat} {o : Obj} (hk : Kp n₀ T W W') (h : W.heap[b]? = some o) (ho : o.isCells = true) (hT : b ≠ T) (hr : NotRow T W b) : W'.heap[b]? = some o := (hk.2.1 b o h ho hT hr).1

/-- what tell leaves -/
def TellPost (n₀ T : Nat) (J Jx : List ((Int × Int) × Bool) → World → Prop) (pre ps : List ((Int × Int) × Bool)) (W : World) (e : Ending) (W' : World) : Prop :=
  (e = .returned (.bool true) ∧ J (pre ++ ps) W' ∧ Kp n₀ T W W') ∨ (e = .returned (.bool false) ∧ ∃ q, q <+: ps ∧ Jx (pre ++ q) W')

set_option maxRecDepth 100000 in
set_option maxHeartbeats 1000000 in
theorem tell_leaf (l n₀ T : Nat) (J Jx : List ((Int × Int) × Bool) → World → Prop) (a d : Int) (v : Bool) (B o : Nat) (pre : List ((Int × Int) × Bool)) (W : World) (hT : Two W B o (.bool v) (.pointer none)) (hn : n₀ ≤ W.heap.size) (hT0 : T < W.heap.size)
    (hY : ∀ W', Below W.heap.size W W' → YieldAt Fence.wide 0 Try.prog l (enc2 ((a, d), v)) W' fun e W2 => (e = .returned (.bool true) ∧ J (pre ++ [((a, d), v)]) W2 ∧ Kp n₀ T W' W2) ∨ (e = .returned (.bool false) ∧ Jx (pre ++ [((a, d), v)]) W2)) :
    Calls Try.prog 64 #[.pointer (some ⟨B, o, none⟩), .agg #[.int .i64 a, .int .i64 d], .func (.yield l) #[] #[]] W (TellPost n₀ T J Jx pre [((a, d), v)] W) := by
  have b0 : Below W.heap.size W (W.alloc (.cells #[.int .i64 a, .int .i64 d] 24)).drew := ((Below.refl _ _).more _).drew
  obtain ⟨fn, tmps, assign, body, hy, hR⟩ := hY _ b0
  dsimp only [enc2] at hy
  have hl := hT.lt
  obtain ⟨t0, t1, t2, t3⟩ := hT
  clear hY b0
  have hmix : Try.prog.follows .mixedOrders = true := by kernel_rfl
  have hR2 := (round_any (m' := 0) rfl hR).mono (R' := fun e W2 => ∃ r : Bool, e = .returned (.bool r) ∧ Hid ((r = true → J (pre ++ [((a, d), v)]) W2 ∧ Kp n₀ T (W.alloc (.cells #[.int .i64 a, .int .i64 d] 24)).drew W2) ∧ (r = false → Jx (pre ++ [((a, d), v)]) W2))) (fun e W2 h => h.elim (fun ⟨he, hj, hb⟩ => ⟨true, he, fun _ => ⟨hj, hb⟩, fun h => by cases h⟩) (fun ⟨he, hj⟩ => ⟨false, he, (fun h => by cases h), fun _ => hj⟩))
  clear hR
  refine (callsIn_wide (n := 0)).1 ?_
  refine callsIn_of_wp Try.func64 rfl trivial ?_ rfl
  simp only [Try.ntmps64, List.size_toArray, List.length_cons, List.length_nil, Nat.reduceAdd, Nat.reduceSub, Array.replicate_succ, Array.replicate_zero, List.push_toArray, List.append_toArray, List.nil_append, List.cons_append]
  gi_wp2
  gi_region_with_o (refine ⟨rfl, ?_⟩; refine hR2.mono ?_; rintro e W2 ⟨r, rfl, hq⟩)
  all_goals
    gi_wp2
    go_ret
    cases r with
    | true =>
      obtain ⟨hj, hb⟩ := hq.out.1 rfl
      exact .inl ⟨rfl, hj, kp_t (kp_below ((Below.refl _ W).more _).drew hT0 hn) hb⟩
    | false => exact .inr ⟨rfl, [((a, d), v)], List.prefix_refl _, hq.out.2 rfl⟩
end Go.Proofs.Ytaoahghfmlegbab
