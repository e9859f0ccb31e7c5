/- The program's NetWithout and NetCover. -/
import Derived.Test.YtaoahghfmlegbabTellA
import Derived.Test.YtaoahghfmlegbabSpecSet
import Derived.Deep.AppendLies
import Derived.Maps.AppendAt
namespace Go.Proofs.Ytaoahghfmlegbab
open Go.RowKit Go.Lib Go.Shelf

attribute [local go_sem] Oper.semAt_some

/-- append within a fence, telling which block the answer lies in -/
theorem appendIn_lies {F : Fence} {n : Nat} {P : Program} (w : World) {ops : Array Oper} {rest : List Oper} {o : Oper} {a : Act} {Q : Exit → Act → World → Prop}
    (hg : o.guard = none) (s x : Operand) (t : TypeId) (hop : o.op = Op.call { callee := Callee.builtin Builtin.append, args := #[s, x], argTypes := #[t, t] })
    (base : Nat) (e : TypeId) (i : TypeInfo) (z : Value) (size bytes : Nat) (h1 : P.underlying t = some (.slice e)) (h2 : P.info? e = some i) (h3 : i.zero = some z) (h4 : i.size = size) (h5 : i.bytes = bytes) (h6 : z.cells.size = size) (h7 : 0 < size)
    (v : Value) (k : Nat) (xs : List Value) (hs : a.eval s = v) (hown : w.ownsRow base e size v k xs) (ad : Addr) (m c : Nat) (news : List Value) (hx : a.eval x = .slice (some ad) m c) (hn : news.length = m * size)
    (hc : ∀ j u, news[j]? = some u → w.cell? (ad.add j) = some u) (h1c : ∀ u ∈ news, u.oneCell' = true) (hm : 0 < m) (b1 : k + m ≤ maxLen) (b2 : (k + m) * bytes ≤ 140737488355328) (b3 : base ≤ w.heap.size)
    (hK : ∀ g cap w', w'.ownsRow base e size (.slice (some ⟨g, 0, none⟩) (k + m) cap) (k + m) (xs ++ news) → w.grownBy w' v.ownBlock → (v.ownBlock = some g ∨ g = w.heap.size) → g < w'.heap.size → wpListIn F n P ops Q rest (a.put o.dst (.slice (some ⟨g, 0, none⟩) (k + m) cap)) w') :
    wpListIn F n P ops Q (o :: rest) a w := by
  refine wpListIn_plain hg fun K hK' => ?_
  obtain ⟨g, cap, w', hrun, r1, r2, r3, r4⟩ := run_append_lies (P := P) w t o.type base e i z size bytes h1 h2 h3 h4 h5 h6 h7 v k xs hown ad m c news hn hc h1c hm b1 b2 b3 w.heap.size rfl
  unfold Oper.wpIn
  refine ⟨?_, ?_⟩
  · simp [Oper.about, hop, resolve, Target.leads, Sem.run_pure]
  · rw [Oper.semAt_plain F _ _ (by rw [hop]; intro c hc'; cases hc')]
    simp [execOp, hop, resolve, invoke, builtin, hs, hx, hrun, Result.andThen]
    exact hK' _ _ (hK g cap w' r1 r2 r3 r4)

theorem cell_pair (w : World) (x y : Value) (t : TypeId) : ∀ j u, [x, y][j]? = some u → (w.alloc (.cells #[x, y] t)).cell? ((⟨w.heap.size, 0, none⟩ : Addr).add j) = some u := by
  intro j u hj
  match j, hj with
  | 0, hj => simp at hj; subst hj; simp [Addr.add]
  | 1, hj => simp at hj; subst hj; simp [Addr.add]
  | j + 2, hj => simp at hj
theorem taken_no (pre : List ((Int × Int) × Bool)) (q : Int × Int) : taken (pre ++ [(q, false)]) = taken pre := by simp [taken]
theorem taken_yes (pre : List ((Int × Int) × Bool)) (q : Int × Int) : taken (pre ++ [(q, true)]) = taken pre ++ [q] := by simp [taken]
theorem rowin_nil {W : World} {T : Nat} {t : TypeId} (h : Boxed W T t (.slice none 0 0)) : RowIn T W := by
  intro v hv b e
  rw [h.cell] at hv
  cases hv
  cases e
theorem loop_world (w : World) (p : Value) (t s r : TypeId) :
    (((w.alloc (.cells #[.slice none 0 0] t)).alloc (.cells #[p] s)).alloc (.cells #[.int .i64 0, .int .i64 0] r)).cell? ⟨w.heap.size + 1, 0, none⟩ = some p ∧
    (((w.alloc (.cells #[.slice none 0 0] t)).alloc (.cells #[p] s)).alloc (.cells #[.int .i64 0, .int .i64 0] r)).cell? ⟨w.heap.size + 1 + 1, 0, none⟩ = some (.int .i64 0) ∧
    (((w.alloc (.cells #[.slice none 0 0] t)).alloc (.cells #[p] s)).alloc (.cells #[.int .i64 0, .int .i64 0] r)).cell? ⟨w.heap.size + 1 + 1, 1, none⟩ = some (.int .i64 0) ∧
    Below w.heap.size w (((w.alloc (.cells #[.slice none 0 0] t)).alloc (.cells #[p] s)).alloc (.cells #[.int .i64 0, .int .i64 0] r)) ∧
    Boxed (((w.alloc (.cells #[.slice none 0 0] t)).alloc (.cells #[p] s)).alloc (.cells #[.int .i64 0, .int .i64 0] r)) w.heap.size t (.slice none 0 0) ∧
    (((w.alloc (.cells #[.slice none 0 0] t)).alloc (.cells #[p] s)).alloc (.cells #[.int .i64 0, .int .i64 0] r)).heap.size = w.heap.size + 1 + 1 + 1 := by
  refine ⟨?_, ?_, ?_, (((Below.refl _ _).more _).more _).more _, ((Boxed.new w t _).alloc _).alloc _, by simp⟩
  · rw [World.cell?_alloc_lt _ _ _ (by simp), World.cell?_alloc_at _ _ _ _ (by simp)]; rfl
  · rw [World.cell?_alloc_at _ _ _ _ (by simp)]; rfl
  · rw [World.cell?_alloc_at _ _ _ _ (by simp)]; rfl
theorem told_now {w7 : World} {T : Nat} {u : Value} (h : (w7.cell? ⟨T, 0, none⟩).isSome = true) : (w7.setCell ⟨T, 0, none⟩ u).cell? ⟨T, 0, none⟩ = some u := World.cell?_setCell_same' _ _ _ h
/-- what a round that appends keeps -/
theorem kp_app {n₀ T : Nat} {W w7 : World} {t : TypeId} {tv : Value} {tmp : Obj} {g n cap : Nat} (hv : Boxed W T t tv) (hv1 : Boxed w7 T t tv) (hg : (W.alloc tmp).grownBy w7 tv.ownBlock) (hl : tv.ownBlock = some g ∨ g = (W.alloc tmp).heap.size) (hlt : g < w7.heap.size)
    (hb : Below n₀ W (w7.setCell ⟨T, 0, none⟩ (.slice (some ⟨g, 0, none⟩) n cap))) : Kp n₀ T W (w7.setCell ⟨T, 0, none⟩ (.slice (some ⟨g, 0, none⟩) n cap)) := by
  have hs := hg.size
  rw [World.size_alloc] at hs
  refine ⟨hb, fun b o h1 _ h3 h4 => ?_, fun _ v hv' b e => ?_⟩
  · have hlb := (Array.getElem?_eq_some_iff.1 h1).1
    have hne := h4 tv hv.cell
    refine ⟨?_, fun v hv' e => ?_⟩
    · rw [Below.heap_setCell _ _ _ _ h3, hg.block b (by rw [World.size_alloc]; omega) (fun e => hne e.symm), Below.heap_alloc _ _ _ hlb]; exact h1
    · rw [told_now] at hv'
      · cases hv'
        cases e
        rcases hl with k | k
        · exact hne k
        · rw [World.size_alloc] at k; have hk : g < W.heap.size := hlb; omega
      · rw [hv1.cell]; rfl
  · rw [told_now] at hv'
    · cases hv'
      cases e
      simpa using hlt
    · rw [hv1.cell]; rfl
theorem root_new (w : World) : Root w.heap.size (w.alloc (.cells #[.bool false, .pointer none] 70)) w.heap.size (canon (fun _ => false) 16 0) := by
  rw [canon_const (v := false) 16 0 (fun _ _ _ => rfl)]
  exact ⟨[], ⟨rfl, by simp, by simp, fz_new _ _ _ _, fz_new _ _ _ _⟩, by simp, Nat.le_refl _, by simp⟩

set_option maxRecDepth 100000 in
set_option maxHeartbeats 2000000 in
theorem iwithout_go (L O : List (Int × Int)) (pL pO : Option Addr) (cL cO : Nat) (w : World) (rL : Rd w (.slice pL L.length cL) L) (rO : Rd w (.slice pO O.length cO) O) (hL : okSet L = true) (hO : okSet O = true) :
    Calls Try.prog 24 #[.slice pL L.length cL, .slice pO O.length cO] w fun e w' => ∃ v, e = .returned v ∧ Row w' w.heap.size v (few (setOf L O) 16 0) ∧ Below w.heap.size w w' := by
  obtain ⟨nL, oL⟩ := okSet_of hL
  obtain ⟨nO, oO⟩ := okSet_of hO
  have sL : ∀ w', Below w.heap.size w w' → Calls Try.prog 44 #[.slice pL L.length cL] w' fun e w'' => e = .returned (.bool true) ∧ Below w'.heap.size w' w'' := fun w' h => by have := isset_any L _ w' (rL.below h); rw [hL] at this; exact this
  have sO : ∀ w', Below w.heap.size w w' → Calls Try.prog 44 #[.slice pO O.length cO] w' fun e w'' => e = .returned (.bool true) ∧ Below w'.heap.size w' w'' := fun w' h => by have := isset_any O _ w' (rO.below h); rw [hO] at this; exact this
  have HB := Below.refl w.heap.size w
  refine (callsIn_wide (n := 3)).1 ?_
  refine callsIn_of_wp_marks Try.func24 rfl trivial ?_ rfl
  simp only [Try.ntmps24, List.size_toArray, List.length_cons, List.length_nil, Nat.reduceAdd, Nat.reduceSub, Array.replicate_succ, Array.replicate_zero, List.push_toArray, List.append_toArray, List.nil_append, List.cons_append]
  gi_wp2_with (first
    | ((try refine ⟨trivial, ?_⟩); gi_at_call 44; refine (callsIn_wide.2 (sL _ HB)).mono ?_; clear sL; rintro e w1 ⟨rfl, hb⟩; replace HB := below_then HB hb)
    | ((try refine ⟨trivial, ?_⟩); gi_at_call 44; refine (callsIn_wide.2 (sO _ HB)).mono ?_; clear sO; rintro e w2 ⟨rfl, hb⟩; replace HB := below_then HB hb))
  have h20 : Below w2.heap.size w2 (w2.alloc (.cells #[.bool false, .pointer none] 70)) := (Below.refl _ _).more _
  have p1 := putall_any w2.heap.size L true (fun _ => false) w2.heap.size (.slice pL L.length cL) (w2.alloc (.cells #[.bool false, .pointer none] 70)) (fun w' h => (rL.below HB).below (h20.trans h)) oL nL (root_new w2) h20.size
  gi_wp2_with ((try refine ⟨trivial, ?_⟩); gi_at_call 45; refine (callsIn_wide.2 p1).mono ?_; clear p1; rintro e w3 ⟨⟨u1, rfl⟩, r3, hb3⟩)
  have h23 := h20.trans hb3
  have p2 := putall_any w2.heap.size O false (setF L true fun _ => false) w2.heap.size (.slice pO O.length cO) w3 (fun w' h => (rO.below HB).below (h23.trans h)) oO nO r3 h23.size
  rw [setF_both] at p2
  gi_wp2_with ((try refine ⟨trivial, ?_⟩); gi_at_call 45; refine (callsIn_wide.2 p2).mono ?_; clear p2; rintro e w4 ⟨⟨u2, rfl⟩, r4, hb4⟩)
  have h24 : Below w.heap.size w w4 := below_then HB (h23.trans hb4)
  clear h20 hb3 h23 hb4 r3 HB hb rL rO hL hO nL oL nO oO
  obtain ⟨fp, t4, _, _, _⟩ := r4
  gi_wp2_with ((try refine ⟨trivial, ?_⟩); gi_at_call 46; refine (callsIn_wide.2 (parts_any _ _)).mono ?_; rintro e w6 ⟨rfl, rfl⟩)
  obtain ⟨i0, hi, hz0, hz1, hz2⟩ := info_parts infoP
  have hlt := t4.lt
  obtain ⟨c1, c2, c3, hb6, bx, hs6⟩ := loop_world w4 (.pointer (some ⟨w2.heap.size, 0, none⟩)) 33 105 24
  generalize ((w4.alloc (.cells #[.slice none 0 0] 33)).alloc (.cells #[.pointer (some ⟨w2.heap.size, 0, none⟩)] 105)).alloc (.cells #[.int .i64 0, .int .i64 0] 24) = W6 at *
  have hpl : ((canon (setOf L O) 16 0).parts 16 0).length ≤ 65536 := parts_len (setOf L O) 16 0
  refine wpIn_rangeFunc_ownH rfl (by decide) (gf := 63) (lb := #[.pointer (some ⟨w4.heap.size + 1, 0, none⟩), .pointer (some ⟨w4.heap.size + 1 + 1, 0, none⟩)]) rfl trivial (enters_of Try.func63 (by kernel_rfl) rfl)
    (told_stops 2 w4.heap.size w4.heap.size (setOf L O) (w4.heap.size + 1) (w4.heap.size + 1 + 1) w2.heap.size fp W6 c1 c2 c3 (t4.below hb6) hlt.1 hlt.2 (by omega) (by omega) (rowin_nil bx)) kp_t (kp_b (by omega) (by omega)) (Below.refl _ _) (fun _ => rfl)
    (fun pre W => (∃ v, Boxed W w4.heap.size 33 v ∧ W.ownsRow w4.heap.size 24 2 v (taken pre).length (flat (taken pre)) ∧ True) ∧ Below w4.heap.size w4 W)
    (fun _ _ _ => False)
    (OwnFrom.and (Own.from (holdsRow_own w4.heap.size w4.heap.size 33 24 2 (fun pre => (taken pre).length) (fun pre => flat (taken pre)) (fun _ _ => True)) _) (ownFrom_below (Nat.le_refl _) (by omega)))
    (fun _ _ _ _ _ hs _ _ => hs)
    ⟨⟨_, bx, World.ownsRow_nil _ _ _ _, trivial⟩, hb6⟩
    (fun x a' W => ∃ Bx, w4.heap.size < Bx ∧ W.heap[Bx]? = some (.cells #[.int .i64 x.1.1, .int .i64 x.1.2] 24) ∧ a' = { tmps := #[.slice pL L.length cL, .slice pO O.length cO, undef, undef, .slice none 0 0, .pointer (some ⟨w2.heap.size, 0, none⟩), .pointer (some ⟨w4.heap.size, 0, none⟩), .pointer (some ⟨Bx, 0, none⟩), .bool x.2, .slice pL L.length cL, .bool true, .bool false, .bool false, .slice pO O.length cO, .bool true, .bool false, .bool false, .slice pL L.length cL, u1, .slice pO O.length cO, u2, .agg #[.int .i64 0, .int .i64 0], .func (.func 63) #[] #[.pointer (some ⟨w4.heap.size + 1, 0, none⟩), .pointer (some ⟨w4.heap.size + 1 + 1, 0, none⟩)], .agg #[.int .i64 x.1.1, .int .i64 x.1.2], .bool x.2, undef, undef, undef, undef, undef, undef], defers := [] })
    (fun x a' => fun _ W W' row ⟨Bx, h1, h2, h3⟩ hg hr => ⟨Bx, h1, (hg.block Bx (Array.getElem?_eq_some_iff.1 h2).1 (fun e => by obtain ⟨_, o, ho, hc⟩ := hr Bx e.symm; rw [h2] at ho; cases ho; cases hc)).trans h2, h3⟩)
    ?assign ?body ?done ?stop
  case assign =>
    rintro l pre ⟨⟨a, d⟩, v⟩ W K ⟨⟨tv, hv, hrow, _⟩, hB⟩ hK
    have hT := hv.lt
    simp only [enc2]
    gi_wp2
    exact hK _ _ ((KeepsOthers.alloc _ _).from _) (kp_below ((Below.refl _ W).more _) hT (by omega)) ⟨⟨tv, hv.alloc _, hrow.alloc _, trivial⟩, hB.alloc hB.size _⟩ ⟨W.heap.size, hT, heap_new _ _, rfl⟩
  case body =>
    rintro l pre ⟨⟨a, d⟩, v⟩ a' W hl hr ⟨⟨tv, hv, hrow, _⟩, hB⟩ ⟨Bx, hBx, hX, rfl⟩ hlen
    have hT := hv.lt
    have hc := hv.cell
    have x0 : W.cell? ⟨Bx, 0, none⟩ = some (.int .i64 a) := by simp [World.cell?, hX]
    have x1 : W.cell? ⟨Bx, 1, none⟩ = some (.int .i64 d) := by simp [World.cell?, hX]
    have htl : (taken pre).length ≤ pre.length := by unfold taken; rw [List.length_map]; exact List.length_filter_le _ _
    cases v with
    | false =>
      dsimp only
      gi_wp2
      exact ⟨KeepsFrom.refl _ _, kp_below (Below.refl _ _) hT hB.size, ⟨⟨tv, hv, by rw [taken_no]; exact hrow⟩, hB⟩⟩
    | true =>
      dsimp only
      gi_wp2_with (gi_at_builtin; refine appendIn_lies _ rfl _ _ 33 rfl w4.heap.size 24 i0 (.agg #[.int .i64 0, .int .i64 0]) 2 16 Try.underlying33 hi hz0 hz1 hz2 rfl (by decide) _ _ _ rfl (hrow.alloc _) ⟨W.heap.size, 0, none⟩ 1 1 [.int .i64 a, .int .i64 d] rfl rfl (cell_pair _ _ _ _) (by simp [Value.oneCell']) (by decide) (by unfold maxLen; omega) (by omega) (by have := hB.size; simp; omega) ?_; intro g' cap' w7 hown' hgrow hlies hlt7; obtain ⟨hv1, hv2, hr2, hk2, hb2⟩ := hv.appended (by decide) hrow hB.size (Nat.le_refl _) hown' hgrow; have hc1 := hv1.cell; have hf1 := hv1.frozen)
      exact ⟨hk2.from _, kp_app hv hv1 hgrow hlies hlt7 hb2, ⟨⟨_, hv2, by rw [taken_yes, List.length_append, flat_app]; exact hr2⟩, hB.trans hb2⟩⟩
  case done =>
    rintro D ys W hD rfl ⟨⟨v, hv, hrow, _⟩, hB⟩ hK
    have hc := hv.cell
    rw [taken_parts] at hrow
    gi_wp2
    refine ⟨by simp, .inl ⟨_, _, rfl, run_takeDeferred hK, ?_⟩⟩
    refine ⟨_, results_tmp rfl _ _ _, v, rfl, Row.mono (b := w4.heap.size) (ownsRow_putObj hrow _ hK rfl) h24.size, below_then h24 (hB.trans (belowK_b (w := W6) (by omega) W D _ _ hD hK rfl rfl))⟩
  case stop =>
    rintro D c pre W _ _ h _
    exact h.elim

set_option maxRecDepth 100000 in
set_option maxHeartbeats 1000000 in
theorem iwithout_any (L O : List (Int × Int)) (vL vO : Value) (w : World) (rL : Rd w vL L) (rO : Rd w vO O) :
    Calls Try.prog 24 #[vL, vO] w fun e w' => ∃ v, e = .returned v ∧ Row w' w.heap.size v (fewOf L O) ∧ Below w.heap.size w w' := by
  obtain ⟨pL, cL, rfl⟩ := rL.form
  obtain ⟨pO, cO, rfl⟩ := rO.form
  cases hL : okSet L with
  | false =>
    rw [few_noL hL]
    have sL : ∀ w', Below w.heap.size w w' → Calls Try.prog 44 #[.slice pL L.length cL] w' fun e w'' => e = .returned (.bool false) ∧ Below w'.heap.size w' w'' := fun w' h => by have := isset_any L _ w' (rL.below h); rw [hL] at this; exact this
    have HB := Below.refl w.heap.size w
    refine (callsIn_wide (n := 3)).1 ?_
    refine callsIn_of_wp_marks Try.func24 rfl trivial ?_ rfl
    simp only [Try.ntmps24, List.size_toArray, List.length_cons, List.length_nil, Nat.reduceAdd, Nat.reduceSub, Array.replicate_succ, Array.replicate_zero, List.push_toArray, List.append_toArray, List.nil_append, List.cons_append]
    gi_wp2_with ((try refine ⟨trivial, ?_⟩); gi_at_call 44; refine (callsIn_wide.2 (sL _ HB)).mono ?_; clear sL; rintro e w1 ⟨rfl, hb⟩; replace HB := below_then HB hb)
    refine ⟨trivial, ?_⟩
    gi_wp2
    exact ⟨_, results_tmp rfl _ _ _, _, rfl, Row.nil _ _, HB⟩
  | true =>
    cases hO : okSet O with
    | false =>
      rw [few_noO hO]
      have sL : ∀ w', Below w.heap.size w w' → Calls Try.prog 44 #[.slice pL L.length cL] w' fun e w'' => e = .returned (.bool true) ∧ Below w'.heap.size w' w'' := fun w' h => by have := isset_any L _ w' (rL.below h); rw [hL] at this; exact this
      have sO : ∀ w', Below w.heap.size w w' → Calls Try.prog 44 #[.slice pO O.length cO] w' fun e w'' => e = .returned (.bool false) ∧ Below w'.heap.size w' w'' := fun w' h => by have := isset_any O _ w' (rO.below h); rw [hO] at this; exact this
      have HB := Below.refl w.heap.size w
      refine (callsIn_wide (n := 3)).1 ?_
      refine callsIn_of_wp_marks Try.func24 rfl trivial ?_ rfl
      simp only [Try.ntmps24, List.size_toArray, List.length_cons, List.length_nil, Nat.reduceAdd, Nat.reduceSub, Array.replicate_succ, Array.replicate_zero, List.push_toArray, List.append_toArray, List.nil_append, List.cons_append]
      gi_wp2_with (first
        | ((try refine ⟨trivial, ?_⟩); gi_at_call 44; refine (callsIn_wide.2 (sL _ HB)).mono ?_; clear sL; rintro e w1 ⟨rfl, hb⟩; replace HB := below_then HB hb)
        | ((try refine ⟨trivial, ?_⟩); gi_at_call 44; refine (callsIn_wide.2 (sO _ HB)).mono ?_; clear sO; rintro e w2 ⟨rfl, hb⟩; replace HB := below_then HB hb))
      exact ⟨_, results_tmp rfl _ _ _, _, rfl, Row.nil _ _, HB⟩
    | true =>
      rw [few_yes hL hO]
      exact iwithout_go L O pL pO cL cO w rL rO hL hO

set_option maxRecDepth 100000 in
set_option maxHeartbeats 400000 in
theorem icover_any (L : List (Int × Int)) (vL : Value) (w : World) (rL : Rd w vL L) :
    Calls Try.prog 20 #[vL] w fun e w' => ∃ v, e = .returned v ∧ Row w' w.heap.size v (fewOf L []) ∧ Below w.heap.size w w' := by
  obtain ⟨pL, cL, rfl⟩ := rL.form
  have hw := iwithout_any L [] (.slice pL L.length cL) (.slice none 0 0) w rL (.inl ⟨rfl, rfl⟩)
  go_enter Try.func20, Try.ntmps20
  go_wp2_with (go_at_call 24; refine hw.mono ?_; clear hw; rintro e w1 ⟨v, rfl, hrow, hb⟩)
  go_ret
  exact ⟨v, rfl, hrow, hb⟩
end Go.Proofs.Ytaoahghfmlegbab
