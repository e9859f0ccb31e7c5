/- The functions that match, made once: matchers$1. -/
import Derived.Test.YtaoahghfmlegbaaOnce
import Derived.BigQuiet
import Derived.Deep.AppendLies
import Derived.Deep.DeepCutAuto
import Derived.Maps.AppendAt
import Derived.Maps.Range
import Derived.RangeFuncBox
namespace Go.Proofs.Ytaoahghfmlegbaa
open Go.RowKit Go.Lib

/-- a rule turned into a function -/
abbrev mtV (r : Ru) : Value := .func (.func 97) #[ruV r] #[]
def mtC (L : List Ru) : List Value := L.map mtV
def RowM (w : World) (b : Nat) (v : Value) (L : List Ru) : Prop := w.ownsRow b 99 1 v L.length (mtC L)
/-- functions that can be read -/
def RdM (w : World) (v : Value) (L : List Ru) : Prop :=
  (v = .slice none 0 0 ∧ L = []) ∨ ∃ g cap, v = .slice (some ⟨g, 0, none⟩) L.length cap ∧ g < w.heap.size ∧ ∀ i r, L[i]? = some r → w.cell? ⟨g, i, none⟩ = some (mtV r)
theorem grown_set (w : World) (b j : Nat) (u : Value) : w.grownBy (w.setCell ⟨b, j, none⟩ u) (some b) :=
  ⟨rfl, rfl, rfl, by simp, fun k _ hk => Below.heap_setCell _ _ _ k (fun e => hk (by rw [e]))⟩
theorem grown_drewB (w : World) (row : Option Nat) : w.grownBy w.drew row := ⟨rfl, rfl, rfl, Nat.le_refl _, fun _ _ _ => rfl⟩
theorem grown_refl (w : World) (row : Option Nat) : w.grownBy w row := ⟨rfl, rfl, rfl, Nat.le_refl _, fun _ _ _ => rfl⟩
theorem grown_below {w w' : World} (hb : Below w.heap.size w w') (row : Option Nat) : w.grownBy w' row := ⟨hb.os, hb.tape, hb.output, hb.size, fun k hk _ => hb.block k hk⟩
theorem infoM : (Try.prog.info? 99).map (fun i => (i.zero, i.size, i.bytes)) = some (some .nilFunc, 1, 8) := by kernel_rfl
/-- what the making of the functions leaves: they stand in the list's block, all else is as it was -/
def Filled (W : World) (b : Nat) (L : List Ru) (w' : World) : Prop :=
  (∃ mv, w'.cell? ⟨b, 4, none⟩ = some mv ∧ RowM w' W.heap.size mv L) ∧ W.grownBy w' (some b) ∧ (∀ j, j ≠ 4 → w'.cell? ⟨b, j, none⟩ = W.cell? ⟨b, j, none⟩) ∧ ∀ j, w'.frozen? ⟨b, j, none⟩ = W.frozen? ⟨b, j, none⟩
/-- a list of rules does not lie in a block that opens with a slice -/
theorem RdR.grown {w w' : World} {v : Value} {L : List Ru} {b : Nat} {s : Option Addr} {n c : Nat} (h : RdR w v L) (hg : w.grownBy w' (some b)) (hb : w.cell? ⟨b, 0, none⟩ = some (.slice s n c)) : RdR w' v L := by
  rcases h with h | ⟨g, cap, hv, hl, hgl, hcs⟩
  · exact .inl h
  · refine .inr ⟨g, cap, hv, hl, Nat.lt_of_lt_of_le hgl hg.size, fun i r hr => ?_⟩
    have h0 : 0 < L.length := Nat.lt_of_le_of_lt (Nat.zero_le _) (List.getElem?_eq_some_iff.1 hr).1
    have hgb : g ≠ b := by
      rintro rfl
      have := (hcs 0 L[0] (List.getElem?_eq_getElem h0)).1
      rw [Nat.zero_mul, hb] at this
      cases this
    exact (hcs i r hr).same fun j => World.grownBy.cell_far hg ⟨g, j, none⟩ hgl (by simpa using hgb)
theorem RowM.below {w w' : World} {b : Nat} {v : Value} {L : List Ru} (h : RowM w b v L) (hb : Below w.heap.size w w') : RowM w' b v L := by
  refine World.ownsRow.kept (row := none) h ⟨hb.os, hb.tape, hb.output, hb.size, fun k hk _ => hb.block k hk⟩ ?_
  cases h : v.ownBlock with
  | none => exact .inl rfl
  | some g => exact .inr (by simp)
theorem mtC_app (L M : List Ru) : mtC (L ++ M) = mtC L ++ mtC M := by simp [mtC]
theorem take_mt {L : List Ru} {k : Nat} (h : k < L.length) : L.take (k + 1) = L.take k ++ [L[k]] := List.take_succ_eq_append_getElem h
theorem cell_oneM (w : World) (u : Value) (t : TypeId) : ∀ j x, [u][j]? = some x → (w.alloc (.cells #[u] t)).cell? ((⟨w.heap.size, 0, none⟩ : Addr).add j) = some x := cell_one w u t

set_option maxRecDepth 100000 in
set_option maxHeartbeats 2000000 in
theorem fill_any (b q : Nat) (hqb : q ≠ b) (v : Value) (L : List Ru) (W : World) (hr : RdR W v L) (hlen : L.length ≤ 12)
    (hq : W.cell? ⟨q, 0, none⟩ = some (.pointer (some ⟨b, 0, none⟩))) (h0 : W.cell? ⟨b, 0, none⟩ = some v) (h4 : W.cell? ⟨b, 4, none⟩ = some (.slice none 0 0)) (f4 : W.frozen? ⟨b, 4, none⟩ = false) :
    Calls Try.prog 96 #[.pointer (some ⟨q, 0, none⟩)] W fun e w' => e = .returned (.tuple #[]) ∧ Filled W b L w' := by
  obtain ⟨p, cap, rfl⟩ := hr.form
  have hbW := cell_lt h0
  have hqW := cell_lt hq
  obtain ⟨i0, hi, hz0, hz1, hz2⟩ := info_parts infoM
  have hmf : ∀ (fn : Fn) (first cap : Array Value) (w : World), (Instr.makeFunc fn first cap).run Try.prog w = .ok (.func fn first cap) w := fun _ _ _ _ => rfl
  go_enter Try.func96, Try.ntmps96
  go_wp2_with fail
  go_loopw [8] (fun i wr => ∃ k : Nat, k ≤ L.length ∧ i = .int .i64 k ∧ Hid (Filled W b (L.take k) wr)) (fun i _ => L.length - (intOf i).toNat)
  case atStart =>
    refine ⟨0, Nat.zero_le _, rfl, ⟨_, h4, ?_⟩, grown_refl _ _, fun _ _ => rfl, fun _ => rfl⟩
    exact World.ownsRow_nil _ _ _ _
  case round =>
    obtain ⟨k, hk, rfl, HF⟩ := hrel
    obtain ⟨⟨mv, hmv, hrow⟩, hgr, hsame, hfz⟩ := HF.out
    have hne : ∀ g, mv.ownBlock = some g → W.heap.size ≤ g := fun g e => (World.ownsRow.lt hrow g e).1
    by_cases hlt : k < L.length
    · have hqr : wr.cell? ⟨q, 0, none⟩ = some (.pointer (some ⟨b, 0, none⟩)) := by rw [World.grownBy.cell_far hgr ⟨q, 0, none⟩ hqW (by simpa using hqb)]; exact hq
      obtain ⟨g, rfl, hcap, hg, c0, c1, c2, c3, c4, c5⟩ := (hr.grown hgr h0).at hlt
      obtain ⟨rq, ra, rl, rb, rm, rk, hru⟩ := ru_parts L[k]
      rw [hru] at c0 c1 c2 c3 c4 c5
      go_wp2_with fail
      have hX : wr.heap.size < (wr.alloc (.cells #[.bool rq, .int .i64 ra, .int .i64 rl, .int .i64 rb, .int .i64 rm, .int .i64 rk] 48)).heap.size := by simp
      have x0 : ∀ j (hj : j < 6), (wr.alloc (.cells #[.bool rq, .int .i64 ra, .int .i64 rl, .int .i64 rb, .int .i64 rm, .int .i64 rk] 48)).cell? ⟨wr.heap.size, j, none⟩ = some ([Value.bool rq, .int .i64 ra, .int .i64 rl, .int .i64 rb, .int .i64 rm, .int .i64 rk][j]) := fun j hj => by
        rcases (show j = 0 ∨ j = 1 ∨ j = 2 ∨ j = 3 ∨ j = 4 ∨ j = 5 by omega) with rfl | rfl | rfl | rfl | rfl | rfl <;> simp
      have hbr : b < wr.heap.size := cell_lt hmv
      have hqr' : q < wr.heap.size := cell_lt hqr
      have hrow1 : RowM (wr.alloc (.cells #[.bool rq, .int .i64 ra, .int .i64 rl, .int .i64 rb, .int .i64 rm, .int .i64 rk] 48)) W.heap.size mv (L.take k) := World.ownsRow.alloc hrow _
      have hmv1 : (wr.alloc (.cells #[.bool rq, .int .i64 ra, .int .i64 rl, .int .i64 rb, .int .i64 rm, .int .i64 rk] 48)).cell? ⟨b, 4, none⟩ = some mv := by rw [World.cell?_alloc_lt _ _ _ hbr]; exact hmv
      have hq1 : (wr.alloc (.cells #[.bool rq, .int .i64 ra, .int .i64 rl, .int .i64 rb, .int .i64 rm, .int .i64 rk] 48)).cell? ⟨q, 0, none⟩ = some (.pointer (some ⟨b, 0, none⟩)) := by rw [World.cell?_alloc_lt _ _ _ hqr']; exact hqr
      have hgr1 : W.grownBy (wr.alloc (.cells #[.bool rq, .int .i64 ra, .int .i64 rl, .int .i64 rb, .int .i64 rm, .int .i64 rk] 48)) (some b) := hgr.trans (World.grownBy_alloc _ _ _)
      have hsame1 : ∀ j, j ≠ 4 → (wr.alloc (.cells #[.bool rq, .int .i64 ra, .int .i64 rl, .int .i64 rb, .int .i64 rm, .int .i64 rk] 48)).cell? ⟨b, j, none⟩ = W.cell? ⟨b, j, none⟩ := fun j hj => by rw [World.cell?_alloc_lt _ _ _ hbr]; exact hsame j hj
      have hfz1 : ∀ j, (wr.alloc (.cells #[.bool rq, .int .i64 ra, .int .i64 rl, .int .i64 rb, .int .i64 rm, .int .i64 rk] 48)).frozen? ⟨b, j, none⟩ = W.frozen? ⟨b, j, none⟩ := fun j => by rw [World.frozen?_alloc_old _ _ _ (Nat.ne_of_lt hbr)]; exact hfz j
      have hb1 : b < (wr.alloc (.cells #[.bool rq, .int .i64 ra, .int .i64 rl, .int .i64 rb, .int .i64 rm, .int .i64 rk] 48)).heap.size := cell_lt hmv1
      have hq1' : q < (wr.alloc (.cells #[.bool rq, .int .i64 ra, .int .i64 rl, .int .i64 rb, .int .i64 rm, .int .i64 rk] 48)).heap.size := cell_lt hq1
      have hXm : some wr.heap.size ≠ mv.ownBlock := fun e => by have := (World.ownsRow.lt hrow _ e.symm).2; omega
      have hbm : some b ≠ mv.ownBlock := fun e => by have := hne _ e.symm; omega
      have hqm : some q ≠ mv.ownBlock := fun e => by have := hne _ e.symm; omega
      clear c0 c1 c2 c3 c4 c5 hmv hqr hrow hgr hsame hfz HF
      generalize hV : wr.alloc (.cells #[.bool rq, .int .i64 ra, .int .i64 rl, .int .i64 rb, .int .i64 rm, .int .i64 rk] 48) = V at *
      clear hV
      have hbX : b < wr.heap.size := hbr
      generalize wr.heap.size = X at *
      have y0 := x0 0 (by omega)
      have y1 := x0 1 (by omega)
      have y2 := x0 2 (by omega)
      have y3 := x0 3 (by omega)
      have y4 := x0 4 (by omega)
      have y5 := x0 5 (by omega)
      clear x0
      simp only [List.getElem_cons_zero, List.getElem_cons_succ] at y0 y1 y2 y3 y4 y5
      have hkl : (L.take k).length = k := by simp; omega
      have hm4 : ∀ w', V.grownBy w' mv.ownBlock → w'.cell? ⟨b, 4, none⟩ = some mv := fun w' h => (h.cell_far ⟨b, 4, none⟩ hb1 hbm).trans hmv1
      have hz4 : ∀ w', V.grownBy w' mv.ownBlock → w'.frozen? ⟨b, 4, none⟩ = false := fun w' h => ((h.frozen_far ⟨b, 4, none⟩ hb1 hbm).trans (hfz1 4)).trans f4
      have sc : ∀ w', V.grownBy w' mv.ownBlock → (fun w' => w'.cell? ⟨q, 0, none⟩ = some (.pointer (some ⟨b, 0, none⟩)) ∧ w'.cell? ⟨X, 0, none⟩ = some (.bool rq) ∧ w'.cell? ⟨X, 1, none⟩ = some (.int .i64 ra) ∧ w'.cell? ⟨X, 2, none⟩ = some (.int .i64 rl) ∧ w'.cell? ⟨X, 3, none⟩ = some (.int .i64 rb) ∧ w'.cell? ⟨X, 4, none⟩ = some (.int .i64 rm) ∧ w'.cell? ⟨X, 5, none⟩ = some (.int .i64 rk)) w' := fun w' h =>
        ⟨(h.cell_far ⟨q, 0, none⟩ hq1' hqm).trans hq1, (h.cell_far ⟨X, 0, none⟩ hX hXm).trans y0, (h.cell_far ⟨X, 1, none⟩ hX hXm).trans y1, (h.cell_far ⟨X, 2, none⟩ hX hXm).trans y2, (h.cell_far ⟨X, 3, none⟩ hX hXm).trans y3, (h.cell_far ⟨X, 4, none⟩ hX hXm).trans y4, (h.cell_far ⟨X, 5, none⟩ hX hXm).trans y5⟩
      have hXb : X ≠ b := by omega
      have sc2 : ∀ w' u, V.grownBy w' mv.ownBlock → (fun w' => w'.cell? ⟨q, 0, none⟩ = some (.pointer (some ⟨b, 0, none⟩)) ∧ w'.cell? ⟨X, 0, none⟩ = some (.bool rq) ∧ w'.cell? ⟨X, 1, none⟩ = some (.int .i64 ra) ∧ w'.cell? ⟨X, 2, none⟩ = some (.int .i64 rl) ∧ w'.cell? ⟨X, 3, none⟩ = some (.int .i64 rb) ∧ w'.cell? ⟨X, 4, none⟩ = some (.int .i64 rm) ∧ w'.cell? ⟨X, 5, none⟩ = some (.int .i64 rk)) (w'.setCell ⟨b, 4, none⟩ u) := fun w' u h => by
        obtain ⟨s0, s1, s2, s3, s4, s5, s6⟩ := sc w' h
        have n1 : ∀ j, (w'.setCell ⟨b, 4, none⟩ u).cell? ⟨X, j, none⟩ = w'.cell? ⟨X, j, none⟩ := fun j => World.cell?_setCell_far _ _ _ _ (fun e => hXb e.symm)
        have n2 : ∀ j, (w'.setCell ⟨b, 4, none⟩ u).cell? ⟨q, j, none⟩ = w'.cell? ⟨q, j, none⟩ := fun j => World.cell?_setCell_far _ _ _ _ (fun e => hqb e.symm)
        simp only [n1, n2]
        exact ⟨s0, s1, s2, s3, s4, s5, s6⟩
      refine wp_region_held_drew (S := fun w' => w'.cell? ⟨q, 0, none⟩ = some (.pointer (some ⟨b, 0, none⟩)) ∧ w'.cell? ⟨X, 0, none⟩ = some (.bool rq) ∧ w'.cell? ⟨X, 1, none⟩ = some (.int .i64 ra) ∧ w'.cell? ⟨X, 2, none⟩ = some (.int .i64 rl) ∧ w'.cell? ⟨X, 3, none⟩ = some (.int .i64 rb) ∧ w'.cell? ⟨X, 4, none⟩ = some (.int .i64 rm) ∧ w'.cell? ⟨X, 5, none⟩ = some (.int .i64 rk)) (by kernel_rfl) (sc _ (grown_drewB _ _)) (fun hHeld => ?_)
      refine wpAnyH_take (i := 0) (oi := ⟨_, _, _, _, _, _⟩) (v := ?_) rfl (by kernel_rfl) (by kernel_rfl) (by kernel_rfl) (fun _ _ _ h => h) (Or.inl ⟨by rfl, ?_⟩) (by assumption) ?_
      rotate_left
      · (intro w hSw; (try dsimp only at hSw); go_simp; try with_reducible rfl)
      simp only [Act.put, List.setIfInBounds_toArray, List.set_cons_zero, List.set_cons_succ]
      refine wpAnyH_take (i := 1) (oi := ⟨_, _, _, _, _, _⟩) (v := ?_) rfl (by kernel_rfl) (by kernel_rfl) (by kernel_rfl) (fun _ _ _ h => h) (Or.inl ⟨by rfl, ?_⟩) (by assumption) ?_
      rotate_left
      · (intro w hSw; (try dsimp only at hSw); go_simp; try with_reducible rfl)
      simp only [Act.put, List.setIfInBounds_toArray, List.set_cons_zero, List.set_cons_succ]
      refine wpAnyH_take (i := 2) (oi := ⟨_, _, _, _, _, _⟩) (v := ?_) rfl (by kernel_rfl) (by kernel_rfl) (by kernel_rfl) (fun _ _ _ h => h) (Or.inl ⟨by rfl, ?_⟩) (by assumption) ?_
      rotate_left
      · (intro w hSw; (try dsimp only at hSw); go_simp; try with_reducible rfl)
      simp only [Act.put, List.setIfInBounds_toArray, List.set_cons_zero, List.set_cons_succ]
      refine wpAnyH_take (i := 3) (oi := ⟨_, _, _, _, _, _⟩) (v := ?_) rfl (by kernel_rfl) (by kernel_rfl) (by kernel_rfl) (fun _ _ _ h => h) (Or.inl ⟨by rfl, ?_⟩) (by assumption) ?_
      rotate_left
      · (intro w hSw; (try dsimp only at hSw); go_simp; try with_reducible rfl)
      simp only [Act.put, List.setIfInBounds_toArray, List.set_cons_zero, List.set_cons_succ]
      refine wpAnyH_take (i := 5) (oi := ⟨_, _, _, _, _, _⟩) (v := ?_) rfl (by kernel_rfl) (by kernel_rfl) (by kernel_rfl) (fun _ _ _ h => h) (Or.inl ⟨by rfl, ?_⟩) (by assumption) ?_
      rotate_left
      · (intro w hSw; (try dsimp only at hSw); go_simp; try with_reducible rfl)
      simp only [Act.put, List.setIfInBounds_toArray, List.set_cons_zero, List.set_cons_succ]
      refine wpAnyH_take (i := 6) (oi := ⟨_, _, _, _, _, _⟩) (v := ?_) rfl (by kernel_rfl) (by kernel_rfl) (by kernel_rfl) (fun _ _ _ h => h) (Or.inl ⟨by rfl, ?_⟩) (by assumption) ?_
      rotate_left
      · (intro w hSw; (try dsimp only at hSw); go_simp; try with_reducible rfl)
      simp only [Act.put, List.setIfInBounds_toArray, List.set_cons_zero, List.set_cons_succ]
      -- REGION
      have g0 : V.grownBy V.drew mv.ownBlock := grown_drewB _ _
      have g1 : V.grownBy (V.drew.alloc (.cells #[mtV (rq, (ra, rl), (rb, rm), rk)] 99)) mv.ownBlock := g0.trans (World.grownBy_alloc _ _ _)
      have b1 : Below V.heap.size V (V.drew.alloc (.cells #[mtV (rq, (ra, rl), (rb, rm), rk)] 99)) := ((Below.refl _ _).drew).more _
      refine wpAnyH_ready (rs := [4, 7]) (by kernel_rfl) (by simp) (AllReadyH.cons (o := ⟨_, _, _, _, _, _⟩) rfl (fun K hK => ?_) (AllReadyH.cons (o := ⟨_, _, _, _, _, _⟩) rfl (fun K hK => ?_) AllReadyH.nil))
      · have m4 := hm4 _ g0
        go_simp
        refine hK.out _ _ (sc _ g0) (fun hHeld => ?_)
        clear hK K
        try simp only [Act.put, List.setIfInBounds_toArray, List.set_cons_zero, List.set_cons_succ]
        refine wpAnyH_ready (rs := [7]) (by kernel_rfl) (by simp) (AllReadyH.cons (o := ⟨_, _, _, _, _, _⟩) rfl (fun K hK => ?_) AllReadyH.nil)
        go_simp
        refine hK.out _ _ (sc _ g1) (fun hHeld => ?_)
        clear hK K m4
        try simp only [Act.put, List.setIfInBounds_toArray, List.set_cons_zero, List.set_cons_succ]
        refine wpAnyH_ready (rs := [8]) (by kernel_rfl) (by simp) (AllReadyH.cons (o := ⟨_, _, _, _, _, _⟩) rfl (fun K hK => ?_) AllReadyH.nil)
        have hnews := cell_oneM V.drew (mtV (rq, (ra, rl), (rb, rm), rk)) 99
        refine step_append_lies _ rfl _ _ 95 (by rfl) W.heap.size 99 i0 .nilFunc 1 8 Try.underlying95 hi hz0 hz1 hz2 rfl (by decide) mv (L.take k).length (mtC (L.take k)) (by rfl) (RowM.below hrow1 b1) ⟨V.drew.heap.size, 0, none⟩ 1 1 [mtV (rq, (ra, rl), (rb, rm), rk)] (by rfl) rfl hnews (by simp [Value.oneCell']) (by decide) (by rw [hkl]; unfold maxLen; omega) (by rw [hkl]; omega) (Nat.le_trans hgr1.size g1.size) _ rfl ?_
        intro g2 cap2 U2 hown2 hgrow2 _ _
        have k2 : V.grownBy U2 mv.ownBlock := g1.trans hgrow2
        refine hK.out _ _ (sc _ k2) (fun hHeld => ?_)
        clear hK K
        try simp only [Act.put, List.setIfInBounds_toArray, List.set_cons_zero, List.set_cons_succ]
        refine wpAnyH_take (i := 9) (oi := ⟨_, _, _, _, _, _⟩) (v := ?_) rfl (by kernel_rfl) (by kernel_rfl) (by kernel_rfl) (fun _ _ _ h => h) (Or.inl ⟨by rfl, ?_⟩) (by assumption) ?_
        rotate_left
        · (intro w hSw; (try dsimp only at hSw); go_simp; try with_reducible rfl)
        simp only [Act.put, List.setIfInBounds_toArray, List.set_cons_zero, List.set_cons_succ]
        refine wpAnyH_take (i := 10) (oi := ⟨_, _, _, _, _, _⟩) (v := ?_) rfl (by kernel_rfl) (by kernel_rfl) (by kernel_rfl) (fun _ _ _ h => h) (Or.inl ⟨by rfl, ?_⟩) (by assumption) ?_
        rotate_left
        · (intro w hSw; (try dsimp only at hSw); go_simp; try with_reducible rfl)
        simp only [Act.put, List.setIfInBounds_toArray, List.set_cons_zero, List.set_cons_succ]
        refine wpAnyH_ready (rs := [11]) (by kernel_rfl) (by simp) (AllReadyH.cons (o := ⟨_, _, _, _, _, _⟩) rfl (fun K hK => ?_) AllReadyH.nil)
        have m4 := hm4 _ k2
        have z4 := hz4 _ k2
        go_simp
        refine hK.out _ _ (sc2 _ _ k2) (fun hHeld => ?_)
        clear hK K
        try simp only [Act.put, List.setIfInBounds_toArray, List.set_cons_zero, List.set_cons_succ]
        refine wpAnyH_done (by kernel_rfl) ?_ _
        go_wp2_with fail
        go_roundw
        case rel =>
          refine ⟨k + 1, hlt, rfl, ⟨_, World.cell?_setCell_same _ _ _ m4, ?_⟩, ?_, fun j hj => ?_, fun j => ?_⟩
          · have hr3 := World.ownsRow.kept hown2 (grown_set U2 b 4 (.slice (some ⟨g2, 0, none⟩) ((L.take k).length + 1) cap2)) (.inr (fun e => by have := (World.ownsRow.lt hown2 _ e).1; omega))
            unfold RowM; rw [take_mt hlt, hru, List.length_append, mtC_app, hkl]; rw [hkl] at hr3; exact hr3
          · exact (hgr1.andThen k2 (fun j hj => .inl (hne j hj))).trans (grown_set _ _ _ _)
          · rw [World.cell?_setCell_other _ ⟨b, 4, none⟩ ⟨b, j, none⟩ _ (fun e => hj (by cases e; rfl)), k2.cell_far ⟨b, j, none⟩ hb1 hbm]; exact hsame1 j hj
          · rw [World.frozen?_setCell, k2.frozen_far ⟨b, j, none⟩ hb1 hbm]; exact hfz1 j
        case measure => simp [intOf]; omega
      · go_simp
        refine hK.out _ _ (sc _ g1) (fun hHeld => ?_)
        clear hK K
        try simp only [Act.put, List.setIfInBounds_toArray, List.set_cons_zero, List.set_cons_succ]
        refine wpAnyH_ready (rs := [4]) (by kernel_rfl) (by simp) (AllReadyH.cons (o := ⟨_, _, _, _, _, _⟩) rfl (fun K hK => ?_) AllReadyH.nil)
        have m4 := hm4 _ g1
        go_simp
        refine hK.out _ _ (sc _ g1) (fun hHeld => ?_)
        clear hK K m4
        try simp only [Act.put, List.setIfInBounds_toArray, List.set_cons_zero, List.set_cons_succ]
        refine wpAnyH_ready (rs := [8]) (by kernel_rfl) (by simp) (AllReadyH.cons (o := ⟨_, _, _, _, _, _⟩) rfl (fun K hK => ?_) AllReadyH.nil)
        have hnews := cell_oneM V.drew (mtV (rq, (ra, rl), (rb, rm), rk)) 99
        refine step_append_lies _ rfl _ _ 95 (by rfl) W.heap.size 99 i0 .nilFunc 1 8 Try.underlying95 hi hz0 hz1 hz2 rfl (by decide) mv (L.take k).length (mtC (L.take k)) (by rfl) (RowM.below hrow1 b1) ⟨V.drew.heap.size, 0, none⟩ 1 1 [mtV (rq, (ra, rl), (rb, rm), rk)] (by rfl) rfl hnews (by simp [Value.oneCell']) (by decide) (by rw [hkl]; unfold maxLen; omega) (by rw [hkl]; omega) (Nat.le_trans hgr1.size g1.size) _ rfl ?_
        intro g2 cap2 U2 hown2 hgrow2 _ _
        have k2 : V.grownBy U2 mv.ownBlock := g1.trans hgrow2
        refine hK.out _ _ (sc _ k2) (fun hHeld => ?_)
        clear hK K
        try simp only [Act.put, List.setIfInBounds_toArray, List.set_cons_zero, List.set_cons_succ]
        refine wpAnyH_take (i := 9) (oi := ⟨_, _, _, _, _, _⟩) (v := ?_) rfl (by kernel_rfl) (by kernel_rfl) (by kernel_rfl) (fun _ _ _ h => h) (Or.inl ⟨by rfl, ?_⟩) (by assumption) ?_
        rotate_left
        · (intro w hSw; (try dsimp only at hSw); go_simp; try with_reducible rfl)
        simp only [Act.put, List.setIfInBounds_toArray, List.set_cons_zero, List.set_cons_succ]
        refine wpAnyH_take (i := 10) (oi := ⟨_, _, _, _, _, _⟩) (v := ?_) rfl (by kernel_rfl) (by kernel_rfl) (by kernel_rfl) (fun _ _ _ h => h) (Or.inl ⟨by rfl, ?_⟩) (by assumption) ?_
        rotate_left
        · (intro w hSw; (try dsimp only at hSw); go_simp; try with_reducible rfl)
        simp only [Act.put, List.setIfInBounds_toArray, List.set_cons_zero, List.set_cons_succ]
        refine wpAnyH_ready (rs := [11]) (by kernel_rfl) (by simp) (AllReadyH.cons (o := ⟨_, _, _, _, _, _⟩) rfl (fun K hK => ?_) AllReadyH.nil)
        have m4 := hm4 _ k2
        have z4 := hz4 _ k2
        go_simp
        refine hK.out _ _ (sc2 _ _ k2) (fun hHeld => ?_)
        clear hK K
        try simp only [Act.put, List.setIfInBounds_toArray, List.set_cons_zero, List.set_cons_succ]
        refine wpAnyH_done (by kernel_rfl) ?_ _
        go_wp2_with fail
        go_roundw
        case rel =>
          refine ⟨k + 1, hlt, rfl, ⟨_, World.cell?_setCell_same _ _ _ m4, ?_⟩, ?_, fun j hj => ?_, fun j => ?_⟩
          · have hr3 := World.ownsRow.kept hown2 (grown_set U2 b 4 (.slice (some ⟨g2, 0, none⟩) ((L.take k).length + 1) cap2)) (.inr (fun e => by have := (World.ownsRow.lt hown2 _ e).1; omega))
            unfold RowM; rw [take_mt hlt, hru, List.length_append, mtC_app, hkl]; rw [hkl] at hr3; exact hr3
          · exact (hgr1.andThen k2 (fun j hj => .inl (hne j hj))).trans (grown_set _ _ _ _)
          · rw [World.cell?_setCell_other _ ⟨b, 4, none⟩ ⟨b, j, none⟩ _ (fun e => hj (by cases e; rfl)), k2.cell_far ⟨b, j, none⟩ hb1 hbm]; exact hsame1 j hj
          · rw [World.frozen?_setCell, k2.frozen_far ⟨b, j, none⟩ hb1 hbm]; exact hfz1 j
        case measure => simp [intOf]; omega
      -- DONE
    · have : k = L.length := by omega
      subst this
      rw [List.take_length] at HF
      go_wp2
      go_end0
      exact ⟨rfl, HF.out⟩
end Go.Proofs.Ytaoahghfmlegbaa
