/- The model's l4Froms, l4Tos, l4Firsts. -/
import Derived.Test.YtaoahghfmlegbaaSp2
import Derived.Test.YtaoahghfmlegbaaToS
import Derived.OwnWalk
namespace Go.Proofs.Ytaoahghfmlegbaa
open Go.RowKit Go.Lib

theorem cell_prS (w : World) (x y : Value) (t : TypeId) : ∀ j u, [x, y][j]? = some u → (w.alloc (.cells #[x, y] t)).cell? ((⟨w.heap.size, 0, none⟩ : Addr).add j) = some u := by
  intro j u hj
  match j, hj with
  | 0, hj => simp at hj; subst hj; simp [Addr.add]
  | 1, hj => simp at hj; subst hj; simp [Addr.add]
  | j + 2, hj => simp at hj
theorem pr_oneS (x y : Int) : ∀ u ∈ [Value.int .i64 x, .int .i64 y], u.oneCell' = true := by
  intro u hu; simp at hu; rcases hu with rfl | rfl <;> rfl
theorem row_nilS (w : World) : Row (w.alloc (.cells #[] 31)) w.heap.size (.slice (some ⟨w.heap.size, 0, none⟩) 0 0) [] := World.ownsRow_lit w #[] 0 (Nat.le_refl _) (by decide) rfl
theorem take_snocS {α β : Type} {L : List α} {k : Nat} (h : k < L.length) (f : α → β) : (L.take (k + 1)).map f = (L.take k).map f ++ [f L[k]] := by
  rw [List.take_succ_eq_append_getElem h, List.map_append]; rfl

set_option maxRecDepth 100000 in
set_option maxHeartbeats 2000000 in
theorem fromsR_any (L : List Ru) (v : Value) (w : World) (hr : RdR w v L) (hlen : L.length ≤ 1000) :
    Calls Try.prog 85 #[v] w fun e w' => ∃ v', e = .returned v' ∧ Row w' w.heap.size v' (L.map fun r => r.2.1) ∧ Below w.heap.size w w' := by
  obtain ⟨p, cap, rfl⟩ := hr.form
  obtain ⟨i0, hi, hz0, hz1, hz2⟩ := info_parts infoP
  go_enter Try.func85, Try.ntmps85
  go_wp2_with fail
  go_loopw [3, 4] (fun u i wr => ∃ k : Nat, k ≤ L.length ∧ i = .int .i64 k ∧ Hid (Row wr w.heap.size u ((L.take k).map fun r => r.2.1)) ∧ Below w.heap.size w wr) (fun _ i _ => L.length - (intOf i).toNat)
  case atStart => exact ⟨0, Nat.zero_le _, rfl, row_nilS w, (Below.refl _ _).more _⟩
  case round =>
    obtain ⟨k, hk, rfl, hrow, hB⟩ := hrel
    by_cases hlt : k < L.length
    · obtain ⟨g, rfl, hcap, hg, c0, c1, c2, c3, c4, c5⟩ := (hr.below hB).at hlt
      have hs := take_snocS hlt (fun r : Ru => r.2.1)
      obtain ⟨q, a, l, b, m, kk, hru⟩ := ru_parts L[k]
      rw [hru] at c0 c1 c2 c3 c4 c5 hs
      have HS : Hid ((L.take (k + 1)).map (fun r : Ru => r.2.1) = (L.take k).map (fun r : Ru => r.2.1) ++ [(a, l)]) := hs
      clear hs hru
      have hkl : ((L.take k).map fun r : Ru => r.2.1).length = k := by simp; omega
      obtain ⟨pv, cv, hu⟩ := hrow.out.form
      rw [hkl] at hu
      subst hu
      have hr2 : wr.ownsRow w.heap.size 31 2 (.slice pv k cv) k (flat ((L.take k).map fun r : Ru => r.2.1)) := by
        have := hrow.out
        unfold Row at this
        rw [hkl] at this
        exact this
      clear hrow
      have q1 : k + 1 ≤ maxLen := by unfold maxLen; omega
      have q2 : (k + 1) * 16 ≤ 140737488355328 := by omega
      have q3 : ∀ o, w.heap.size ≤ (wr.alloc o).heap.size := fun o => by have := hB.size; simp; omega
      go_wp2_with (at_builtin; refine wpList_append_own _ rfl _ _ 23 rfl w.heap.size 31 i0 (.agg #[.int .i64 0, .int .i64 0]) 2 16 Try.underlying23 hi hz0 hz1 hz2 rfl (by decide) _ _ _ rfl (World.ownsRow.alloc hr2 _) ⟨wr.heap.size, 0, none⟩ 1 1 [.int .i64 a, .int .i64 l] rfl rfl (cell_prS _ _ _ _) (pr_oneS _ _) q1 q2 (q3 _) ?_; intro v' W9 hown' hgrow _; have b9 : Below w.heap.size w W9 := (hB.more _).grown hgrow (q3 _) (fun j e => (World.ownsRow.lt hr2 j e).1))
      go_roundw
      case rel => exact ⟨k + 1, hlt, rfl, by unfold Hid Row; rw [HS.out, List.length_append, flat_app, hkl]; exact hown', b9⟩
      case measure => simp [intOf]; omega
    · have : k = L.length := by omega
      subst this
      rw [List.take_length] at hrow
      go_wp2
      go_ret
      exact ⟨_, rfl, hrow.out, hB⟩

set_option maxRecDepth 100000 in
set_option maxHeartbeats 2000000 in
theorem tosR_any (L : List Ru) (v : Value) (w : World) (hr : RdR w v L) (hlen : L.length ≤ 1000) :
    Calls Try.prog 86 #[v] w fun e w' => ∃ v', e = .returned v' ∧ Row w' w.heap.size v' (L.map fun r => r.2.2.1) ∧ Below w.heap.size w w' := by
  obtain ⟨p, cap, rfl⟩ := hr.form
  obtain ⟨i0, hi, hz0, hz1, hz2⟩ := info_parts infoP
  go_enter Try.func86, Try.ntmps86
  go_wp2_with fail
  go_loopw [3, 4] (fun u i wr => ∃ k : Nat, k ≤ L.length ∧ i = .int .i64 k ∧ Hid (Row wr w.heap.size u ((L.take k).map fun r => r.2.2.1)) ∧ Below w.heap.size w wr) (fun _ i _ => L.length - (intOf i).toNat)
  case atStart => exact ⟨0, Nat.zero_le _, rfl, row_nilS w, (Below.refl _ _).more _⟩
  case round =>
    obtain ⟨k, hk, rfl, hrow, hB⟩ := hrel
    by_cases hlt : k < L.length
    · obtain ⟨g, rfl, hcap, hg, c0, c1, c2, c3, c4, c5⟩ := (hr.below hB).at hlt
      have hs := take_snocS hlt (fun r : Ru => r.2.2.1)
      obtain ⟨q, a, l, b, m, kk, hru⟩ := ru_parts L[k]
      rw [hru] at c0 c1 c2 c3 c4 c5 hs
      have HS : Hid ((L.take (k + 1)).map (fun r : Ru => r.2.2.1) = (L.take k).map (fun r : Ru => r.2.2.1) ++ [(b, m)]) := hs
      clear hs hru
      have hkl : ((L.take k).map fun r : Ru => r.2.2.1).length = k := by simp; omega
      obtain ⟨pv, cv, hu⟩ := hrow.out.form
      rw [hkl] at hu
      subst hu
      have hr2 : wr.ownsRow w.heap.size 31 2 (.slice pv k cv) k (flat ((L.take k).map fun r : Ru => r.2.2.1)) := by
        have := hrow.out
        unfold Row at this
        rw [hkl] at this
        exact this
      clear hrow
      have q1 : k + 1 ≤ maxLen := by unfold maxLen; omega
      have q2 : (k + 1) * 16 ≤ 140737488355328 := by omega
      have q3 : ∀ o, w.heap.size ≤ (wr.alloc o).heap.size := fun o => by have := hB.size; simp; omega
      go_wp2_with (at_builtin; refine wpList_append_own _ rfl _ _ 23 rfl w.heap.size 31 i0 (.agg #[.int .i64 0, .int .i64 0]) 2 16 Try.underlying23 hi hz0 hz1 hz2 rfl (by decide) _ _ _ rfl (World.ownsRow.alloc hr2 _) ⟨wr.heap.size, 0, none⟩ 1 1 [.int .i64 b, .int .i64 m] rfl rfl (cell_prS _ _ _ _) (pr_oneS _ _) q1 q2 (q3 _) ?_; intro v' W9 hown' hgrow _; have b9 : Below w.heap.size w W9 := (hB.more _).grown hgrow (q3 _) (fun j e => (World.ownsRow.lt hr2 j e).1))
      go_roundw
      case rel => exact ⟨k + 1, hlt, rfl, by unfold Hid Row; rw [HS.out, List.length_append, flat_app, hkl]; exact hown', b9⟩
      case measure => simp [intOf]; omega
    · have : k = L.length := by omega
      subst this
      rw [List.take_length] at hrow
      go_wp2
      go_ret
      exact ⟨_, rfl, hrow.out, hB⟩

/-- the edges of prefixes, ascending -/
def FirstsOf (Q : List (Int × Int)) (E : List Int) : Prop := E.Pairwise (· < ·) ∧ (∀ x, x ∈ E ↔ x = 0 ∨ ∃ q ∈ Q, (x = q.1 ∧ q.1 ≤ 65535) ∨ (x = q.1 + sz q.2 ∧ q.1 + sz q.2 ≤ 65535)) ∧ E.length ≤ 1 + 2 * Q.length
theorem firsts_nil : FirstsOf [] [0] := ⟨by simp, by simp, by simp⟩
theorem firsts_step {Q : List (Int × Int)} {a l : Int} {E E1 E2 : List Int} (h : FirstsOf Q E) (h1 : PutOf E a E1) (h2 : PutOf E1 (a + sz l) E2) : FirstsOf (Q ++ [(a, l)]) E2 := by
  refine ⟨h2.1, fun x => ?_, by have := h.2.2; have := h1.2.2; have := h2.2.2; simp; omega⟩
  rw [h2.2.1, h1.2.1, h.2.1]
  constructor
  · rintro ((( h | ⟨q, hq, h⟩) | h) | h)
    · exact .inl h
    · exact .inr ⟨q, by simp [hq], h⟩
    · exact .inr ⟨(a, l), by simp, .inl h⟩
    · exact .inr ⟨(a, l), by simp, .inr h⟩
  · rintro (h | ⟨q, hq, h⟩)
    · exact .inl (.inl (.inl h))
    · rcases List.mem_append.1 hq with hq | hq
      · exact .inl (.inl (.inr ⟨q, hq, h⟩))
      · simp at hq
        subst hq
        rcases h with h | h
        · exact .inl (.inr h)
        · exact .inr h
theorem firsts_pos {Q : List (Int × Int)} {E : List Int} (h : FirstsOf Q E) : 0 < E.length := List.length_pos_of_mem ((h.2.1 0).2 (.inl rfl))
theorem rdI_zero (w : World) : RdI (w.alloc (.cells #[.int .i64 0] 3)) (.slice (some ⟨w.heap.size, 0, none⟩) 1 1) [0] := by
  refine .inr ⟨w.heap.size, 1, rfl, Nat.le_refl _, by simp, fun i x hx => ?_⟩
  match i, hx with
  | 0, hx => simp at hx; subst hx; simp
  | i + 1, hx => simp at hx
theorem wadd_i {a z : Int} (h1 : 0 ≤ a) (h2 : a ≤ 65535) (h3 : 1 ≤ z) (h4 : z ≤ 65536) : IntKind.i64.wrap (a + z) = a + z := by rw [IntKind.wrap_i64]; omega

set_option maxRecDepth 100000 in
set_option maxHeartbeats 2000000 in
theorem firsts_any (Q : List (Int × Int)) (v : Value) (w : World) (hr : Rd w v Q) (hok : ∀ q ∈ Q, okP q.1 q.2 = true) (hlen : Q.length ≤ 400) :
    Calls Try.prog 84 #[v] w fun e w' => ∃ v', e = .returned v' ∧ ∃ E, RdI w' v' E ∧ FirstsOf Q E ∧ Below w.heap.size w w' := by
  obtain ⟨p, cap, rfl⟩ := hr.form
  have HOK : Hid (∀ q ∈ Q, okP q.1 q.2 = true) := hok
  clear hok
  go_enter Try.func84, Try.ntmps84
  go_wp2_with fail
  go_loopw [3, 4] (fun u i wr => ∃ k : Nat, k ≤ Q.length ∧ i = .int .i64 k ∧ Hid (∃ E, RdI wr u E ∧ FirstsOf (Q.take k) E) ∧ Below w.heap.size w wr) (fun _ i _ => Q.length - (intOf i).toNat)
  case atStart => exact ⟨0, Nat.zero_le _, rfl, ⟨[0], rdI_zero w, firsts_nil⟩, (Below.refl _ _).more _⟩
  case round =>
    obtain ⟨k, hk, rfl, hE, hB⟩ := hrel
    obtain ⟨E, rE, fE⟩ := hE.out
    by_cases hlt : k < Q.length
    · obtain ⟨g, rfl, hg, c0, c1⟩ := (hr.below hB).at hlt
      have hq := HOK.out Q[k] (List.getElem_mem hlt)
      have hsn : Q.take (k + 1) = Q.take k ++ [Q[k]] := List.take_succ_eq_append_getElem hlt
      obtain ⟨a, ha⟩ : ∃ a, Q[k].1 = a := ⟨_, rfl⟩
      obtain ⟨l, hl⟩ : ∃ l, Q[k].2 = l := ⟨_, rfl⟩
      rw [ha, hl] at hq
      rw [show Q[k] = (a, l) by rw [← ha, ← hl]] at hsn
      rw [ha] at c0
      rw [hl] at c1
      have HS : Hid (Q.take (k + 1) = Q.take k ++ [(a, l)]) := hsn
      clear ha hl hsn hE
      have hP := okP_of hq
      have hz := sz_bd l hP.1
      have hwrap := wadd_i hP.2.2.1 hP.2.2.2.1 hz.1 hz.2
      have hfl : E.length ≤ 900 := by have := fE.2.2; simp at this; omega
      have C1 := put_any E a u3 wr rE fE.1 (firsts_pos fE) (by omega)
      have CS := fun W => size_any l W hP.1 (by omega)
      generalize hsz : sz l = z at *
      have FE : Hid (FirstsOf (Q.take k) E) := fE
      clear hq hP hz fE
      go_wp2_with (go_at_call 98; refine C1.mono ?_; clear C1; rintro e W1 ⟨u1, rfl, E1, rE1, pE1, hb1⟩)
      have d0 : W1.cell? ⟨g, k * 2, none⟩ = some (.int .i64 a) := (hb1.cell (p := ⟨g, k * 2, none⟩) hg).trans c0
      have d1 : W1.cell? ⟨g, k * 2 + 1, none⟩ = some (.int .i64 l) := (hb1.cell (p := ⟨g, k * 2 + 1, none⟩) hg).trans c1
      have hg1 := Nat.lt_of_lt_of_le hg hb1.size
      have C2 := fun W (h : Below W1.heap.size W1 W) => put_any E1 (a + z) u1 W (rE1.below h) pE1.1 (List.length_pos_of_mem ((pE1.2.1 0).2 (.inl ((FE.out.2.1 0).2 (.inl rfl))))) (by have := pE1.2.2; omega)
      have sc : ∀ w', Below W1.heap.size W1 w' → (fun w' => w'.cell? ⟨g, k * 2, none⟩ = some (.int .i64 a) ∧ w'.cell? ⟨g, k * 2 + 1, none⟩ = some (.int .i64 l)) w' := fun w' h => ⟨(h.cell (p := ⟨g, k * 2, none⟩) hg1).trans d0, (h.cell (p := ⟨g, k * 2 + 1, none⟩) hg1).trans d1⟩
      have b1 : Below W1.heap.size W1 W1.drew := (Below.refl _ _).drew
      refine wp_region_held_drew (S := fun w' => w'.cell? ⟨g, k * 2, none⟩ = some (.int .i64 a) ∧ w'.cell? ⟨g, k * 2 + 1, none⟩ = some (.int .i64 l)) (by kernel_rfl) (sc _ b1) (fun hHeld => ?_)
      refine wpAnyH_take (i := 0) (oi := ⟨_, _, _, _, _, _⟩) (v := ?_) rfl (by kernel_rfl) (by kernel_rfl) (by kernel_rfl) (fun _ _ _ h => h) (Or.inl ⟨by rfl, ?_⟩) (by assumption) ?_
      rotate_left
      · (intro w hSw; (try dsimp only at hSw); go_simp; try with_reducible rfl)
      simp only [Act.put, List.setIfInBounds_toArray, List.set_cons_zero, List.set_cons_succ]
      refine wpAnyH_take (i := 1) (oi := ⟨_, _, _, _, _, _⟩) (v := ?_) rfl (by kernel_rfl) (by kernel_rfl) (by kernel_rfl) (fun _ _ _ h => h) (Or.inl ⟨by rfl, ?_⟩) (by assumption) ?_
      rotate_left
      · (intro w hSw; (try dsimp only at hSw); go_simp; try with_reducible rfl)
      simp only [Act.put, List.setIfInBounds_toArray, List.set_cons_zero, List.set_cons_succ]
      refine wpAnyH_take (i := 2) (oi := ⟨_, _, _, _, _, _⟩) (v := ?_) rfl (by kernel_rfl) (by kernel_rfl) (by kernel_rfl) (fun _ _ _ h => h) (Or.inl ⟨by rfl, ?_⟩) (by assumption) ?_
      rotate_left
      · (intro w hSw; (try dsimp only at hSw); go_simp; try with_reducible rfl)
      simp only [Act.put, List.setIfInBounds_toArray, List.set_cons_zero, List.set_cons_succ]
      refine wpAnyH_take (i := 3) (oi := ⟨_, _, _, _, _, _⟩) (v := ?_) rfl (by kernel_rfl) (by kernel_rfl) (by kernel_rfl) (fun _ _ _ h => h) (Or.inl ⟨by rfl, ?_⟩) (by assumption) ?_
      rotate_left
      · (intro w hSw; (try dsimp only at hSw); go_simp; try with_reducible rfl)
      simp only [Act.put, List.setIfInBounds_toArray, List.set_cons_zero, List.set_cons_succ]
      refine wpAnyH_take (i := 4) (oi := ⟨_, _, _, _, _, _⟩) (v := ?_) rfl (by kernel_rfl) (by kernel_rfl) (by kernel_rfl) (fun _ _ _ h => h) (Or.inl ⟨by rfl, ?_⟩) (by assumption) ?_
      rotate_left
      · (intro w hSw; (try dsimp only at hSw); go_simp; try with_reducible rfl)
      simp only [Act.put, List.setIfInBounds_toArray, List.set_cons_zero, List.set_cons_succ]
      refine wpAnyH_take (i := 5) (oi := ⟨_, _, _, _, _, _⟩) (v := ?_) rfl (by kernel_rfl) (by kernel_rfl) (by kernel_rfl) (fun _ _ _ h => h) (Or.inl ⟨by rfl, ?_⟩) (by assumption) ?_
      rotate_left
      · (intro w hSw; (try dsimp only at hSw); go_simp; try with_reducible rfl)
      simp only [Act.put, List.setIfInBounds_toArray, List.set_cons_zero, List.set_cons_succ]
      refine wpAnyH_take (i := 6) (oi := ⟨_, _, _, _, _, _⟩) (v := ?_) rfl (by kernel_rfl) (by kernel_rfl) (by kernel_rfl) (fun _ _ _ h => h) (Or.inl ⟨by rfl, ?_⟩) (by assumption) ?_
      rotate_left
      · (intro w hSw; (try dsimp only at hSw); go_simp; try with_reducible rfl)
      simp only [Act.put, List.setIfInBounds_toArray, List.set_cons_zero, List.set_cons_succ]
      refine wpAnyH_take (i := 7) (oi := ⟨_, _, _, _, _, _⟩) (v := ?_) rfl (by kernel_rfl) (by kernel_rfl) (by kernel_rfl) (fun _ _ _ h => h) (Or.inl ⟨by rfl, ?_⟩) (by assumption) ?_
      rotate_left
      · (intro w hSw; (try dsimp only at hSw); go_simp; try with_reducible rfl)
      simp only [Act.put, List.setIfInBounds_toArray, List.set_cons_zero, List.set_cons_succ]
      refine wpAnyH_take (i := 8) (oi := ⟨_, _, _, _, _, _⟩) (v := ?_) rfl (by kernel_rfl) (by kernel_rfl) (by kernel_rfl) (fun _ _ _ h => h) (Or.inl ⟨by rfl, ?_⟩) (by assumption) ?_
      rotate_left
      · (intro w hSw; (try dsimp only at hSw); go_simp; try with_reducible rfl)
      simp only [Act.put, List.setIfInBounds_toArray, List.set_cons_zero, List.set_cons_succ]
      refine wpAnyH_take (i := 9) (oi := ⟨_, _, _, _, _, _⟩) (v := ?_) rfl (by kernel_rfl) (by kernel_rfl) (by kernel_rfl) (fun _ _ _ h => h) (Or.inl ⟨by rfl, ?_⟩) (by assumption) ?_
      rotate_left
      · (intro w hSw; (try dsimp only at hSw); go_simp; try with_reducible rfl)
      simp only [Act.put, List.setIfInBounds_toArray, List.set_cons_zero, List.set_cons_succ]
      refine wpAnyH_take (i := 10) (oi := ⟨_, _, _, _, _, _⟩) (v := ?_) rfl (by kernel_rfl) (by kernel_rfl) (by kernel_rfl) (fun _ _ _ h => h) (Or.inl ⟨by rfl, ?_⟩) (by assumption) ?_
      rotate_left
      · (intro w hSw; (try dsimp only at hSw); go_simp; try with_reducible rfl)
      simp only [Act.put, List.setIfInBounds_toArray, List.set_cons_zero, List.set_cons_succ]
      refine wpAnyH_ready (rs := [11]) (by kernel_rfl) (by simp) (AllReadyH.cons (o := ⟨_, _, _, _, _, _⟩) rfl (fun K hK => ?_) AllReadyH.nil)
      go_simp
      go_at_call 49
      refine (CS _).mono ?_
      rintro e W2 ⟨rfl, hw2⟩; obtain rfl := hw2
      go_wp2_with fail
      refine hK.out _ _ (sc _ b1) (fun hHeld => ?_)
      clear hK K
      try simp only [Act.put, List.setIfInBounds_toArray, List.set_cons_zero, List.set_cons_succ]
      refine wpAnyH_take (i := 12) (oi := ⟨_, _, _, _, _, _⟩) (v := ?_) rfl (by kernel_rfl) (by kernel_rfl) (by kernel_rfl) (fun _ _ _ h => h) (Or.inl ⟨by rfl, ?_⟩) (by assumption) ?_
      rotate_left
      · (intro w hSw; (try dsimp only at hSw); go_simp; try with_reducible rfl)
      simp only [Act.put, List.setIfInBounds_toArray, List.set_cons_zero, List.set_cons_succ]
      try rw [hwrap]
      refine wpAnyH_ready (rs := [13]) (by kernel_rfl) (by simp) (AllReadyH.cons (o := ⟨_, _, _, _, _, _⟩) rfl (fun K hK => ?_) AllReadyH.nil)
      go_simp
      go_at_call 98
      refine (C2 _ b1).mono ?_
      rintro e W3 ⟨u3, rfl, E2, rE2, pE2, hb3⟩; have b3 := below_then b1 hb3
      go_wp2_with fail
      refine hK.out _ _ (sc _ b3) (fun hHeld => ?_)
      clear hK K
      try simp only [Act.put, List.setIfInBounds_toArray, List.set_cons_zero, List.set_cons_succ]
      refine wpAnyH_take (i := 14) (oi := ⟨_, _, _, _, _, _⟩) (v := ?_) rfl (by kernel_rfl) (by kernel_rfl) (by kernel_rfl) (fun _ _ _ h => h) (Or.inl ⟨by rfl, ?_⟩) (by assumption) ?_
      rotate_left
      · (intro w hSw; (try dsimp only at hSw); go_simp; try with_reducible rfl)
      simp only [Act.put, List.setIfInBounds_toArray, List.set_cons_zero, List.set_cons_succ]
      refine wpAnyH_done (by kernel_rfl) ?_ _
      go_wp2_with fail
      go_roundw
      case rel => exact ⟨k + 1, hlt, rfl, ⟨E2, rE2, by rw [HS.out]; subst hsz; exact firsts_step FE.out pE1 pE2⟩, below_then (below_then hB hb1) b3⟩
      case measure => simp [intOf]; omega
    · have : k = Q.length := by omega
      subst this
      rw [List.take_length] at fE
      go_wp2
      go_ret
      exact ⟨_, rfl, E, rE, fE, hB⟩
end Go.Proofs.Ytaoahghfmlegbaa
