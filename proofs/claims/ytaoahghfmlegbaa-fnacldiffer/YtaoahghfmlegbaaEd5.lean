/- The edges of a part, ascending: of. -/
import Derived.Test.YtaoahghfmlegbaaEd4
import Derived.Test.YtaoahghfmlegbaaShelf
import Derived.Sort.OwnSortedInts
import Derived.Maps.RangeWalk
namespace Go.Proofs.Ytaoahghfmlegbaa
open Go.RowKit Go.Lib Go.Maps

/-- the numbers of a part that have come -/
def Coll (D : DataW Unit) (left : Lit → Bool) (p : Int) (xs : List Int) : Prop :=
  xs.Nodup ∧ ∀ x, x ∈ xs ↔ i64ok x ∧ Maps.has D (edL p x) = true ∧ left (edL p x) = false
theorem coll_start (D : DataW Unit) (p : Int) : Coll D (Maps.has D) p [] := by
  refine ⟨List.nodup_nil, fun x => ?_⟩
  simp only [List.not_mem_nil, false_iff]
  rintro ⟨_, h1, h2⟩
  rw [h1] at h2
  cases h2
theorem coll_other {D : DataW Unit} {left : Lit → Bool} {p : Int} {xs : List Int} (h : Coll D left p xs) (hp : i64ok p) {q y : Int} (hq : i64ok q) (hy : i64ok y) (hne : q ≠ p) : Coll D (fun z => left z && !z.sameKey (edL q y)) p xs := by
  refine ⟨h.1, fun x => ?_⟩
  rw [h.2]
  constructor
  · rintro ⟨h1, h2, h3⟩
    exact ⟨h1, h2, by simp [h3]⟩
  · rintro ⟨h1, h2, h3⟩
    refine ⟨h1, h2, ?_⟩
    have hk : (edL p x).sameKey (edL q y) = false := Maps.sameKey_ne (fun e => hne (edL_inj hp h1 hq hy e).1.symm)
    simpa [hk] using h3
theorem coll_this {D : DataW Unit} {left : Lit → Bool} {p : Int} {xs : List Int} (h : Coll D left p xs) (hp : i64ok p) {y : Int} (hy : i64ok y) (hl : left (edL p y) = true) (hh : Maps.has D (edL p y) = true) : Coll D (fun z => left z && !z.sameKey (edL p y)) p (xs ++ [y]) := by
  have hny : y ∉ xs := fun hm => by
    have := ((h.2 y).1 hm).2.2
    rw [hl] at this
    cases this
  have hself : (edL p y).sameKey (edL p y) = true := WideAt.sameKey_self (lawK.key (key_ed hp hy))
  refine ⟨?_, fun x => ?_⟩
  · rw [List.nodup_append]
    refine ⟨h.1, by simp, fun a ha b hb => ?_⟩
    simp at hb
    subst hb
    exact fun e => hny (e ▸ ha)
  · rw [List.mem_append, h.2, List.mem_singleton]
    constructor
    · rintro (⟨h1, h2, h3⟩ | rfl)
      · exact ⟨h1, h2, by simp [h3]⟩
      · exact ⟨hy, hh, by simp [hself]⟩
    · rintro ⟨h1, h2, h3⟩
      by_cases e : x = y
      · exact .inr e
      · have hk : (edL p x).sameKey (edL p y) = false := Maps.sameKey_ne (fun h => e (edL_inj hp h1 hp hy h).2)
        exact .inl ⟨h1, h2, by simpa [hk] using h3⟩
theorem size_own {w : World} {b n : Nat} {D : DataW Unit} (h : w.ownsMap Try.prog 138 (unitElem (H := Unit)) b n D) : Maps.size D ≤ n := by
  obtain ⟨es, clock, _, _, hn, rfl⟩ := h
  show (List.foldr DataW.insert [] _).length ≤ n
  rw [(Go.WideShapes.sorted_perm _).length_eq]
  simpa using hn
theorem sort_asc {xs : List Int} (h : xs.Nodup) : (xs.mergeSort fun x y => decide (x ≤ y)).Pairwise (· < ·) ∧ (∀ x, x ∈ xs.mergeSort (fun x y => decide (x ≤ y)) ↔ x ∈ xs) ∧ (xs.mergeSort fun x y => decide (x ≤ y)).length = xs.length := by
  have hp := List.mergeSort_perm xs (fun x y => decide (x ≤ y))
  have hs := List.pairwise_mergeSort (le := fun x y : Int => decide (x ≤ y)) (fun a b c h1 h2 => by simp at *; omega) (fun a b => by simp; omega) xs
  have hn := hp.nodup_iff.2 h
  refine ⟨?_, fun x => hp.mem_iff, hp.length_eq⟩
  have := hs.and hn
  refine this.imp fun {a b} h => ?_
  simp at h
  omega

theorem row_off {w : World} {r : Nat} {v : Value} {xs : List Int} (h : RowI w (r + 1) v xs) : v.ownBlock = none ∨ v.ownBlock ≠ some r := by
  cases hv : v.ownBlock with
  | none => exact .inl rfl
  | some g => exact .inr fun e => by have := (World.ownsRow.lt h g hv).1; cases e; omega
theorem off_low {w : World} {base n x : Nat} {e : TypeId} {size : Nat} {v : Value} {ys : List Value} (h : w.ownsRow base e size v n ys) (hx : x < base) : some x ≠ v.ownBlock := fun e => by have := (World.ownsRow.lt h x e.symm).1; omega
theorem app_off {w W W' : World} {v : Value} {n : Nat} {ys : List Value} {e : TypeId} {size : Nat} (hb : Below w.heap.size w W) (hg : W.grownBy W' v.ownBlock) (hr : W.ownsRow (w.heap.size + 1) e size v n ys) : Below w.heap.size w W' := hb.grown hg hb.size (fun j e => by have := (World.ownsRow.lt hr j e).1; omega)
theorem row_snocI {w : World} {b : Nat} {v : Value} {xs : List Int} {y : Int} (h : w.ownsRow b 3 1 v (xs.length + 1) (intC xs ++ [.int .i64 y])) : RowI w b v (xs ++ [y]) := by unfold RowI; rw [List.length_append, intC_app]; exact h

set_option maxRecDepth 100000 in
set_option maxHeartbeats 2000000 in
theorem of_any (b n : Nat) (E : List (Int × Int)) (p x0 : Int) (w : World) (hm : EdM w b n E) (hn : n ≤ 1000) (hp : i64ok p) (hx0 : i64ok x0) (he0 : (p, x0) ∈ E) :
    Calls Try.prog 90 #[.map (some b), .int .i64 p] w fun e w' => ∃ v', e = .returned v' ∧ ∃ F, RowI w' (w.heap.size + 1) v' F ∧ F.Pairwise (· < ·) ∧ (∀ x, x ∈ F ↔ i64ok x ∧ (p, x) ∈ E) ∧ F.length ≤ 1000 ∧ Below w.heap.size w w' := by
  have hbw := hm.lt
  obtain ⟨D, hown, hhas⟩ := hm
  have hsz := size_own hown
  have HH : Hid (∀ x, i64ok x → (Maps.has D (edL p x) = true ↔ (p, x) ∈ E)) := fun x hx => hhas p x hp hx
  obtain ⟨i0, hi, hz0, hz1, hz2⟩ := info_parts infoI
  clear hhas
  go_enter Try.func90, Try.ntmps90
  go_wp2_with (at_range; refine wpList_range_own _ rfl _ 103 rfl 138 83 lawK Try.underlying103 _ b n D rfl hown ?_; intro w0 hrg0 hg0 hs0)
  go_frame
  go_loopw [5] (fun v wr => ∃ left cnt xs, Hid (wr.ranges Try.prog 138 (unitElem (H := Unit)) b w.heap.size n D left cnt ∧ RowI wr (w.heap.size + 1) v xs ∧ Coll D left p xs ∧ xs.length + cnt ≤ Maps.size D) ∧ Hid (w.heap.size < wr.heap.size) ∧ Below w.heap.size w wr) (fun _ wr => wr.rangeLeft b w.heap.size)
  case atStart =>
    refine ⟨_, _, [], ⟨hrg0, World.ownsRow_nil _ _ _ _, coll_start D p, by simp⟩, ?_, ?_⟩
    · unfold Hid; omega
    · exact ⟨hg0.os, hg0.tape, hg0.output, hg0.size, fun k hk => hg0.block k hk (by simp)⟩
  case round =>
    obtain ⟨left, cnt, xs, hrel2, hwl, hB⟩ := hrel
    obtain ⟨hrg, hrow, hC, hle⟩ := hrel2.out
    have hwl2 := hwl.out
    have hxl : xs.length ≤ 1000 := by omega
    go_wp2_with (at_next; refine wpList_next_ranges _ rfl _ rfl 138 lawK _ (fun x : Int × Int => edV x.1 x.2) (fun _ : Unit => Value.agg #[]) (fun key kl hk => by obtain ⟨x, hx, _⟩ := inv_ed hk; exact ⟨x, hx⟩) (fun v y hv => ⟨(), (unitElem_inv hv).1⟩) b w.heap.size n D left cnt rfl hrg ?_ ?_)
    · intro hc0 hl0
      have hmem : ∀ x, x ∈ xs ↔ i64ok x ∧ (p, x) ∈ E := fun x => by
        rw [hC.2]
        constructor
        · rintro ⟨h1, h2, _⟩; exact ⟨h1, (HH.out x h1).1 h2⟩
        · rintro ⟨h1, h2⟩; exact ⟨h1, (HH.out x h1).2 h2, hl0 _⟩
      have hpos : 0 < xs.length := List.length_pos_of_mem ((hmem x0).2 ⟨hx0, he0⟩)
      obtain ⟨s1, s2, s3⟩ := sort_asc hC.1
      rcases hrow.2 with ⟨_, h0⟩ | ⟨g, cap, cur, hv5, hbase, hb, h1, h2, h3, h4⟩
      · omega
      · subst hv5
        have C := Try.slices_Sort_int g 0 cap xs wr (holds_of_blockI hb (by simpa [intC] using h4)) (Array.getElem?_eq_some_iff.1 hb).1 (by omega)
        have hr2 := fun n os => ownsRow_sortedI (n := n) (os := os) (ss := xs) s3 hbase hb h1 h2 h3
        have hg2 := fun n os => grownBy_sortedI (w := wr) (g := g) (n := n) (os := os) (xs.mergeSort fun x y => decide (x ≤ y)).toArray
        have HS : Hid ((xs.mergeSort fun x y => decide (x ≤ y)).Pairwise (· < ·) ∧ (∀ x, x ∈ xs.mergeSort (fun x y => decide (x ≤ y)) ↔ i64ok x ∧ (p, x) ∈ E) ∧ (xs.mergeSort fun x y => decide (x ≤ y)).length = xs.length) := ⟨s1, fun x => (s2 x).trans (hmem x), s3⟩
        generalize (xs.mergeSort fun x y => decide (x ≤ y)) = ts at *
        clear s1 s2 s3 hmem hC hrow hrg hrel2 h4
        go_wp2_with (go_at_call 100; refine C.mono ?_; clear C; rintro e W2 ⟨rfl, nn, os, hW2⟩; have hr3 := hr2 nn os; have hg3 := hg2 nn os; rw [← hW2] at hr3 hg3; clear hr2 hg2 hW2)
        go_ret
        exact ⟨_, rfl, ts, (by unfold RowI; rw [HS.out.2.2]; exact hr3), HS.out.1, HS.out.2.1, by rw [HS.out.2.2]; omega, hB.grown hg3 hB.size (fun k e => by cases e; omega)⟩
    · intro x1 x2 kl yd yp w1 cnt1 hkey hlk hv hat hrg1 hlt hg1 hs1 hen
      obtain ⟨⟨q, y⟩, hxy, wq, wy, rfl⟩ := inv_ed hkey
      simp only [Value.agg.injEq] at hxy
      obtain ⟨rfl, rfl⟩ : x1 = q ∧ x2 = y := by simpa using hxy
      have hhas : Maps.has D (edL x1 x2) = true := has_true_of_atKey hat
      have hrow1 : RowI w1 (w.heap.size + 1) u5 xs := World.ownsRow.kept hrow hg1 (row_off hrow)
      have hB1 : Below w.heap.size w w1 := hB.grown hg1 hB.size (fun k e => by cases e; exact Nat.le_refl _)
      have hw1 : w.heap.size < w1.heap.size := by omega
      clear hs1 hrow hxy hkey hv hat
      by_cases hqp : x1 = p
      · subst hqp
        have hC1 := coll_this hC hp wy hlk hhas
        have hrow2 := World.ownsRow.alloc hrow1 (.cells #[.int .i64 x1, .int .i64 x2] 138)
        have hrow3 := World.ownsRow.alloc hrow2 (.cells #[.int .i64 x2] 3)
        have hnw : ∀ j u, [Value.int .i64 x2][j]? = some u → ((w1.alloc (.cells #[.int .i64 x1, .int .i64 x2] 138)).alloc (.cells #[.int .i64 x2] 3)).cell? ((⟨w1.heap.size + 1, 0, none⟩ : Addr).add j) = some u := by
          have := cell_one (w1.alloc (.cells #[.int .i64 x1, .int .i64 x2] 138)) (.int .i64 x2) 3
          rw [World.size_alloc] at this
          exact this
        have hB3 : Below w.heap.size w ((w1.alloc (.cells #[.int .i64 x1, .int .i64 x2] 138)).alloc (.cells #[.int .i64 x2] 3)) := (hB1.more _).more _
        have hrg3 := (hrg1.alloc (.cells #[.int .i64 x1, .int .i64 x2] 138)).alloc (.cells #[.int .i64 x2] 3)
        have hq3 : w.heap.size + 1 ≤ ((w1.alloc (.cells #[.int .i64 x1, .int .i64 x2] 138)).alloc (.cells #[.int .i64 x2] 3)).heap.size := by simp; omega
        obtain ⟨p5, c5, rfl⟩ := hrow1.form
        have HC : Hid (Coll D (fun z => left z && !z.sameKey (edL x1 x2)) x1 (xs ++ [x2])) := hC1
        clear hC hC1 hrow1 hrow2 hhas hlk
        go_wp2_with (at_builtin; refine wpList_append_own _ rfl _ _ 116 rfl (w.heap.size + 1) 3 i0 (.int .i64 0) 1 8 Try.underlying116 hi hz0 hz1 hz2 rfl (by decide) _ _ _ rfl hrow3 ⟨w1.heap.size + 1, 0, none⟩ 1 1 [.int .i64 x2] rfl rfl hnw (by simp [Value.oneCell']) (by unfold maxLen; omega) (by omega) hq3 ?_; intro v' W9 hown' hgrow _; have hb9 := app_off hB3 hgrow hrow3; have hrg9 := hrg3.kept hgrow (off_low hrow3 (by omega)) (off_low hrow3 (by omega)); have hrow9 : RowI W9 (w.heap.size + 1) v' (xs ++ [x2]) := row_snocI hown'; have hlt9 := Nat.lt_of_lt_of_le (show w.heap.size < _ from Nat.lt_of_lt_of_le (Nat.lt_succ_self _) hq3) hgrow.size; clear hown' hgrow hrow3 hrg3)
        go_roundw
        case rel => exact ⟨_, _, _, ⟨hrg9, hrow9, HC.out, by simp; omega⟩, hlt9, hb9⟩
        case measure => rw [hrg9.left_eq, hrg.left_eq]; exact hlt
      · have hd : (x1 == p) = false := by rw [beq_dec]; exact decide_eq_false hqp
        have hC1 := coll_other hC hp wq wy hqp
        have HC : Hid (Coll D (fun z => left z && !z.sameKey (edL x1 x2)) p xs) := hC1
        have hrow2 : RowI (w1.alloc (.cells #[.int .i64 x1, .int .i64 x2] 138)) (w.heap.size + 1) u5 xs := World.ownsRow.alloc hrow1 _
        have hrg3 := hrg1.alloc (.cells #[.int .i64 x1, .int .i64 x2] 138)
        have hw3 : w.heap.size < (w1.alloc (.cells #[.int .i64 x1, .int .i64 x2] 138)).heap.size := by simp; omega
        clear hC hC1 hrow1 hhas hlk
        go_wp2_with fail
        go_roundw
        case rel => exact ⟨_, _, _, ⟨hrg3, hrow2, HC.out, by omega⟩, hw3, hB1.more _⟩
        case measure => rw [hrg3.left_eq, hrg.left_eq]; exact hlt
end Go.Proofs.Ytaoahghfmlegbaa
