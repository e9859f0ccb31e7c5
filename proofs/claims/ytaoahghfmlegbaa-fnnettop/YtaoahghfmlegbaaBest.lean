/- The longest prefix: both NetBest. -/
import Derived.Test.YtaoahghfmlegbaaSl
import Derived.Test.YtaoahghfmlegbaaI1
namespace Go.Proofs.Ytaoahghfmlegbaa
open Go.RowKit Go.Lib

/-- the prefix at a place -/
def gt (L : List (Int × Int)) (i : Nat) : Int × Int := L.getD i (0, 0)
theorem gt_eq {L : List (Int × Int)} {i : Nat} (h : i < L.length) : L[i] = gt L i := by unfold gt; simp [h]
/-- the best of the first k -/
def bestTo (L : List (Int × Int)) (x : Int) : Nat → Int
  | 0 => -1
  | k + 1 => if netHas (gt L k).1 (gt L k).2 x = true ∧ (bestTo L x k < 0 ∨ (gt L (bestTo L x k).toNat).2 < (gt L k).2) then k else bestTo L x k
theorem bestTo_bd (L : List (Int × Int)) (x : Int) : ∀ k : Nat, bestTo L x k = -1 ∨ ∃ j : Nat, j < k ∧ bestTo L x k = j
  | 0 => .inl rfl
  | k + 1 => by
    unfold bestTo
    split
    · exact .inr ⟨k, by omega, rfl⟩
    · rcases bestTo_bd L x k with h | ⟨j, hj, h⟩
      · exact .inl h
      · exact .inr ⟨j, by omega, h⟩
theorem best_yes {L : List (Int × Int)} {x : Int} {k : Nat} (h : netHas (gt L k).1 (gt L k).2 x = true) (h2 : bestTo L x k < 0 ∨ (gt L (bestTo L x k).toNat).2 < (gt L k).2) : bestTo L x (k + 1) = k := by
  show ite _ _ _ = _; rw [if_pos ⟨h, h2⟩]
theorem best_no {L : List (Int × Int)} {x : Int} {k : Nat} (h : ¬ (netHas (gt L k).1 (gt L k).2 x = true ∧ (bestTo L x k < 0 ∨ (gt L (bestTo L x k).toNat).2 < (gt L k).2))) : bestTo L x (k + 1) = bestTo L x k := by
  show ite _ _ _ = _; rw [if_neg h]
theorem Rd.gt {w : World} {p : Option Addr} {n cap : Nat} {L : List (Int × Int)} (h : Rd w (.slice p n cap) L) {i : Nat} (hi : i < L.length) :
    ∃ g, p = some ⟨g, 0, none⟩ ∧ g < w.heap.size ∧ w.cell? ⟨g, i * 2, none⟩ = some (.int .i64 (gt L i).1) ∧ w.cell? ⟨g, i * 2 + 1, none⟩ = some (.int .i64 (gt L i).2) := by
  have := h.at hi
  rwa [gt_eq hi] at this

set_option maxRecDepth 100000 in
set_option maxHeartbeats 1000000 in
theorem ibest_any (L : List (Int × Int)) (x : Int) (v : Value) (w : World) (hr : Rd w v L) (hx : x ≤ 9223372036854775807) (hlen : L.length ≤ 1048576) :
    Calls Try.prog 22 #[v, .int .i64 x] w fun e w' => e = .returned (.int .i64 (bestTo L x L.length)) ∧ Below w.heap.size w w' := by
  obtain ⟨p, cap, rfl⟩ := hr.form
  have HX : Hid (x ≤ 9223372036854775807) := hx
  clear hx
  go_enter Try.func22, Try.ntmps22
  go_wp2_with fail
  go_loopw [5, 10] (fun b i wr => ∃ k : Nat, k ≤ L.length ∧ b = .int .i64 (bestTo L x k) ∧ i = .int .i64 k ∧ Below w.heap.size w wr) (fun _ i _ => L.length - (intOf i).toNat)
  case atStart => exact ⟨0, Nat.zero_le _, rfl, rfl, Below.refl _ _⟩
  case round =>
    obtain ⟨k, hk, rfl, rfl, hB⟩ := hrel
    by_cases hlt : k < L.length
    · obtain ⟨g, rfl, hg, c0, c1⟩ := (hr.below hB).gt hlt
      obtain ⟨a, ha⟩ : ∃ a, (gt L k).1 = a := ⟨_, rfl⟩
      obtain ⟨l, hl⟩ : ∃ l, (gt L k).2 = l := ⟨_, rfl⟩
      have HY : Hid (∀ (h : netHas a l x = true) (_ : bestTo L x k < 0 ∨ (gt L (bestTo L x k).toNat).2 < l), bestTo L x (k + 1) = k) := by unfold Hid; intro h h2; exact best_yes (by rw [ha, hl]; exact h) (by rw [hl]; exact h2)
      have HN : Hid (∀ (_ : ¬ (netHas a l x = true ∧ (bestTo L x k < 0 ∨ (gt L (bestTo L x k).toNat).2 < l))), bestTo L x (k + 1) = bestTo L x k) := by unfold Hid; intro h; exact best_no (by rw [ha, hl]; exact h)
      rw [ha] at c0
      rw [hl] at c1
      clear ha hl
      cases hok : okP a l with
      | false =>
        have HE : Hid (bestTo L x (k + 1) = bestTo L x k) := HN.out (by unfold netHas; rw [hok]; simp)
        go_wp2_with (go_at_call 51; refine (iok_any _ _ _).mono ?_; rintro e w1 ⟨rfl, hb⟩)
        go_roundw
        case rel => exact ⟨k + 1, hlt, by rw [HE.out], rfl, below_then (hB.more _) hb⟩
        case measure => simp [intOf]; omega
      | true =>
        have HP : Hid (0 ≤ l ∧ l ≤ 16 ∧ 0 ≤ a ∧ a ≤ 65535 ∧ a % sz l = 0) := okP_of hok
        cases hhas : hasP a l x with
        | false =>
          have HE : Hid (bestTo L x (k + 1) = bestTo L x k) := HN.out (by unfold netHas; rw [hhas]; simp)
          go_wp2_with (first
            | (go_at_call 51; refine (iok_any _ _ _).mono ?_; rintro e w1 ⟨rfl, hb⟩; obtain ⟨hc, hf⟩ := bcell hb)
            | (go_at_call 52; refine (ihas_any _ _ _ _ HP.out.1 HP.out.2.1 HP.out.2.2.1 HP.out.2.2.2.1 HX.out).mono ?_; rintro e w2 ⟨rfl, hb2⟩))
          go_roundw
          case rel => exact ⟨k + 1, hlt, by rw [HE.out], rfl, below_then (below_then (hB.more _) hb) hb2⟩
          case measure => simp [intOf]; omega
        | true =>
          have HH : Hid (netHas a l x = true) := by unfold Hid netHas; rw [hhas, hok]; rfl
          rcases bestTo_bd L x k with hbt | ⟨j, hj, hbt⟩
          · have HE : Hid (bestTo L x (k + 1) = k) := HY.out HH.out (.inl (by rw [hbt]; decide))
            rw [hbt]
            clear HY HN hbt
            go_wp2_with (first
              | (go_at_call 51; refine (iok_any _ _ _).mono ?_; rintro e w1 ⟨rfl, hb⟩; obtain ⟨hc, hf⟩ := bcell hb)
              | (go_at_call 52; refine (ihas_any _ _ _ _ HP.out.1 HP.out.2.1 HP.out.2.2.1 HP.out.2.2.2.1 HX.out).mono ?_; rintro e w2 ⟨rfl, hb2⟩))
            go_quiet (fail)
            go_wp2
            go_roundw
            case rel => exact ⟨k + 1, hlt, by rw [HE.out], rfl, below_drewN (below_then (below_then (hB.more _) hb) hb2) _⟩
            case measure => simp [intOf]; omega
          · obtain ⟨g', e', _, _, c3⟩ := (hr.below hB).gt (show j < L.length by omega)
            cases e'
            obtain ⟨m, hm⟩ : ∃ m, (gt L j).2 = m := ⟨_, rfl⟩
            rw [hm] at c3
            have hjl : j < L.length := by omega
            have HY2 : Hid (m < l → bestTo L x (k + 1) = k) := by unfold Hid; intro h; exact HY.out HH.out (.inr (by rw [hbt]; simpa [hm] using h))
            have HN2 : Hid (¬ m < l → bestTo L x (k + 1) = (j : Int)) := by
              unfold Hid; intro h; rw [← hbt]; refine HN.out ?_
              rw [hbt]
              rintro ⟨_, h2 | h2⟩
              · omega
              · exact h (by simpa [hm] using h2)
            have hj0 : decide ((j : Int) < 0) = false := decide_eq_false (by omega)
            rw [hbt]
            clear HY HN hbt hm
            by_cases hml : m < l
            · have HE := HY2.out hml
              have HE : Hid (bestTo L x (k + 1) = k) := HE
              clear HY2 HN2
              go_wp2_with (first
                | (go_at_call 51; refine (iok_any _ _ _).mono ?_; rintro e w1 ⟨rfl, hb⟩; obtain ⟨hc, hf⟩ := bcell hb)
                | (go_at_call 52; refine (ihas_any _ _ _ _ HP.out.1 HP.out.2.1 HP.out.2.2.1 HP.out.2.2.2.1 HX.out).mono ?_; rintro e w2 ⟨rfl, hb2⟩))
              obtain ⟨d1, d2, _, _, _⟩ := old_one (below_then hb hb2)
              have d3 : w2.cell? ⟨g, j * 2 + 1, none⟩ = some (.int .i64 m) := by
                rw [(below_then hb hb2).cell (p := ⟨g, j * 2 + 1, none⟩) (by simp; omega), World.cell?_alloc_lt _ _ _ hg]; exact c3
              go_quiet (fail)
              go_wp2
              go_roundw
              case rel => exact ⟨k + 1, hlt, by rw [HE.out], rfl, below_drewN (below_then (below_then (hB.more _) hb) hb2) _⟩
              case measure => simp [intOf]; omega
            · have HE := HN2.out hml
              have HE : Hid (bestTo L x (k + 1) = (j : Int)) := HE
              have hd : decide (m < l) = false := decide_eq_false hml
              clear HY2 HN2
              go_wp2_with (first
                | (go_at_call 51; refine (iok_any _ _ _).mono ?_; rintro e w1 ⟨rfl, hb⟩; obtain ⟨hc, hf⟩ := bcell hb)
                | (go_at_call 52; refine (ihas_any _ _ _ _ HP.out.1 HP.out.2.1 HP.out.2.2.1 HP.out.2.2.2.1 HX.out).mono ?_; rintro e w2 ⟨rfl, hb2⟩))
              obtain ⟨d1, d2, _, _, _⟩ := old_one (below_then hb hb2)
              have d3 : w2.cell? ⟨g, j * 2 + 1, none⟩ = some (.int .i64 m) := by
                rw [(below_then hb hb2).cell (p := ⟨g, j * 2 + 1, none⟩) (by simp; omega), World.cell?_alloc_lt _ _ _ hg]; exact c3
              go_quiet (fail)
              go_wp2
              go_roundw
              case rel => exact ⟨k + 1, hlt, by rw [HE.out], rfl, below_drewN (below_then (below_then (hB.more _) hb) hb2) _⟩
              case measure => simp [intOf]; omega
    · have : k = L.length := by omega
      subst this
      go_wp2
      go_ret
      exact ⟨rfl, hB⟩

/-- what holds in a region over a row: three cells of it lie as they lay, nothing below has turned -/
def R3 (W0 : World) (g i j k : Nat) (x y z : Value) (w' : World) : Prop :=
  w'.cell? ⟨g, i, none⟩ = some x ∧ w'.cell? ⟨g, j, none⟩ = some y ∧ w'.cell? ⟨g, k, none⟩ = some z ∧ Below W0.heap.size W0 w'
theorem r3_of {W0 w' : World} {g i j k : Nat} {x y z : Value} (h1 : W0.cell? ⟨g, i, none⟩ = some x) (h2 : W0.cell? ⟨g, j, none⟩ = some y) (h3 : W0.cell? ⟨g, k, none⟩ = some z) (hg : g < W0.heap.size) (hb : Below W0.heap.size W0 w') : R3 W0 g i j k x y z w' :=
  ⟨by rw [hb.cell (p := ⟨g, i, none⟩) hg]; exact h1, by rw [hb.cell (p := ⟨g, j, none⟩) hg]; exact h2, by rw [hb.cell (p := ⟨g, k, none⟩) hg]; exact h3, hb⟩

theorem r3_next {W0 wp w1 : World} {g i j k : Nat} {x y z : Value} (hg : g < W0.heap.size) (h : R3 W0 g i j k x y z wp) (hb : Below wp.heap.size wp w1) : R3 W0 g i j k x y z w1 := by
  obtain ⟨h1, h2, h3, h4⟩ := h
  have hs := h4.size
  refine ⟨?_, ?_, ?_, below_then h4 hb⟩
  · rw [hb.cell (p := ⟨g, i, none⟩) (by simp; omega)]; exact h1
  · rw [hb.cell (p := ⟨g, j, none⟩) (by simp; omega)]; exact h2
  · rw [hb.cell (p := ⟨g, k, none⟩) (by simp; omega)]; exact h3

set_option maxRecDepth 100000 in
set_option maxHeartbeats 1000000 in
theorem best_any (L : List (Int × Int)) (x : Int) (v : Value) (w : World) (hr : Rd w v L) (hlen : L.length ≤ 1048576) :
    Calls Try.prog 23 #[v, .int .i64 x] w fun e w' => e = .returned (.int .i64 (bestTo L x L.length)) ∧ Below w.heap.size w w' := by
  obtain ⟨p, cap, rfl⟩ := hr.form
  go_enter Try.func23, Try.ntmps23
  go_wp2_with fail
  go_loopw [5, 6] (fun b i wr => ∃ k : Nat, k ≤ L.length ∧ b = .int .i64 (bestTo L x k) ∧ i = .int .i64 k ∧ Below w.heap.size w wr) (fun _ i _ => L.length - (intOf i).toNat)
  case atStart => exact ⟨0, Nat.zero_le _, rfl, rfl, Below.refl _ _⟩
  case round =>
    obtain ⟨k, hk, rfl, rfl, hB⟩ := hrel
    by_cases hlt : k < L.length
    · obtain ⟨g, rfl, hg, c0, c1⟩ := (hr.below hB).gt hlt
      obtain ⟨a, ha⟩ : ∃ a, (gt L k).1 = a := ⟨_, rfl⟩
      obtain ⟨l, hl⟩ : ∃ l, (gt L k).2 = l := ⟨_, rfl⟩
      have HY : Hid (∀ (h : netHas a l x = true) (_ : bestTo L x k < 0 ∨ (gt L (bestTo L x k).toNat).2 < l), bestTo L x (k + 1) = k) := by unfold Hid; intro h h2; exact best_yes (by rw [ha, hl]; exact h) (by rw [hl]; exact h2)
      have HN : Hid (∀ (_ : ¬ (netHas a l x = true ∧ (bestTo L x k < 0 ∨ (gt L (bestTo L x k).toNat).2 < l))), bestTo L x (k + 1) = bestTo L x k) := by unfold Hid; intro h; exact best_no (by rw [ha, hl]; exact h)
      rw [ha] at c0
      rw [hl] at c1
      clear ha hl
      have hn := fun w => nethas_any a l x w
      cases hhas : netHas a l x with
      | false =>
        simp only [hhas] at hn
        have HE : Hid (bestTo L x (k + 1) = bestTo L x k) := HN.out (by rw [hhas]; simp)
        clear HY HN
        go_wp2_with fail
        refine wp_region_held_drew (S := fun w' => w'.cell? ⟨g, k * 2, none⟩ = some (.int .i64 a) ∧ w'.cell? ⟨g, k * 2 + 1, none⟩ = some (.int .i64 l) ∧ w'.cell? ⟨g, k * 2 + 1, none⟩ = some (.int .i64 l) ∧ Below wr.heap.size wr w') (by kernel_rfl) (r3_of c0 c1 c1 hg ((Below.refl _ _).drew)) (fun hHeld => ?_)
        refine wpAnyH_take (i := 0) (oi := ⟨_, _, _, _, _, _⟩) (v := ?_) rfl (by kernel_rfl) (by kernel_rfl) (by kernel_rfl) (fun _ _ _ h => h) (Or.inl ⟨by rfl, ?_⟩) (by assumption) ?_
        rotate_left
        · (intro w hSw; (try dsimp only at hSw); go_simp; try with_reducible rfl)
        simp only [Act.put, List.setIfInBounds_toArray, List.set_cons_zero, List.set_cons_succ]
        refine wpAnyH_take (i := 1) (oi := ⟨_, _, _, _, _, _⟩) (v := ?_) rfl (by kernel_rfl) (by kernel_rfl) (by kernel_rfl) (fun _ _ _ h => h) (Or.inl ⟨by rfl, ?_⟩) (by assumption) ?_
        rotate_left
        · (intro w hSw; (try dsimp only at hSw); go_simp; try with_reducible rfl)
        simp only [Act.put, List.setIfInBounds_toArray, List.set_cons_zero, List.set_cons_succ]
        refine wpAnyH_take (i := 2) (oi := ⟨_, _, _, _, _, _⟩) (v := ?_) rfl (by kernel_rfl) (by kernel_rfl) (by kernel_rfl) (fun _ _ _ h => h) (Or.inl ⟨by rfl, ?_⟩) (by assumption) ?_
        rotate_left
        · (intro w hSw; (try dsimp only at hSw); go_simp; try with_reducible rfl)
        simp only [Act.put, List.setIfInBounds_toArray, List.set_cons_zero, List.set_cons_succ]
        refine wpAnyH_take (i := 3) (oi := ⟨_, _, _, _, _, _⟩) (v := ?_) rfl (by kernel_rfl) (by kernel_rfl) (by kernel_rfl) (fun _ _ _ h => h) (Or.inl ⟨by rfl, ?_⟩) (by assumption) ?_
        rotate_left
        · (intro w hSw; (try dsimp only at hSw); go_simp; try with_reducible rfl)
        simp only [Act.put, List.setIfInBounds_toArray, List.set_cons_zero, List.set_cons_succ]
        refine wpAnyH_take (i := 4) (oi := ⟨_, _, _, _, _, _⟩) (v := ?_) rfl (by kernel_rfl) (by kernel_rfl) (by kernel_rfl) (fun _ _ _ h => h) (Or.inl ⟨by rfl, ?_⟩) (by assumption) ?_
        rotate_left
        · (intro w hSw; (try dsimp only at hSw); go_simp; try with_reducible rfl)
        simp only [Act.put, List.setIfInBounds_toArray, List.set_cons_zero, List.set_cons_succ]
        refine wpAnyH_ready (rs := [5]) (by kernel_rfl) (by simp) (AllReadyH.cons (o := ⟨_, _, _, _, _, _⟩) rfl (fun K hK => ?_) AllReadyH.nil)
        go_simp
        go_at_call 24
        refine (hn _).mono ?_
        rintro e w1 ⟨rfl, hb⟩
        go_wp2_with fail
        refine hK.out _ _ (r3_next hg hHeld hb) (fun hHeld => ?_)
        clear hK K
        try simp only [Act.put, List.setIfInBounds_toArray, List.set_cons_zero, List.set_cons_succ]
        refine wpAnyH_take (i := 6) (oi := ⟨_, _, _, _, _, _⟩) (v := ?_) rfl (by kernel_rfl) (by kernel_rfl) (by kernel_rfl) (fun _ _ _ h => h) (Or.inl ⟨by rfl, ?_⟩) (by assumption) ?_
        rotate_left
        · (intro w hSw; (try dsimp only at hSw); go_simp; try with_reducible rfl)
        simp only [Act.put, List.setIfInBounds_toArray, List.set_cons_zero, List.set_cons_succ]
        refine wpAnyH_take (i := 7) (oi := ⟨_, _, _, _, _, _⟩) rfl (by kernel_rfl) (by kernel_rfl) (by kernel_rfl) (fun _ _ _ h => h) (Or.inr ⟨by rfl, rfl⟩) (by assumption) ?_
        simp only [Act.put, List.setIfInBounds_toArray, List.set_cons_zero, List.set_cons_succ]
        refine wpAnyH_take (i := 8) (oi := ⟨_, _, _, _, _, _⟩) rfl (by kernel_rfl) (by kernel_rfl) (by kernel_rfl) (fun _ _ _ h => h) (Or.inr ⟨by rfl, rfl⟩) (by assumption) ?_
        simp only [Act.put, List.setIfInBounds_toArray, List.set_cons_zero, List.set_cons_succ]
        refine wpAnyH_take (i := 9) (oi := ⟨_, _, _, _, _, _⟩) rfl (by kernel_rfl) (by kernel_rfl) (by kernel_rfl) (fun _ _ _ h => h) (Or.inr ⟨by rfl, rfl⟩) (by assumption) ?_
        simp only [Act.put, List.setIfInBounds_toArray, List.set_cons_zero, List.set_cons_succ]
        refine wpAnyH_take (i := 10) (oi := ⟨_, _, _, _, _, _⟩) rfl (by kernel_rfl) (by kernel_rfl) (by kernel_rfl) (fun _ _ _ h => h) (Or.inr ⟨by rfl, rfl⟩) (by assumption) ?_
        simp only [Act.put, List.setIfInBounds_toArray, List.set_cons_zero, List.set_cons_succ]
        refine wpAnyH_take (i := 11) (oi := ⟨_, _, _, _, _, _⟩) rfl (by kernel_rfl) (by kernel_rfl) (by kernel_rfl) (fun _ _ _ h => h) (Or.inr ⟨by rfl, rfl⟩) (by assumption) ?_
        simp only [Act.put, List.setIfInBounds_toArray, List.set_cons_zero, List.set_cons_succ]
        refine wpAnyH_take (i := 12) (oi := ⟨_, _, _, _, _, _⟩) rfl (by kernel_rfl) (by kernel_rfl) (by kernel_rfl) (fun _ _ _ h => h) (Or.inr ⟨by rfl, rfl⟩) (by assumption) ?_
        simp only [Act.put, List.setIfInBounds_toArray, List.set_cons_zero, List.set_cons_succ]
        refine wpAnyH_take (i := 13) (oi := ⟨_, _, _, _, _, _⟩) rfl (by kernel_rfl) (by kernel_rfl) (by kernel_rfl) (fun _ _ _ h => h) (Or.inr ⟨by rfl, rfl⟩) (by assumption) ?_
        simp only [Act.put, List.setIfInBounds_toArray, List.set_cons_zero, List.set_cons_succ]
        refine wpAnyH_take (i := 14) (oi := ⟨_, _, _, _, _, _⟩) rfl (by kernel_rfl) (by kernel_rfl) (by kernel_rfl) (fun _ _ _ h => h) (Or.inr ⟨by rfl, rfl⟩) (by assumption) ?_
        simp only [Act.put, List.setIfInBounds_toArray, List.set_cons_zero, List.set_cons_succ]
        refine wpAnyH_take (i := 15) (oi := ⟨_, _, _, _, _, _⟩) rfl (by kernel_rfl) (by kernel_rfl) (by kernel_rfl) (fun _ _ _ h => h) (Or.inr ⟨by rfl, rfl⟩) (by assumption) ?_
        simp only [Act.put, List.setIfInBounds_toArray, List.set_cons_zero, List.set_cons_succ]
        refine wpAnyH_take (i := 16) (oi := ⟨_, _, _, _, _, _⟩) rfl (by kernel_rfl) (by kernel_rfl) (by kernel_rfl) (fun _ _ _ h => h) (Or.inr ⟨by rfl, rfl⟩) (by assumption) ?_
        simp only [Act.put, List.setIfInBounds_toArray, List.set_cons_zero, List.set_cons_succ]
        refine wpAnyH_take (i := 17) (oi := ⟨_, _, _, _, _, _⟩) rfl (by kernel_rfl) (by kernel_rfl) (by kernel_rfl) (fun _ _ _ h => h) (Or.inr ⟨by rfl, rfl⟩) (by assumption) ?_
        simp only [Act.put, List.setIfInBounds_toArray, List.set_cons_zero, List.set_cons_succ]
        refine wpAnyH_take (i := 18) (oi := ⟨_, _, _, _, _, _⟩) rfl (by kernel_rfl) (by kernel_rfl) (by kernel_rfl) (fun _ _ _ h => h) (Or.inr ⟨by rfl, rfl⟩) (by assumption) ?_
        simp only [Act.put, List.setIfInBounds_toArray, List.set_cons_zero, List.set_cons_succ]
        refine wpAnyH_take (i := 19) (oi := ⟨_, _, _, _, _, _⟩) rfl (by kernel_rfl) (by kernel_rfl) (by kernel_rfl) (fun _ _ _ h => h) (Or.inr ⟨by rfl, rfl⟩) (by assumption) ?_
        simp only [Act.put, List.setIfInBounds_toArray, List.set_cons_zero, List.set_cons_succ]
        refine wpAnyH_take (i := 20) (oi := ⟨_, _, _, _, _, _⟩) rfl (by kernel_rfl) (by kernel_rfl) (by kernel_rfl) (fun _ _ _ h => h) (Or.inr ⟨by rfl, rfl⟩) (by assumption) ?_
        simp only [Act.put, List.setIfInBounds_toArray, List.set_cons_zero, List.set_cons_succ]
        refine wpAnyH_take (i := 21) (oi := ⟨_, _, _, _, _, _⟩) rfl (by kernel_rfl) (by kernel_rfl) (by kernel_rfl) (fun _ _ _ h => h) (Or.inr ⟨by rfl, rfl⟩) (by assumption) ?_
        simp only [Act.put, List.setIfInBounds_toArray, List.set_cons_zero, List.set_cons_succ]
        refine wpAnyH_take (i := 22) (oi := ⟨_, _, _, _, _, _⟩) (v := ?_) rfl (by kernel_rfl) (by kernel_rfl) (by kernel_rfl) (fun _ _ _ h => h) (Or.inl ⟨by rfl, ?_⟩) (by assumption) ?_
        rotate_left
        · (intro w hSw; (try dsimp only at hSw); go_simp; try with_reducible rfl)
        simp only [Act.put, List.setIfInBounds_toArray, List.set_cons_zero, List.set_cons_succ]
        refine wpAnyH_done (by kernel_rfl) ?_ _
        go_wp2
        go_roundw
        case rel => exact ⟨k + 1, hlt, by rw [HE.out], rfl, below_then hB hHeld.2.2.2⟩
        case measure => simp [intOf]; omega
      | true =>
        simp only [hhas] at hn
        rcases bestTo_bd L x k with hbt | ⟨j, hj, hbt⟩
        · have HE : Hid (bestTo L x (k + 1) = k) := HY.out hhas (.inl (by rw [hbt]; decide))
          rw [hbt]
          clear HY HN hbt
          go_wp2_with fail
          refine wp_region_held_drew (S := fun w' => w'.cell? ⟨g, k * 2, none⟩ = some (.int .i64 a) ∧ w'.cell? ⟨g, k * 2 + 1, none⟩ = some (.int .i64 l) ∧ w'.cell? ⟨g, k * 2 + 1, none⟩ = some (.int .i64 l) ∧ Below wr.heap.size wr w') (by kernel_rfl) (r3_of c0 c1 c1 hg ((Below.refl _ _).drew)) (fun hHeld => ?_)
          refine wpAnyH_take (i := 0) (oi := ⟨_, _, _, _, _, _⟩) (v := ?_) rfl (by kernel_rfl) (by kernel_rfl) (by kernel_rfl) (fun _ _ _ h => h) (Or.inl ⟨by rfl, ?_⟩) (by assumption) ?_
          rotate_left
          · (intro w hSw; (try dsimp only at hSw); go_simp; try with_reducible rfl)
          simp only [Act.put, List.setIfInBounds_toArray, List.set_cons_zero, List.set_cons_succ]
          refine wpAnyH_take (i := 1) (oi := ⟨_, _, _, _, _, _⟩) (v := ?_) rfl (by kernel_rfl) (by kernel_rfl) (by kernel_rfl) (fun _ _ _ h => h) (Or.inl ⟨by rfl, ?_⟩) (by assumption) ?_
          rotate_left
          · (intro w hSw; (try dsimp only at hSw); go_simp; try with_reducible rfl)
          simp only [Act.put, List.setIfInBounds_toArray, List.set_cons_zero, List.set_cons_succ]
          refine wpAnyH_take (i := 2) (oi := ⟨_, _, _, _, _, _⟩) (v := ?_) rfl (by kernel_rfl) (by kernel_rfl) (by kernel_rfl) (fun _ _ _ h => h) (Or.inl ⟨by rfl, ?_⟩) (by assumption) ?_
          rotate_left
          · (intro w hSw; (try dsimp only at hSw); go_simp; try with_reducible rfl)
          simp only [Act.put, List.setIfInBounds_toArray, List.set_cons_zero, List.set_cons_succ]
          refine wpAnyH_take (i := 3) (oi := ⟨_, _, _, _, _, _⟩) (v := ?_) rfl (by kernel_rfl) (by kernel_rfl) (by kernel_rfl) (fun _ _ _ h => h) (Or.inl ⟨by rfl, ?_⟩) (by assumption) ?_
          rotate_left
          · (intro w hSw; (try dsimp only at hSw); go_simp; try with_reducible rfl)
          simp only [Act.put, List.setIfInBounds_toArray, List.set_cons_zero, List.set_cons_succ]
          refine wpAnyH_take (i := 4) (oi := ⟨_, _, _, _, _, _⟩) (v := ?_) rfl (by kernel_rfl) (by kernel_rfl) (by kernel_rfl) (fun _ _ _ h => h) (Or.inl ⟨by rfl, ?_⟩) (by assumption) ?_
          rotate_left
          · (intro w hSw; (try dsimp only at hSw); go_simp; try with_reducible rfl)
          simp only [Act.put, List.setIfInBounds_toArray, List.set_cons_zero, List.set_cons_succ]
          refine wpAnyH_ready (rs := [5]) (by kernel_rfl) (by simp) (AllReadyH.cons (o := ⟨_, _, _, _, _, _⟩) rfl (fun K hK => ?_) AllReadyH.nil)
          go_simp
          go_at_call 24
          refine (hn _).mono ?_
          rintro e w1 ⟨rfl, hb⟩
          go_wp2_with fail
          refine hK.out _ _ (r3_next hg hHeld hb) (fun hHeld => ?_)
          clear hK K
          try simp only [Act.put, List.setIfInBounds_toArray, List.set_cons_zero, List.set_cons_succ]
          refine wpAnyH_take (i := 6) (oi := ⟨_, _, _, _, _, _⟩) (v := ?_) rfl (by kernel_rfl) (by kernel_rfl) (by kernel_rfl) (fun _ _ _ h => h) (Or.inl ⟨by rfl, ?_⟩) (by assumption) ?_
          rotate_left
          · (intro w hSw; (try dsimp only at hSw); go_simp; try with_reducible rfl)
          simp only [Act.put, List.setIfInBounds_toArray, List.set_cons_zero, List.set_cons_succ]
          refine wpAnyH_take (i := 7) (oi := ⟨_, _, _, _, _, _⟩) (v := ?_) rfl (by kernel_rfl) (by kernel_rfl) (by kernel_rfl) (fun _ _ _ h => h) (Or.inl ⟨by rfl, ?_⟩) (by assumption) ?_
          rotate_left
          · (intro w hSw; (try dsimp only at hSw); go_simp; try with_reducible rfl)
          simp only [Act.put, List.setIfInBounds_toArray, List.set_cons_zero, List.set_cons_succ]
          refine wpAnyH_take (i := 8) (oi := ⟨_, _, _, _, _, _⟩) (v := ?_) rfl (by kernel_rfl) (by kernel_rfl) (by kernel_rfl) (fun _ _ _ h => h) (Or.inl ⟨by rfl, ?_⟩) (by assumption) ?_
          rotate_left
          · (intro w hSw; (try dsimp only at hSw); go_simp; try with_reducible rfl)
          simp only [Act.put, List.setIfInBounds_toArray, List.set_cons_zero, List.set_cons_succ]
          refine wpAnyH_take (i := 9) (oi := ⟨_, _, _, _, _, _⟩) (v := ?_) rfl (by kernel_rfl) (by kernel_rfl) (by kernel_rfl) (fun _ _ _ h => h) (Or.inl ⟨by rfl, ?_⟩) (by assumption) ?_
          rotate_left
          · (intro w hSw; (try dsimp only at hSw); go_simp; try with_reducible rfl)
          simp only [Act.put, List.setIfInBounds_toArray, List.set_cons_zero, List.set_cons_succ]
          refine wpAnyH_take (i := 10) (oi := ⟨_, _, _, _, _, _⟩) rfl (by kernel_rfl) (by kernel_rfl) (by kernel_rfl) (fun _ _ _ h => h) (Or.inr ⟨by rfl, rfl⟩) (by assumption) ?_
          simp only [Act.put, List.setIfInBounds_toArray, List.set_cons_zero, List.set_cons_succ]
          refine wpAnyH_take (i := 11) (oi := ⟨_, _, _, _, _, _⟩) rfl (by kernel_rfl) (by kernel_rfl) (by kernel_rfl) (fun _ _ _ h => h) (Or.inr ⟨by rfl, rfl⟩) (by assumption) ?_
          simp only [Act.put, List.setIfInBounds_toArray, List.set_cons_zero, List.set_cons_succ]
          refine wpAnyH_take (i := 12) (oi := ⟨_, _, _, _, _, _⟩) rfl (by kernel_rfl) (by kernel_rfl) (by kernel_rfl) (fun _ _ _ h => h) (Or.inr ⟨by rfl, rfl⟩) (by assumption) ?_
          simp only [Act.put, List.setIfInBounds_toArray, List.set_cons_zero, List.set_cons_succ]
          refine wpAnyH_take (i := 13) (oi := ⟨_, _, _, _, _, _⟩) rfl (by kernel_rfl) (by kernel_rfl) (by kernel_rfl) (fun _ _ _ h => h) (Or.inr ⟨by rfl, rfl⟩) (by assumption) ?_
          simp only [Act.put, List.setIfInBounds_toArray, List.set_cons_zero, List.set_cons_succ]
          refine wpAnyH_take (i := 14) (oi := ⟨_, _, _, _, _, _⟩) rfl (by kernel_rfl) (by kernel_rfl) (by kernel_rfl) (fun _ _ _ h => h) (Or.inr ⟨by rfl, rfl⟩) (by assumption) ?_
          simp only [Act.put, List.setIfInBounds_toArray, List.set_cons_zero, List.set_cons_succ]
          refine wpAnyH_take (i := 15) (oi := ⟨_, _, _, _, _, _⟩) rfl (by kernel_rfl) (by kernel_rfl) (by kernel_rfl) (fun _ _ _ h => h) (Or.inr ⟨by rfl, rfl⟩) (by assumption) ?_
          simp only [Act.put, List.setIfInBounds_toArray, List.set_cons_zero, List.set_cons_succ]
          refine wpAnyH_take (i := 16) (oi := ⟨_, _, _, _, _, _⟩) rfl (by kernel_rfl) (by kernel_rfl) (by kernel_rfl) (fun _ _ _ h => h) (Or.inr ⟨by rfl, rfl⟩) (by assumption) ?_
          simp only [Act.put, List.setIfInBounds_toArray, List.set_cons_zero, List.set_cons_succ]
          refine wpAnyH_take (i := 17) (oi := ⟨_, _, _, _, _, _⟩) rfl (by kernel_rfl) (by kernel_rfl) (by kernel_rfl) (fun _ _ _ h => h) (Or.inr ⟨by rfl, rfl⟩) (by assumption) ?_
          simp only [Act.put, List.setIfInBounds_toArray, List.set_cons_zero, List.set_cons_succ]
          refine wpAnyH_take (i := 18) (oi := ⟨_, _, _, _, _, _⟩) rfl (by kernel_rfl) (by kernel_rfl) (by kernel_rfl) (fun _ _ _ h => h) (Or.inr ⟨by rfl, rfl⟩) (by assumption) ?_
          simp only [Act.put, List.setIfInBounds_toArray, List.set_cons_zero, List.set_cons_succ]
          refine wpAnyH_take (i := 19) (oi := ⟨_, _, _, _, _, _⟩) rfl (by kernel_rfl) (by kernel_rfl) (by kernel_rfl) (fun _ _ _ h => h) (Or.inr ⟨by rfl, rfl⟩) (by assumption) ?_
          simp only [Act.put, List.setIfInBounds_toArray, List.set_cons_zero, List.set_cons_succ]
          refine wpAnyH_take (i := 20) (oi := ⟨_, _, _, _, _, _⟩) rfl (by kernel_rfl) (by kernel_rfl) (by kernel_rfl) (fun _ _ _ h => h) (Or.inr ⟨by rfl, rfl⟩) (by assumption) ?_
          simp only [Act.put, List.setIfInBounds_toArray, List.set_cons_zero, List.set_cons_succ]
          refine wpAnyH_take (i := 21) (oi := ⟨_, _, _, _, _, _⟩) (v := ?_) rfl (by kernel_rfl) (by kernel_rfl) (by kernel_rfl) (fun _ _ _ h => h) (Or.inl ⟨by rfl, ?_⟩) (by assumption) ?_
          rotate_left
          · (intro w hSw; (try dsimp only at hSw); go_simp; try with_reducible rfl)
          simp only [Act.put, List.setIfInBounds_toArray, List.set_cons_zero, List.set_cons_succ]
          refine wpAnyH_take (i := 22) (oi := ⟨_, _, _, _, _, _⟩) (v := ?_) rfl (by kernel_rfl) (by kernel_rfl) (by kernel_rfl) (fun _ _ _ h => h) (Or.inl ⟨by rfl, ?_⟩) (by assumption) ?_
          rotate_left
          · (intro w hSw; (try dsimp only at hSw); go_simp; try with_reducible rfl)
          simp only [Act.put, List.setIfInBounds_toArray, List.set_cons_zero, List.set_cons_succ]
          refine wpAnyH_done (by kernel_rfl) ?_ _
          go_wp2
          go_roundw
          case rel => exact ⟨k + 1, hlt, by rw [HE.out], rfl, below_then hB hHeld.2.2.2⟩
          case measure => simp [intOf]; omega
        · obtain ⟨g', e', _, _, c3⟩ := (hr.below hB).gt (show j < L.length by omega)
          cases e'
          obtain ⟨m, hm⟩ : ∃ m, (gt L j).2 = m := ⟨_, rfl⟩
          rw [hm] at c3
          have hjl : j < L.length := by omega
          have HY2 : Hid (m < l → bestTo L x (k + 1) = k) := by unfold Hid; intro h; exact HY.out hhas (.inr (by rw [hbt]; simpa [hm] using h))
          have HN2 : Hid (¬ m < l → bestTo L x (k + 1) = (j : Int)) := by
            unfold Hid; intro h; rw [← hbt]; refine HN.out ?_
            rw [hbt]
            rintro ⟨_, h2 | h2⟩
            · omega
            · exact h (by simpa [hm] using h2)
          have hj0 : decide ((j : Int) < 0) = false := decide_eq_false (by omega)
          rw [hbt]
          clear HY HN hbt hm
          by_cases hml : m < l
          · have HE : Hid (bestTo L x (k + 1) = k) := HY2.out hml
            clear HY2 HN2
            go_wp2_with fail
            go_region_held3 (fun w' => w'.cell? ⟨g, k * 2, none⟩ = some (.int .i64 a) ∧ w'.cell? ⟨g, k * 2 + 1, none⟩ = some (.int .i64 l) ∧ w'.cell? ⟨g, j * 2 + 1, none⟩ = some (.int .i64 m) ∧ Below wr.heap.size wr w') (first | exact r3_of c0 c1 c3 hg ((Below.refl _ _).drew) | exact r3_next hg (by assumption) (by assumption)) (first | (go_at_call 24; refine (hn _).mono ?_; rintro e w1 ⟨rfl, hb⟩))
            go_wp2
            have hS : R3 wr g (k * 2) (k * 2 + 1) (j * 2 + 1) (.int .i64 a) (.int .i64 l) (.int .i64 m) w1 := by assumption
            go_roundw
            case rel => exact ⟨k + 1, hlt, by rw [HE.out], rfl, below_then hB hS.2.2.2⟩
            case measure => simp [intOf]; omega
          · have HE : Hid (bestTo L x (k + 1) = (j : Int)) := HN2.out hml
            have hd : decide (m < l) = false := decide_eq_false hml
            clear HY2 HN2
            go_wp2_with fail
            go_region_held3 (fun w' => w'.cell? ⟨g, k * 2, none⟩ = some (.int .i64 a) ∧ w'.cell? ⟨g, k * 2 + 1, none⟩ = some (.int .i64 l) ∧ w'.cell? ⟨g, j * 2 + 1, none⟩ = some (.int .i64 m) ∧ Below wr.heap.size wr w') (first | exact r3_of c0 c1 c3 hg ((Below.refl _ _).drew) | exact r3_next hg (by assumption) (by assumption)) (first | (go_at_call 24; refine (hn _).mono ?_; rintro e w1 ⟨rfl, hb⟩))
            go_wp2
            have hS : R3 wr g (k * 2) (k * 2 + 1) (j * 2 + 1) (.int .i64 a) (.int .i64 l) (.int .i64 m) w1 := by assumption
            go_roundw
            case rel => exact ⟨k + 1, hlt, by rw [HE.out], rfl, below_then hB hS.2.2.2⟩
            case measure => simp [intOf]; omega
    · have : k = L.length := by omega
      subst this
      go_wp2
      go_ret
      exact ⟨rfl, hB⟩
end Go.Proofs.Ytaoahghfmlegbaa
