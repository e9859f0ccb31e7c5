/- The model's l3Ok and l3Some. -/
import Derived.Test.YtaoahghfmlegbabSl
import Derived.Test.YtaoahghfmlegbabTrie
import Derived.Deep.RegionHeld3
namespace Go.Proofs.Ytaoahghfmlegbab
open Go.RowKit Go.Lib

/-- whether prefixes are ok, and not too many -/
def okSet (L : List (Int × Int)) : Bool := decide (L.length ≤ 40) && allOk L
theorem okSet_of {L : List (Int × Int)} (h : okSet L = true) : L.length ≤ 40 ∧ allOk L = true := by
  unfold okSet at h; rw [Bool.and_eq_true] at h; exact ⟨of_decide_eq_true h.1, h.2⟩
theorem allOk_take {L : List (Int × Int)} {k : Nat} (h : k < L.length) : allOk (L.take (k + 1)) = (allOk (L.take k) && okP L[k].1 L[k].2) := by
  unfold allOk; rw [List.take_succ_eq_append_getElem h, List.all_append]; simp
theorem allOk_no {L : List (Int × Int)} {k : Nat} (h : k < L.length) (hk : okP L[k].1 L[k].2 = false) : allOk L = false := by
  cases e : allOk L with
  | false => rfl
  | true => have := allOk_of e (List.getElem_mem h); rw [hk] at this; cases this

set_option maxRecDepth 100000 in
set_option maxHeartbeats 1000000 in
theorem l3ok_any (L : List (Int × Int)) (v : Value) (w : World) (hr : Rd w v L) :
    Calls Try.prog 42 #[v] w fun e w' => e = .returned (.bool (okSet L)) ∧ Below w.heap.size w w' := by
  obtain ⟨p, cap, rfl⟩ := hr.form
  by_cases hlen : L.length ≤ 40
  · go_enter Try.func42, Try.ntmps42
    go_wp2_with fail
    go_loopw [3] (fun i wr => ∃ k : Nat, k ≤ L.length ∧ i = .int .i64 k ∧ Hid (allOk (L.take k) = true) ∧ Below w.heap.size w wr) (fun i _ => L.length - (intOf i).toNat)
    case atStart => exact ⟨0, Nat.zero_le _, rfl, by unfold Hid; simp [allOk], Below.refl _ _⟩
    case round =>
      obtain ⟨k, hk, rfl, hall, hB⟩ := hrel
      by_cases hlt : k < L.length
      · obtain ⟨g, rfl, hg, c0, c1⟩ := (hr.below hB).at hlt
        obtain ⟨a, ha⟩ : ∃ a, L[k].1 = a := ⟨_, rfl⟩
        obtain ⟨l, hl⟩ : ∃ l, L[k].2 = l := ⟨_, rfl⟩
        have HA : Hid (allOk (L.take (k + 1)) = okP a l) := by unfold Hid; rw [allOk_take hlt, hall.out, ha, hl]; rfl
        have HN : Hid (okP a l = false → okSet L = false) := by
          unfold Hid; intro h; unfold okSet; rw [allOk_no hlt (by rw [ha, hl]; exact h)]; simp
        rw [ha] at c0
        rw [hl] at c1
        clear ha hl
        cases hok : okP a l with
        | true =>
          rw [hok] at HA
          go_wp2_with (go_at_call 36; refine (ok_any _ _ _).mono ?_; rintro e w1 ⟨rfl, hb⟩)
          go_roundw
          case rel => exact ⟨k + 1, hlt, rfl, HA, below_then hB hb⟩
          case measure => simp [intOf]; omega
        | false =>
          have HE : Hid (okSet L = false) := HN.out hok
          go_wp2_with (go_at_call 36; refine (ok_any _ _ _).mono ?_; rintro e w1 ⟨rfl, hb⟩)
          go_ret
          exact ⟨ret_bool HE.out.symm, below_then hB hb⟩
      · have : k = L.length := by omega
        subst this
        have HE : Hid (okSet L = true) := by unfold Hid okSet; have := hall.out; rw [List.take_length] at this; rw [this, decide_eq_true hlen]; rfl
        go_wp2
        go_ret
        exact ⟨ret_bool HE.out.symm, hB⟩
  · have HE : Hid (okSet L = false) := by unfold Hid okSet; rw [decide_eq_false hlen]; rfl
    go_enter Try.func42, Try.ntmps42
    go_wp2
    go_ret
    exact ⟨ret_bool HE.out.symm, Below.refl _ _⟩

/-- a box of two cells and one element of a row that nothing turns -/
def At4 (W0 : World) (B g j : Nat) (x y u v : Value) (w' : World) : Prop :=
  w'.cell? ⟨B, 0, none⟩ = some x ∧ w'.cell? ⟨B, 1, none⟩ = some y ∧ w'.cell? ⟨g, j * 2, none⟩ = some u ∧ w'.cell? ⟨g, j * 2 + 1, none⟩ = some v ∧ Below W0.heap.size W0 w'
theorem at4_next {W0 wp w1 : World} {B g j : Nat} {x y u v : Value} (hB : B < W0.heap.size) (hg : g < W0.heap.size) (h : At4 W0 B g j x y u v wp) (hb : Below wp.heap.size wp w1) : At4 W0 B g j x y u v w1 := by
  obtain ⟨h1, h2, h3, h4, h5⟩ := h
  have hs := h5.size
  refine ⟨?_, ?_, ?_, ?_, below_then h5 hb⟩
  · rw [hb.cell (p := ⟨B, 0, none⟩) (by simp; omega)]; exact h1
  · rw [hb.cell (p := ⟨B, 1, none⟩) (by simp; omega)]; exact h2
  · rw [hb.cell (p := ⟨g, j * 2, none⟩) (by simp; omega)]; exact h3
  · rw [hb.cell (p := ⟨g, j * 2 + 1, none⟩) (by simp; omega)]; exact h4
theorem around_take {L : List (Int × Int)} {a l : Int} {k : Nat} (h : k < L.length) : around (L.take (k + 1)) a l = (around (L.take k) a l || withinP a l L[k].1 L[k].2) := by
  unfold around; rw [List.take_succ_eq_append_getElem h, List.any_append]; simp
theorem inside_take {L : List (Int × Int)} {a l : Int} {k : Nat} (h : k < L.length) : inside (L.take (k + 1)) a l = (inside (L.take k) a l || withinP L[k].1 L[k].2 a l) := by
  unfold inside; rw [List.take_succ_eq_append_getElem h, List.any_append]; simp

set_option maxRecDepth 100000 in
set_option maxHeartbeats 2000000 in
theorem l3some_any (L : List (Int × Int)) (a l : Int) (v : Value) (w : World) (hr : Rd w v L) (hL : allOk L = true) (hp : okP a l = true) (hlen : L.length ≤ 40) :
    Calls Try.prog 61 #[v, .agg #[.int .i64 a, .int .i64 l]] w fun e w' => e = .returned (.tuple #[.bool (around L a l), .bool (inside L a l)]) ∧ Below w.heap.size w w' := by
  obtain ⟨p, cap, rfl⟩ := hr.form
  have HP : Hid (0 ≤ l ∧ l ≤ 16 ∧ 0 ≤ a ∧ a ≤ 65535 ∧ a % sz l = 0) := okP_of hp
  have b0 : Below w.heap.size w (w.alloc (.cells #[.int .i64 a, .int .i64 l] 24)) := (Below.refl _ _).more _
  have hr1 := hr.below b0
  have x0 : (w.alloc (.cells #[.int .i64 a, .int .i64 l] 24)).cell? ⟨w.heap.size, 0, none⟩ = some (.int .i64 a) := by simp
  have x1 : (w.alloc (.cells #[.int .i64 a, .int .i64 l] 24)).cell? ⟨w.heap.size, 1, none⟩ = some (.int .i64 l) := by simp
  have xs : w.heap.size < (w.alloc (.cells #[.int .i64 a, .int .i64 l] 24)).heap.size := by simp
  have HL : Hid (allOk L = true) := hL
  clear hr hL hp
  go_enter Try.func61, Try.ntmps61
  go_wp2_with fail
  generalize hW : w.alloc (.cells #[.int .i64 a, .int .i64 l] 24) = W1
  rw [hW] at b0 hr1 x0 x1 xs
  clear hW
  go_loopw [6, 7, 8] (fun s t i wr => ∃ k : Nat, k ≤ L.length ∧ s = .bool (around (L.take k) a l) ∧ t = .bool (inside (L.take k) a l) ∧ i = .int .i64 k ∧ Below W1.heap.size W1 wr) (fun _ _ i _ => L.length - (intOf i).toNat)
  case atStart => exact ⟨0, Nat.zero_le _, rfl, rfl, rfl, Below.refl _ _⟩
  case round =>
    obtain ⟨k, hk, rfl, rfl, rfl, hB⟩ := hrel
    by_cases hlt : k < L.length
    · obtain ⟨g, rfl, hg, c0, c1⟩ := (hr1.below hB).at hlt
      have hq := okP_of (allOk_of HL.out (List.getElem_mem hlt))
      have HR := around_take (a := a) (l := l) hlt
      have HS := inside_take (a := a) (l := l) hlt
      obtain ⟨b, hb'⟩ : ∃ b, L[k].1 = b := ⟨_, rfl⟩
      obtain ⟨m, hm'⟩ : ∃ m, L[k].2 = m := ⟨_, rfl⟩
      rw [hb'] at c0 hq HR HS
      rw [hm'] at c1 hq HR HS
      have HQ : Hid (0 ≤ m ∧ m ≤ 16 ∧ 0 ≤ b ∧ b ≤ 65535 ∧ b % sz m = 0) := hq
      clear hb' hm' hq
      obtain ⟨s, hs'⟩ : ∃ s, around (L.take k) a l = s := ⟨_, rfl⟩
      obtain ⟨t, ht'⟩ : ∃ t, inside (L.take k) a l = t := ⟨_, rfl⟩
      rw [hs'] at HR ⊢
      rw [ht'] at HS ⊢
      have y0 : wr.cell? ⟨w.heap.size, 0, none⟩ = some (.int .i64 a) := by rw [hB.cell (p := ⟨w.heap.size, 0, none⟩) xs]; exact x0
      have y1 : wr.cell? ⟨w.heap.size, 1, none⟩ = some (.int .i64 l) := by rw [hB.cell (p := ⟨w.heap.size, 1, none⟩) xs]; exact x1
      have ys : w.heap.size < wr.heap.size := Nat.lt_of_lt_of_le xs hB.size
      have F1 : Hid (around (L.take (k + 1)) a l = (s || withinP a l b m)) := HR
      have F2 : Hid (inside (L.take (k + 1)) a l = (t || withinP b m a l)) := HS
      have hA : At4 wr w.heap.size g k (.int .i64 a) (.int .i64 l) (.int .i64 b) (.int .i64 m) wr.drew := ⟨y0, y1, c0, c1, (Below.refl _ _).drew⟩
      clear HR HS hs' ht'
      cases s with
      | true =>
        cases t with
        | true =>
          go_wp2_with fail
          go_quiet (fail)
          go_wp2_with fail
          go_quiet (fail)
          go_wp2
          go_roundw
          case rel => exact ⟨k + 1, hlt, by rw [F1.out]; rfl, by rw [F2.out]; rfl, rfl, below_drewN hB _⟩
          case measure => simp [intOf]; omega
        | false =>
          go_wp2_with fail
          go_quiet (fail)
          go_wp2_with fail
          have hA2 : At4 wr w.heap.size g k (.int .i64 a) (.int .i64 l) (.int .i64 b) (.int .i64 m) (wr.drewN nq).drew := ⟨y0, y1, c0, c1, (below_drewN (Below.refl _ _) _).drew⟩
          go_region_held3 (fun w' => w'.cell? ⟨w.heap.size, 0, none⟩ = some (.int .i64 a) ∧ w'.cell? ⟨w.heap.size, 1, none⟩ = some (.int .i64 l) ∧ w'.cell? ⟨g, k * 2, none⟩ = some (.int .i64 b) ∧ w'.cell? ⟨g, k * 2 + 1, none⟩ = some (.int .i64 m) ∧ Below wr.heap.size wr w') (first | exact hA2 | exact at4_next ys hg (by assumption) (by assumption)) (first | (go_at_call 77; refine (within_any b m a l _ HP.out.1 HP.out.2.1 HP.out.2.2.1 HP.out.2.2.2.1).mono ?_; rintro e w1 ⟨rfl, hb⟩))
          go_wp2_with fail
          have hS : At4 wr w.heap.size g k (.int .i64 a) (.int .i64 l) (.int .i64 b) (.int .i64 m) w1 := by assumption
          go_roundw
          case rel => exact ⟨k + 1, hlt, by rw [F1.out]; rfl, by rw [F2.out]; rfl, rfl, below_then hB hS.2.2.2.2⟩
          case measure => simp [intOf]; omega
      | false =>
        cases t with
        | true =>
          go_wp2_with fail
          go_region_held3 (fun w' => w'.cell? ⟨w.heap.size, 0, none⟩ = some (.int .i64 a) ∧ w'.cell? ⟨w.heap.size, 1, none⟩ = some (.int .i64 l) ∧ w'.cell? ⟨g, k * 2, none⟩ = some (.int .i64 b) ∧ w'.cell? ⟨g, k * 2 + 1, none⟩ = some (.int .i64 m) ∧ Below wr.heap.size wr w') (first | exact hA | exact at4_next ys hg (by assumption) (by assumption)) (first | (go_at_call 77; refine (within_any a l b m _ HQ.out.1 HQ.out.2.1 HQ.out.2.2.1 HQ.out.2.2.2.1).mono ?_; rintro e w1 ⟨rfl, hb⟩))
          go_wp2_with fail
          have hS : At4 wr w.heap.size g k (.int .i64 a) (.int .i64 l) (.int .i64 b) (.int .i64 m) w1 := by assumption
          obtain ⟨z0, z1, z2, z3, z4⟩ := hS
          clear hA
          go_quiet (fail)
          go_wp2
          go_roundw
          case rel => exact ⟨k + 1, hlt, by rw [F1.out]; rfl, by rw [F2.out]; rfl, rfl, below_drewN (below_then hB z4) _⟩
          case measure => simp [intOf]; omega
        | false =>
          go_wp2_with fail
          go_region_held3 (fun w' => w'.cell? ⟨w.heap.size, 0, none⟩ = some (.int .i64 a) ∧ w'.cell? ⟨w.heap.size, 1, none⟩ = some (.int .i64 l) ∧ w'.cell? ⟨g, k * 2, none⟩ = some (.int .i64 b) ∧ w'.cell? ⟨g, k * 2 + 1, none⟩ = some (.int .i64 m) ∧ Below wr.heap.size wr w') (first | exact hA | exact at4_next ys hg (by assumption) (by assumption)) (first | (go_at_call 77; refine (within_any a l b m _ HQ.out.1 HQ.out.2.1 HQ.out.2.2.1 HQ.out.2.2.2.1).mono ?_; rintro e w1 ⟨rfl, hb⟩))
          go_wp2_with fail
          have hS : At4 wr w.heap.size g k (.int .i64 a) (.int .i64 l) (.int .i64 b) (.int .i64 m) w1 := by assumption
          obtain ⟨z0, z1, z2, z3, z4⟩ := hS
          clear hA
          have hA2 : At4 wr w.heap.size g k (.int .i64 a) (.int .i64 l) (.int .i64 b) (.int .i64 m) w1.drew := ⟨z0, z1, z2, z3, z4.drew⟩
          go_region_held3 (fun w' => w'.cell? ⟨w.heap.size, 0, none⟩ = some (.int .i64 a) ∧ w'.cell? ⟨w.heap.size, 1, none⟩ = some (.int .i64 l) ∧ w'.cell? ⟨g, k * 2, none⟩ = some (.int .i64 b) ∧ w'.cell? ⟨g, k * 2 + 1, none⟩ = some (.int .i64 m) ∧ Below wr.heap.size wr w') (first | exact hA2 | exact at4_next ys hg (by assumption) (by assumption)) (first | (go_at_call 77; refine (within_any b m a l _ HP.out.1 HP.out.2.1 HP.out.2.2.1 HP.out.2.2.2.1).mono ?_; rintro e w2 ⟨rfl, hb⟩))
          go_wp2_with fail
          have hS2 : At4 wr w.heap.size g k (.int .i64 a) (.int .i64 l) (.int .i64 b) (.int .i64 m) w2 := by assumption
          go_roundw
          case rel => exact ⟨k + 1, hlt, by rw [F1.out]; rfl, by rw [F2.out]; rfl, rfl, below_then hB hS2.2.2.2.2⟩
          case measure => simp [intOf]; omega
    · have : k = L.length := by omega
      subst this
      simp only [List.take_length]
      go_wp2
      refine bodyPost_ret (v := .tuple #[.bool (around L a l), .bool (inside L a l)]) (by simp [results, Try.results61, go_sem]) rfl ⟨rfl, below_then b0 hB⟩
end Go.Proofs.Ytaoahghfmlegbab
