/- The laws' own helpers: wnSame (of two lists that are the same), wnOk, wnHas. -/
import Derived.Test.YtaoahghfmlegbaaSome
import Derived.Test.YtaoahghfmlegbaaToS
import Derived.BigQuiet
namespace Go.Proofs.Ytaoahghfmlegbaa
open Go.RowKit Go.Lib

set_option maxRecDepth 100000 in
set_option maxHeartbeats 1000000 in
/-- two lists that are the same are told so -/
theorem same_any (L : List (Int × Int)) (v u : Value) (w : World) (hr : Rd w v L) (hs : Rd w u L) (hlen : L.length ≤ 1048576) :
    Calls Try.prog 13 #[v, u] w fun e w' => e = .returned (.bool true) ∧ Below w.heap.size w w' := by
  obtain ⟨p, cap, rfl⟩ := hr.form
  obtain ⟨q, cap', rfl⟩ := hs.form
  go_enter Try.func13, Try.ntmps13
  go_wp2_with fail
  go_loopw [5] (fun i wr => ∃ k : Nat, k ≤ L.length ∧ i = .int .i64 k ∧ Below w.heap.size w wr) (fun i _ => L.length - (intOf i).toNat)
  case atStart => exact ⟨0, Nat.zero_le _, rfl, Below.refl _ _⟩
  case round =>
    obtain ⟨k, hk, rfl, hB⟩ := hrel
    by_cases hlt : k < L.length
    · obtain ⟨g, rfl, hg, c0, c1⟩ := (hr.below hB).at hlt
      obtain ⟨g', rfl, hg', c0', c1'⟩ := (hs.below hB).at hlt
      obtain ⟨a, ha⟩ : ∃ a, L[k].1 = a := ⟨_, rfl⟩
      obtain ⟨l, hl⟩ : ∃ l, L[k].2 = l := ⟨_, rfl⟩
      rw [ha] at c0 c0'
      rw [hl] at c1 c1'
      clear ha hl
      go_wp2_with fail
      go_quiet (fail)
      go_wp2
      go_roundw
      case rel => exact ⟨k + 1, hlt, rfl, below_drewN hB _⟩
      case measure => simp [intOf]; omega
    · have : k = L.length := by omega
      subst this
      go_wp2
      go_ret
      exact ⟨rfl, hB⟩

set_option maxRecDepth 100000 in
set_option maxHeartbeats 1000000 in
theorem wnok_any (L : List (Int × Int)) (v : Value) (w : World) (hr : Rd w v L) (hlen : L.length ≤ 1048576) :
    Calls Try.prog 15 #[v] w fun e w' => e = .returned (.bool (okSet L)) ∧ Below w.heap.size w w' := by
  obtain ⟨p, cap, rfl⟩ := hr.form
  go_enter Try.func15, Try.ntmps15
  go_wp2_with fail
  go_loopw [3] (fun i wr => ∃ k : Nat, k ≤ L.length ∧ i = .int .i64 k ∧ Hid (allOk (L.take k) = true) ∧ Below w.heap.size w wr) (fun i _ => L.length - (intOf i).toNat)
  case atStart => exact ⟨0, Nat.zero_le _, rfl, by unfold Hid; simp [allOk], Below.refl _ _⟩
  case round =>
    obtain ⟨k, hk, rfl, hall, hB⟩ := hrel
    by_cases hlt : k < L.length
    · obtain ⟨g, rfl, hg, c0, c1⟩ := (hr.below hB).at hlt
      obtain ⟨a, ha⟩ : ∃ a, L[k].1 = a := ⟨_, rfl⟩
      obtain ⟨l, hl⟩ : ∃ l, L[k].2 = l := ⟨_, rfl⟩
      have HA : Hid (allOk (L.take (k + 1)) = okP a l) := by unfold Hid; rw [allOk_take hlt, hall.out, ha, hl]; rfl
      have HN : Hid (okP a l = false → okSet L = false) := by
        unfold Hid; intro h; unfold okSet; rw [allOk_no hlt (by rw [ha, hl]; exact h)]; simp
      rw [ha] at c0
      rw [hl] at c1
      clear ha hl
      cases hok : okP a l with
      | true =>
        rw [hok] at HA
        go_wp2_with (go_at_call 16; refine (ok_any _ _ _).mono ?_; rintro e w1 ⟨rfl, hb⟩)
        go_roundw
        case rel => exact ⟨k + 1, hlt, rfl, HA, below_then hB hb⟩
        case measure => simp [intOf]; omega
      | false =>
        have HE : Hid (okSet L = false) := HN.out hok
        go_wp2_with (go_at_call 16; refine (ok_any _ _ _).mono ?_; rintro e w1 ⟨rfl, hb⟩)
        go_ret
        exact ⟨ret_bool HE.out.symm, below_then hB hb⟩
    · have : k = L.length := by omega
      subst this
      have HE : Hid (okSet L = decide ((L.length : Int) ≤ 40)) := by
        unfold Hid okSet; have := hall.out; rw [List.take_length] at this; rw [this, Bool.and_true]
        exact decide_eq_decide.mpr (by omega)
      go_wp2_with fail
      go_ret
      exact ⟨ret_bool (by first | exact HE.out.symm | (rw [HE.out]; exact decide_eq_decide.mpr (by omega))), hB⟩

theorem anyHas_take {L : List (Int × Int)} {k : Nat} (h : k < L.length) (x : Int) : anyHas (L.take (k + 1)) x = (anyHas (L.take k) x || hasP L[k].1 L[k].2 x) := by
  unfold anyHas; rw [List.take_succ_eq_append_getElem h, List.any_append]; simp
theorem anyHas_yes {L : List (Int × Int)} {k : Nat} (h : k < L.length) {x : Int} (hk : hasP L[k].1 L[k].2 x = true) : anyHas L x = true := by
  unfold anyHas; rw [List.any_eq_true]; exact ⟨_, List.getElem_mem h, hk⟩

set_option maxRecDepth 100000 in
set_option maxHeartbeats 1000000 in
theorem wnhas_any (L : List (Int × Int)) (v : Value) (x : Int) (w : World) (hr : Rd w v L) (hL : allOk L = true) (hlen : L.length ≤ 1048576) :
    Calls Try.prog 17 #[v, .int .i64 x] w fun e w' => e = .returned (.bool (anyHas L x)) ∧ Below w.heap.size w w' := by
  obtain ⟨p, cap, rfl⟩ := hr.form
  go_enter Try.func17, Try.ntmps17
  go_wp2_with fail
  go_loopw [5] (fun i wr => ∃ k : Nat, k ≤ L.length ∧ i = .int .i64 k ∧ Hid (anyHas (L.take k) x = false) ∧ Below w.heap.size w wr) (fun i _ => L.length - (intOf i).toNat)
  case atStart => exact ⟨0, Nat.zero_le _, rfl, by unfold Hid; simp [anyHas], Below.refl _ _⟩
  case round =>
    obtain ⟨k, hk, rfl, hall, hB⟩ := hrel
    by_cases hlt : k < L.length
    · obtain ⟨g, rfl, hg, c0, c1⟩ := (hr.below hB).at hlt
      have hok := allOk_of hL (List.getElem_mem hlt)
      obtain ⟨a, ha⟩ : ∃ a, L[k].1 = a := ⟨_, rfl⟩
      obtain ⟨l, hl⟩ : ∃ l, L[k].2 = l := ⟨_, rfl⟩
      have HN : Hid (hasP a l x = false → anyHas (L.take (k + 1)) x = false) := by unfold Hid; intro h; rw [anyHas_take hlt, hall.out, ha, hl, h]; rfl
      have HY : Hid (hasP a l x = true → anyHas L x = true) := by
        unfold Hid; intro h; exact anyHas_yes hlt (by rw [ha, hl]; exact h)
      rw [ha, hl] at hok
      rw [ha] at c0
      rw [hl] at c1
      clear ha hl
      have hn := fun w => nethas_any a l x w
      have e : netHas a l x = hasP a l x := by unfold netHas; rw [hok]; rfl
      rw [e] at hn
      clear e
      cases hh : hasP a l x with
      | false =>
        have HN : Hid (anyHas (L.take (k + 1)) x = false) := HN.out hh
        rw [hh] at hn
        go_wp2_with (go_at_call 24; refine (hn _).mono ?_; rintro e w1 ⟨rfl, hb⟩)
        go_roundw
        case rel => exact ⟨k + 1, hlt, rfl, HN, below_then hB hb⟩
        case measure => simp [intOf]; omega
      | true =>
        have HE : Hid (anyHas L x = true) := HY.out hh
        rw [hh] at hn
        go_wp2_with (go_at_call 24; refine (hn _).mono ?_; rintro e w1 ⟨rfl, hb⟩)
        go_ret
        exact ⟨ret_bool HE.out.symm, below_then hB hb⟩
    · have : k = L.length := by omega
      subst this
      have HE : Hid (anyHas L x = false) := by unfold Hid; have := hall.out; rw [List.take_length] at this; exact this
      go_wp2
      go_ret
      exact ⟨ret_bool HE.out.symm, hB⟩
end Go.Proofs.Ytaoahghfmlegbaa
