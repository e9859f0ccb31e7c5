/- AclOk, the model's and the program's; which packets are ok; which rule is about a packet. -/
import Derived.Test.YtaoahghfmlegbaaRu
namespace Go.Proofs.Ytaoahghfmlegbaa
open Go.RowKit Go.Lib

theorem okRs_long {L : List Ru} (h : ¬ L.length ≤ 12) : okRs L = false := by unfold okRs; rw [decide_eq_false h]; rfl
theorem okRs_bad {L : List Ru} {i : Nat} (hi : i < L.length) (h : okR L[i] = false) : okRs L = false := by
  rw [Bool.eq_false_iff]
  intro hh
  have := (okRs_of hh).2 _ (List.getElem_mem hi)
  rw [h] at this
  exact absurd this (by decide)
theorem okRs_all {L : List Ru} (h : L.length ≤ 12) (ha : ∀ j (hj : j < L.length), okR L[j] = true) : okRs L = true := by
  unfold okRs
  rw [decide_eq_true h, Bool.true_and, List.all_eq_true]
  intro r hr
  obtain ⟨j, hj, rfl⟩ := List.getElem_of_mem hr
  exact ha j hj
/-- a rule's parts named -/
theorem ru_parts (r : Ru) : ∃ p a l b m k, r = (p, (a, l), (b, m), k) := ⟨_, _, _, _, _, _, rfl⟩

set_option maxRecDepth 100000 in
set_option maxHeartbeats 1000000 in
theorem iaclok_any (L : List Ru) (v : Value) (w : World) (hr : RdR w v L) (hlen : L.length ≤ 1048576) :
    Calls Try.prog 56 #[v] w fun e w' => e = .returned (.bool (okRs L)) ∧ Below w.heap.size w w' := by
  obtain ⟨p, cap, rfl⟩ := hr.form
  by_cases h12 : L.length ≤ 12
  · go_enter Try.func56, Try.ntmps56
    go_wp2_with fail
    go_loopw [10] (fun i wr => ∃ k : Nat, k ≤ L.length ∧ i = .int .i64 k ∧ Hid (∀ j (hj : j < L.length), j < k → okR L[j] = true) ∧ Below w.heap.size w wr) (fun i _ => L.length - (intOf i).toNat)
    case atStart => exact ⟨0, Nat.zero_le _, rfl, fun j _ hj => absurd hj (Nat.not_lt_zero _), Below.refl _ _⟩
    case round =>
      obtain ⟨k, hk, rfl, hall, hB⟩ := hrel
      by_cases hlt : k < L.length
      · obtain ⟨g, rfl, hcap, hg, c0, c1, c2, c3, c4, c5⟩ := (hr.below hB).at hlt
        obtain ⟨q, a, l, b, m, kk, hru⟩ := ru_parts L[k]
        rw [hru] at c0 c1 c2 c3 c4 c5
        cases hok : okR L[k] with
        | false =>
          have HE : Hid (okRs L = false) := okRs_bad hlt hok
          have hcall := fun w => iruok_any q a l b m kk w
          rw [← hru, hok, hru] at hcall
          clear hru hok
          go_wp2_with (go_at_call 78; refine (hcall _).mono ?_; rintro e w1 ⟨rfl, hb⟩)
          go_ret
          exact ⟨ret_bool HE.out.symm, below_then (hB.more _) hb⟩
        | true =>
          have HE : Hid (∀ j (hj : j < L.length), j < k + 1 → okR L[j] = true) := fun j hj hjk => by
            by_cases e : j = k
            · subst e; exact hok
            · exact hall.out j hj (by omega)
          have hcall := fun w => iruok_any q a l b m kk w
          rw [← hru, hok, hru] at hcall
          clear hru hok
          go_wp2_with (go_at_call 78; refine (hcall _).mono ?_; rintro e w1 ⟨rfl, hb⟩)
          go_roundw
          case rel => exact ⟨k + 1, hlt, rfl, HE, below_then (hB.more _) hb⟩
          case measure => simp [intOf]; omega
      · have : k = L.length := by omega
        subst this
        have HE : Hid (okRs L = true) := okRs_all h12 fun j hj => hall.out j hj hj
        go_wp2
        go_ret
        exact ⟨ret_bool HE.out.symm, hB⟩
  · have HE : Hid (okRs L = false) := okRs_long h12
    have hd : (L.length : Int) > 12 := by omega
    go_enter Try.func56, Try.ntmps56
    go_wp2
    go_ret
    exact ⟨ret_bool HE.out.symm, Below.refl _ _⟩
end Go.Proofs.Ytaoahghfmlegbaa
