/- The model's AclOk; which packets are ok; which rule is about a packet. -/
import Derived.Test.YtaoahghfmlegbacRu2
namespace Go.Proofs.Ytaoahghfmlegbac
open Go.RowKit Go.Lib

set_option maxRecDepth 100000 in
set_option maxHeartbeats 1000000 in
theorem aclok_any (L : List Ru) (v : Value) (w : World) (hr : RdR w v L) (hlen : L.length ≤ 1048576) :
    Calls Try.prog 10 #[v] w fun e w' => e = .returned (.bool (okRs L)) ∧ Below w.heap.size w w' := by
  obtain ⟨p, cap, rfl⟩ := hr.form
  by_cases h12 : L.length ≤ 12
  · go_enter Try.func10, Try.ntmps10
    go_wp2_with fail
    go_loopw [3] (fun i wr => ∃ k : Nat, k ≤ L.length ∧ i = .int .i64 k ∧ Hid (∀ j (hj : j < L.length), j < k → okR L[j] = true) ∧ Below w.heap.size w wr) (fun i _ => L.length - (intOf i).toNat)
    case atStart => exact ⟨0, Nat.zero_le _, rfl, fun j _ hj => absurd hj (Nat.not_lt_zero _), Below.refl _ _⟩
    case round =>
      obtain ⟨k, hk, rfl, hall, hB⟩ := hrel
      by_cases hlt : k < L.length
      · obtain ⟨g, rfl, hcap, hg, c0, c1, c2, c3, c4, c5⟩ := (hr.below hB).at hlt
        obtain ⟨q, a, l, b, m, kk, hru⟩ := ru_parts L[k]
        rw [hru] at c0 c1 c2 c3 c4 c5
        have HO : Hid (okR L[k] = (okP a l && (okP b m && inB kk 0 7))) := by rw [hru]; rfl
        have HN : Hid (okR L[k] = false → okRs L = false) := okRs_bad hlt
        have HY : Hid (okR L[k] = true → ∀ j (hj : j < L.length), j < k + 1 → okR L[j] = true) := fun hok j hj hjk => by
          by_cases e : j = k
          · subst e; exact hok
          · exact hall.out j hj (by omega)
        clear hru
        have HB : Below w.heap.size w wr := hB
        cases h1 : okP a l with
        | false =>
          have HE : Hid (okRs L = false) := HN.out (by rw [HO.out, h1]; rfl)
          go_wp2_with (go_at_call 19; refine (ok_any _ _ _).mono ?_; rintro e w1 ⟨rfl, hb⟩; obtain ⟨hc, hf⟩ := bcell hb; replace HB := below_then HB hb)
          go_ret
          exact ⟨ret_bool HE.out.symm, HB⟩
        | true =>
          cases h2 : okP b m with
          | false =>
            have HE : Hid (okRs L = false) := HN.out (by rw [HO.out, h1, h2]; rfl)
            go_wp2_with (go_at_call 19; refine (ok_any _ _ _).mono ?_; rintro e w1 ⟨rfl, hb⟩; obtain ⟨hc, hf⟩ := bcell hb; replace HB := below_then HB hb)
            go_ret
            exact ⟨ret_bool HE.out.symm, HB⟩
          | true =>
            cases h3 : inB kk 0 7 with
            | false =>
              have HE : Hid (okRs L = false) := HN.out (by rw [HO.out, h1, h2, h3]; rfl)
              go_wp2_with (first | (go_at_call 19; refine (ok_any _ _ _).mono ?_; rintro e w1 ⟨rfl, hb⟩; obtain ⟨hc, hf⟩ := bcell hb; (first | have hg1 := Nat.lt_of_lt_of_le hg hb.size | skip); replace HB := below_then HB hb) | (go_at_call 20; refine (in_any _ _ _ _).mono ?_; rintro e w2 ⟨rfl, hw⟩; obtain rfl := hw.symm))
              go_ret
              exact ⟨ret_bool HE.out.symm, HB⟩
            | true =>
              have HE : Hid (∀ j (hj : j < L.length), j < k + 1 → okR L[j] = true) := HY.out (by rw [HO.out, h1, h2, h3]; rfl)
              go_wp2_with (first | (go_at_call 19; refine (ok_any _ _ _).mono ?_; rintro e w1 ⟨rfl, hb⟩; obtain ⟨hc, hf⟩ := bcell hb; (first | have hg1 := Nat.lt_of_lt_of_le hg hb.size | skip); replace HB := below_then HB hb) | (go_at_call 20; refine (in_any _ _ _ _).mono ?_; rintro e w2 ⟨rfl, hw⟩; obtain rfl := hw.symm))
              go_roundw
              case rel => exact ⟨k + 1, hlt, rfl, HE, HB⟩
              case measure => simp [intOf]; omega
      · have : k = L.length := by omega
        subst this
        have HE : Hid (okRs L = true) := okRs_all h12 fun j hj => hall.out j hj hj
        go_wp2
        go_ret
        exact ⟨ret_bool HE.out.symm, hB⟩
  · have HE : Hid (okRs L = false) := okRs_long h12
    have hd : (L.length : Int) > 12 := by omega
    go_enter Try.func10, Try.ntmps10
    go_wp2
    go_ret
    exact ⟨ret_bool HE.out.symm, Below.refl _ _⟩

end Go.Proofs.Ytaoahghfmlegbac
