/- The model's AclOk; which packets are ok; which rule is about a packet. -/
import Derived.Test.YtaoahghfmlegbaaRu2
namespace Go.Proofs.Ytaoahghfmlegbaa
open Go.RowKit Go.Lib

set_option maxRecDepth 100000 in
set_option maxHeartbeats 1000000 in
theorem aclok_any (L : List Ru) (v : Value) (w : World) (hr : RdR w v L) (hlen : L.length ≤ 1048576) :
    Calls Try.prog 34 #[v] w fun e w' => e = .returned (.bool (okRs L)) ∧ Below w.heap.size w w' := by
  obtain ⟨p, cap, rfl⟩ := hr.form
  by_cases h12 : L.length ≤ 12
  · go_enter Try.func34, Try.ntmps34
    go_wp2_with fail
    go_loopw [3] (fun i wr => ∃ k : Nat, k ≤ L.length ∧ i = .int .i64 k ∧ Hid (∀ j (hj : j < L.length), j < k → okR L[j] = true) ∧ Below w.heap.size w wr) (fun i _ => L.length - (intOf i).toNat)
    case atStart => exact ⟨0, Nat.zero_le _, rfl, fun j _ hj => absurd hj (Nat.not_lt_zero _), Below.refl _ _⟩
    case round =>
      obtain ⟨k, hk, rfl, hall, hB⟩ := hrel
      by_cases hlt : k < L.length
      · obtain ⟨g, rfl, hcap, hg, c0, c1, c2, c3, c4, c5⟩ := (hr.below hB).at hlt
        obtain ⟨q, a, l, b, m, kk, hru⟩ := ru_parts L[k]
        rw [hru] at c0 c1 c2 c3 c4 c5
        have HO : Hid (okR L[k] = (okP a l && (okP b m && inB kk 0 7))) := by rw [hru]; rfl
        have HN : Hid (okR L[k] = false → okRs L = false) := okRs_bad hlt
        have HY : Hid (okR L[k] = true → ∀ j (hj : j < L.length), j < k + 1 → okR L[j] = true) := fun hok j hj hjk => by
          by_cases e : j = k
          · subst e; exact hok
          · exact hall.out j hj (by omega)
        clear hru
        have HB : Below w.heap.size w wr := hB
        cases h1 : okP a l with
        | false =>
          have HE : Hid (okRs L = false) := HN.out (by rw [HO.out, h1]; rfl)
          go_wp2_with (go_at_call 16; refine (ok_any _ _ _).mono ?_; rintro e w1 ⟨rfl, hb⟩; obtain ⟨hc, hf⟩ := bcell hb; replace HB := below_then HB hb)
          go_ret
          exact ⟨ret_bool HE.out.symm, HB⟩
        | true =>
          cases h2 : okP b m with
          | false =>
            have HE : Hid (okRs L = false) := HN.out (by rw [HO.out, h1, h2]; rfl)
            go_wp2_with (go_at_call 16; refine (ok_any _ _ _).mono ?_; rintro e w1 ⟨rfl, hb⟩; obtain ⟨hc, hf⟩ := bcell hb; replace HB := below_then HB hb)
            go_ret
            exact ⟨ret_bool HE.out.symm, HB⟩
          | true =>
            cases h3 : inB kk 0 7 with
            | false =>
              have HE : Hid (okRs L = false) := HN.out (by rw [HO.out, h1, h2, h3]; rfl)
              go_wp2_with (first | (go_at_call 16; refine (ok_any _ _ _).mono ?_; rintro e w1 ⟨rfl, hb⟩; obtain ⟨hc, hf⟩ := bcell hb; (first | have hg1 := Nat.lt_of_lt_of_le hg hb.size | skip); replace HB := below_then HB hb) | (go_at_call 48; refine (in_any _ _ _ _).mono ?_; rintro e w2 ⟨rfl, hw⟩; obtain rfl := hw.symm))
              go_ret
              exact ⟨ret_bool HE.out.symm, HB⟩
            | true =>
              have HE : Hid (∀ j (hj : j < L.length), j < k + 1 → okR L[j] = true) := HY.out (by rw [HO.out, h1, h2, h3]; rfl)
              go_wp2_with (first | (go_at_call 16; refine (ok_any _ _ _).mono ?_; rintro e w1 ⟨rfl, hb⟩; obtain ⟨hc, hf⟩ := bcell hb; (first | have hg1 := Nat.lt_of_lt_of_le hg hb.size | skip); replace HB := below_then HB hb) | (go_at_call 48; refine (in_any _ _ _ _).mono ?_; rintro e w2 ⟨rfl, hw⟩; obtain rfl := hw.symm))
              go_roundw
              case rel => exact ⟨k + 1, hlt, rfl, HE, HB⟩
              case measure => simp [intOf]; omega
      · have : k = L.length := by omega
        subst this
        have HE : Hid (okRs L = true) := okRs_all h12 fun j hj => hall.out j hj hj
        go_wp2
        go_ret
        exact ⟨ret_bool HE.out.symm, hB⟩
  · have HE : Hid (okRs L = false) := okRs_long h12
    have hd : (L.length : Int) > 12 := by omega
    go_enter Try.func34, Try.ntmps34
    go_wp2
    go_ret
    exact ⟨ret_bool HE.out.symm, Below.refl _ _⟩

set_option maxRecDepth 100000 in
set_option maxHeartbeats 1000000 in
theorem pkok_any (f t k : Int) (w : World) :
    Calls Try.prog 59 #[pkV (f, t, k)] w fun e w' => e = .returned (.bool (okK (f, t, k))) ∧ Below w.heap.size w w' := by
  have HO : Hid (okK (f, t, k) = (inB f 0 65535 && (inB t 0 65535 && inB k 1 7))) := rfl
  cases h1 : inB f 0 65535 with
  | false =>
    rw [h1] at HO
    go_enter Try.func59, Try.ntmps59
    go_wp2_with (go_at_call 48; refine (in_any _ _ _ _).mono ?_; rintro e w2 ⟨rfl, hw⟩; obtain rfl := hw.symm)
    go_ret
    exact ⟨ret_bool HO.out.symm, (Below.refl _ _).more _⟩
  | true =>
    rw [h1] at HO
    cases h2 : inB t 0 65535 with
    | false =>
      rw [h2] at HO
      go_enter Try.func59, Try.ntmps59
      go_wp2_with (go_at_call 48; refine (in_any _ _ _ _).mono ?_; rintro e w2 ⟨rfl, hw⟩; obtain rfl := hw.symm)
      go_ret
      exact ⟨ret_bool HO.out.symm, (Below.refl _ _).more _⟩
    | true =>
      rw [h2] at HO
      go_enter Try.func59, Try.ntmps59
      go_wp2_with (go_at_call 48; refine (in_any _ _ _ _).mono ?_; rintro e w2 ⟨rfl, hw⟩; obtain rfl := hw.symm)
      go_ret
      exact ⟨ret_bool HO.out.symm, (Below.refl _ _).more _⟩

set_option maxRecDepth 100000 in
set_option maxHeartbeats 1000000 in
theorem ipkok_any (f t k : Int) (w : World) :
    Calls Try.prog 57 #[pkV (f, t, k)] w fun e w' => e = .returned (.bool (okK (f, t, k))) ∧ Below w.heap.size w w' := by
  have HO : Hid (okK (f, t, k) = (inB f 0 65535 && (inB t 0 65535 && inB k 1 7))) := rfl
  cases h1 : inB f 0 65535 with
  | false =>
    rw [h1] at HO
    go_enter Try.func57, Try.ntmps57
    go_wp2_with (go_at_call 74; refine (iaddr_any _ _).mono ?_; rintro e w2 ⟨rfl, hw⟩; obtain rfl := hw.symm)
    go_ret
    exact ⟨ret_bool HO.out.symm, (Below.refl _ _).more _⟩
  | true =>
    rw [h1] at HO
    cases h2 : inB t 0 65535 with
    | false =>
      rw [h2] at HO
      go_enter Try.func57, Try.ntmps57
      go_wp2_with (go_at_call 74; refine (iaddr_any _ _).mono ?_; rintro e w2 ⟨rfl, hw⟩; obtain rfl := hw.symm)
      go_ret
      exact ⟨ret_bool HO.out.symm, (Below.refl _ _).more _⟩
    | true =>
      rw [h2] at HO
      by_cases k1 : 1 ≤ k
      · by_cases k2 : k ≤ 7
        · have HO2 : Hid (okK (f, t, k) = true) := HO.out.trans (by rw [inB_yes ⟨k1, k2⟩]; rfl)
          go_enter Try.func57, Try.ntmps57
          go_wp2_with (go_at_call 74; refine (iaddr_any _ _).mono ?_; rintro e w2 ⟨rfl, hw⟩; obtain rfl := hw.symm)
          go_ret
          exact ⟨ret_bool HO2.out.symm, (Below.refl _ _).more _⟩
        · have HO2 : Hid (okK (f, t, k) = false) := HO.out.trans (by rw [inB_no (by omega)]; rfl)
          have hd : decide (k ≤ 7) = false := decide_eq_false k2
          go_enter Try.func57, Try.ntmps57
          go_wp2_with (go_at_call 74; refine (iaddr_any _ _).mono ?_; rintro e w2 ⟨rfl, hw⟩; obtain rfl := hw.symm)
          go_ret
          exact ⟨ret_bool HO2.out.symm, (Below.refl _ _).more _⟩
      · have HO2 : Hid (okK (f, t, k) = false) := HO.out.trans (by rw [inB_no (by omega)]; rfl)
        have hd : decide (k ≥ 1) = false := decide_eq_false k1
        go_enter Try.func57, Try.ntmps57
        go_wp2_with (go_at_call 74; refine (iaddr_any _ _).mono ?_; rintro e w2 ⟨rfl, hw⟩; obtain rfl := hw.symm)
        go_ret
        exact ⟨ret_bool HO2.out.symm, (Below.refl _ _).more _⟩
end Go.Proofs.Ytaoahghfmlegbaa
