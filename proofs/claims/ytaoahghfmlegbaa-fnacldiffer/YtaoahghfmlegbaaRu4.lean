/- Which rule is about a packet: the model's l4Fits, the program's about. -/
import Derived.Test.YtaoahghfmlegbaaRu3
namespace Go.Proofs.Ytaoahghfmlegbaa
open Go.RowKit Go.Lib

theorem new_lt2 {w w1 : World} {o o2 : Obj} (hb : Below ((w.alloc o).alloc o2).heap.size ((w.alloc o).alloc o2) w1) : w.heap.size < w1.heap.size ∧ w.heap.size + 1 < w1.heap.size := by
  have := hb.size
  simp at this
  omega
theorem beq_dec (a b : Int) : (a == b) = decide (a = b) := by by_cases h : a = b <;> simp [h]
set_option maxRecDepth 100000 in
set_option maxHeartbeats 1000000 in
theorem fits_any (p : Bool) (a l b m k f t n : Int) (w : World) (o1 : okP a l = true) (o2 : okP b m = true) :
    Calls Try.prog 82 #[ruV (p, (a, l), (b, m), k), pkV (f, t, n)] w fun e w' => e = .returned (.bool (fits (p, (a, l), (b, m), k) (f, t, n))) ∧ Below w.heap.size w w' := by
  have P1 : Hid (0 ≤ l ∧ l ≤ 16 ∧ 0 ≤ a ∧ a ≤ 65535 ∧ a % sz l = 0) := okP_of o1
  have P2 : Hid (0 ≤ m ∧ m ≤ 16 ∧ 0 ≤ b ∧ b ≤ 65535 ∧ b % sz m = 0) := okP_of o2
  clear o1 o2
  have HB : Below w.heap.size w w := Below.refl _ _
  cases h1 : hasP a l f with
  | false =>
    have HE : Hid (fits (p, (a, l), (b, m), k) (f, t, n) = false) := by
      unfold Hid fits; simp only; rw [h1]; rfl
    go_enter Try.func82, Try.ntmps82
    go_wp2_with (go_at_call 53; refine (has_any _ _ _ _ (by first | exact P1.out.1 | exact P2.out.1) (by first | exact P1.out.2.1 | exact P2.out.2.1) (by first | exact P1.out.2.2.1 | exact P2.out.2.2.1) (by first | exact P1.out.2.2.2.1 | exact P2.out.2.2.2.1)).mono ?_; rintro e w1 ⟨rfl, hb⟩; obtain ⟨hc, hf⟩ := bcell hb; (first | (replace HB := below_then ((HB.more _).more _) hb; obtain ⟨hs1, hs2⟩ := new_lt2 hb) | replace HB := below_then HB hb))
    go_ret
    exact ⟨ret_bool HE.out.symm, HB⟩
  | true =>
    cases h2 : hasP b m t with
    | false =>
      have HE : Hid (fits (p, (a, l), (b, m), k) (f, t, n) = false) := by
        unfold Hid fits; simp only; rw [h1, h2]; rfl
      go_enter Try.func82, Try.ntmps82
      go_wp2_with (go_at_call 53; refine (has_any _ _ _ _ (by first | exact P1.out.1 | exact P2.out.1) (by first | exact P1.out.2.1 | exact P2.out.2.1) (by first | exact P1.out.2.2.1 | exact P2.out.2.2.1) (by first | exact P1.out.2.2.2.1 | exact P2.out.2.2.2.1)).mono ?_; rintro e w1 ⟨rfl, hb⟩; obtain ⟨hc, hf⟩ := bcell hb; (first | (replace HB := below_then ((HB.more _).more _) hb; obtain ⟨hs1, hs2⟩ := new_lt2 hb) | replace HB := below_then HB hb))
      go_ret
      exact ⟨ret_bool HE.out.symm, HB⟩
    | true =>
      by_cases k0 : k = 0
      · subst k0
        have HE : Hid (fits (p, (a, l), (b, m), 0) (f, t, n) = true) := by
          unfold Hid fits; simp only; rw [h1, h2]; simp
        go_enter Try.func82, Try.ntmps82
        go_wp2_with (go_at_call 53; refine (has_any _ _ _ _ (by first | exact P1.out.1 | exact P2.out.1) (by first | exact P1.out.2.1 | exact P2.out.2.1) (by first | exact P1.out.2.2.1 | exact P2.out.2.2.1) (by first | exact P1.out.2.2.2.1 | exact P2.out.2.2.2.1)).mono ?_; rintro e w1 ⟨rfl, hb⟩; obtain ⟨hc, hf⟩ := bcell hb; (first | (replace HB := below_then ((HB.more _).more _) hb; obtain ⟨hs1, hs2⟩ := new_lt2 hb) | replace HB := below_then HB hb))
        go_ret
        exact ⟨ret_bool HE.out.symm, HB⟩
      · have hk0 : (k == 0) = false := by rw [beq_dec]; exact decide_eq_false k0
        by_cases kn : k = n
        · subst kn
          have HE : Hid (fits (p, (a, l), (b, m), k) (f, t, k) = true) := by
            unfold Hid fits; simp only; rw [h1, h2]; simp
          go_enter Try.func82, Try.ntmps82
          go_wp2_with (go_at_call 53; refine (has_any _ _ _ _ (by first | exact P1.out.1 | exact P2.out.1) (by first | exact P1.out.2.1 | exact P2.out.2.1) (by first | exact P1.out.2.2.1 | exact P2.out.2.2.1) (by first | exact P1.out.2.2.2.1 | exact P2.out.2.2.2.1)).mono ?_; rintro e w1 ⟨rfl, hb⟩; obtain ⟨hc, hf⟩ := bcell hb; (first | (replace HB := below_then ((HB.more _).more _) hb; obtain ⟨hs1, hs2⟩ := new_lt2 hb) | replace HB := below_then HB hb))
          go_ret
          exact ⟨ret_bool HE.out.symm, HB⟩
        · have hkn : (k == n) = false := by rw [beq_dec]; exact decide_eq_false kn
          have HE : Hid (fits (p, (a, l), (b, m), k) (f, t, n) = false) := by
            unfold Hid fits; simp only; rw [h1, h2]; simp [k0, kn]
          go_enter Try.func82, Try.ntmps82
          go_wp2_with (go_at_call 53; refine (has_any _ _ _ _ (by first | exact P1.out.1 | exact P2.out.1) (by first | exact P1.out.2.1 | exact P2.out.2.1) (by first | exact P1.out.2.2.1 | exact P2.out.2.2.1) (by first | exact P1.out.2.2.2.1 | exact P2.out.2.2.2.1)).mono ?_; rintro e w1 ⟨rfl, hb⟩; obtain ⟨hc, hf⟩ := bcell hb; (first | (replace HB := below_then ((HB.more _).more _) hb; obtain ⟨hs1, hs2⟩ := new_lt2 hb) | replace HB := below_then HB hb))
          go_ret
          exact ⟨ret_bool HE.out.symm, HB⟩

set_option maxRecDepth 100000 in
set_option maxHeartbeats 1000000 in
theorem about_any (p : Bool) (a l b m k f t n : Int) (w : World) (o1 : okP a l = true) (o2 : okP b m = true) (x1 : f ≤ 9223372036854775807) (x2 : t ≤ 9223372036854775807) :
    Calls Try.prog 97 #[ruV (p, (a, l), (b, m), k), pkV (f, t, n)] w fun e w' => e = .returned (.bool (fits (p, (a, l), (b, m), k) (f, t, n))) ∧ Below w.heap.size w w' := by
  have P1 : Hid (0 ≤ l ∧ l ≤ 16 ∧ 0 ≤ a ∧ a ≤ 65535 ∧ a % sz l = 0) := okP_of o1
  have P2 : Hid (0 ≤ m ∧ m ≤ 16 ∧ 0 ≤ b ∧ b ≤ 65535 ∧ b % sz m = 0) := okP_of o2
  have X1 : Hid (f ≤ 9223372036854775807) := x1
  have X2 : Hid (t ≤ 9223372036854775807) := x2
  clear x1 x2
  clear o1 o2
  have HB : Below w.heap.size w w := Below.refl _ _
  cases h1 : hasP a l f with
  | false =>
    have HE : Hid (fits (p, (a, l), (b, m), k) (f, t, n) = false) := by
      unfold Hid fits; simp only; rw [h1]; rfl
    go_enter Try.func97, Try.ntmps97
    go_wp2_with (go_at_call 52; refine (ihas_any _ _ _ _ (by first | exact P1.out.1 | exact P2.out.1) (by first | exact P1.out.2.1 | exact P2.out.2.1) (by first | exact P1.out.2.2.1 | exact P2.out.2.2.1) (by first | exact P1.out.2.2.2.1 | exact P2.out.2.2.2.1) (by first | exact X1.out | exact X2.out)).mono ?_; rintro e w1 ⟨rfl, hb⟩; obtain ⟨hc, hf⟩ := bcell hb; (first | (replace HB := below_then ((HB.more _).more _) hb; obtain ⟨hs1, hs2⟩ := new_lt2 hb) | replace HB := below_then HB hb))
    go_ret
    exact ⟨ret_bool HE.out.symm, HB⟩
  | true =>
    cases h2 : hasP b m t with
    | false =>
      have HE : Hid (fits (p, (a, l), (b, m), k) (f, t, n) = false) := by
        unfold Hid fits; simp only; rw [h1, h2]; rfl
      go_enter Try.func97, Try.ntmps97
      go_wp2_with (go_at_call 52; refine (ihas_any _ _ _ _ (by first | exact P1.out.1 | exact P2.out.1) (by first | exact P1.out.2.1 | exact P2.out.2.1) (by first | exact P1.out.2.2.1 | exact P2.out.2.2.1) (by first | exact P1.out.2.2.2.1 | exact P2.out.2.2.2.1) (by first | exact X1.out | exact X2.out)).mono ?_; rintro e w1 ⟨rfl, hb⟩; obtain ⟨hc, hf⟩ := bcell hb; (first | (replace HB := below_then ((HB.more _).more _) hb; obtain ⟨hs1, hs2⟩ := new_lt2 hb) | replace HB := below_then HB hb))
      go_ret
      exact ⟨ret_bool HE.out.symm, HB⟩
    | true =>
      by_cases k0 : k = 0
      · subst k0
        have HE : Hid (fits (p, (a, l), (b, m), 0) (f, t, n) = true) := by
          unfold Hid fits; simp only; rw [h1, h2]; simp
        go_enter Try.func97, Try.ntmps97
        go_wp2_with (go_at_call 52; refine (ihas_any _ _ _ _ (by first | exact P1.out.1 | exact P2.out.1) (by first | exact P1.out.2.1 | exact P2.out.2.1) (by first | exact P1.out.2.2.1 | exact P2.out.2.2.1) (by first | exact P1.out.2.2.2.1 | exact P2.out.2.2.2.1) (by first | exact X1.out | exact X2.out)).mono ?_; rintro e w1 ⟨rfl, hb⟩; obtain ⟨hc, hf⟩ := bcell hb; (first | (replace HB := below_then ((HB.more _).more _) hb; obtain ⟨hs1, hs2⟩ := new_lt2 hb) | replace HB := below_then HB hb))
        go_ret
        exact ⟨ret_bool HE.out.symm, HB⟩
      · have hk0 : (k == 0) = false := by rw [beq_dec]; exact decide_eq_false k0
        by_cases kn : k = n
        · subst kn
          have HE : Hid (fits (p, (a, l), (b, m), k) (f, t, k) = true) := by
            unfold Hid fits; simp only; rw [h1, h2]; simp
          go_enter Try.func97, Try.ntmps97
          go_wp2_with (go_at_call 52; refine (ihas_any _ _ _ _ (by first | exact P1.out.1 | exact P2.out.1) (by first | exact P1.out.2.1 | exact P2.out.2.1) (by first | exact P1.out.2.2.1 | exact P2.out.2.2.1) (by first | exact P1.out.2.2.2.1 | exact P2.out.2.2.2.1) (by first | exact X1.out | exact X2.out)).mono ?_; rintro e w1 ⟨rfl, hb⟩; obtain ⟨hc, hf⟩ := bcell hb; (first | (replace HB := below_then ((HB.more _).more _) hb; obtain ⟨hs1, hs2⟩ := new_lt2 hb) | replace HB := below_then HB hb))
          go_ret
          exact ⟨ret_bool HE.out.symm, HB⟩
        · have hkn : (k == n) = false := by rw [beq_dec]; exact decide_eq_false kn
          have HE : Hid (fits (p, (a, l), (b, m), k) (f, t, n) = false) := by
            unfold Hid fits; simp only; rw [h1, h2]; simp [k0, kn]
          go_enter Try.func97, Try.ntmps97
          go_wp2_with (go_at_call 52; refine (ihas_any _ _ _ _ (by first | exact P1.out.1 | exact P2.out.1) (by first | exact P1.out.2.1 | exact P2.out.2.1) (by first | exact P1.out.2.2.1 | exact P2.out.2.2.1) (by first | exact P1.out.2.2.2.1 | exact P2.out.2.2.2.1) (by first | exact X1.out | exact X2.out)).mono ?_; rintro e w1 ⟨rfl, hb⟩; obtain ⟨hc, hf⟩ := bcell hb; (first | (replace HB := below_then ((HB.more _).more _) hb; obtain ⟨hs1, hs2⟩ := new_lt2 hb) | replace HB := below_then HB hb))
          go_ret
          exact ⟨ret_bool HE.out.symm, HB⟩
end Go.Proofs.Ytaoahghfmlegbaa
