/- The contracts of the model's layer 1: sizes, which prefixes are ok, what they have. -/
import Derived.Test.YtaoahghfmlegbabBase
import Derived.WalkKit
import Derived.ProofKit
import Derived.WalkSpells
import Derived.WalkLawsBesides
import Derived.WalkSmall
import Derived.Deep.RegionWith
import Derived.Deep.QuietTactic
import Derived.BigQuiet
import Derived.Laws.ResultCell
namespace Go.Proofs.Ytaoahghfmlegbab
open Go.RowKit Go.Lib

/-- how many addresses a prefix of the length l has -/
def sz (l : Int) : Int := 2 ^ (16 - l).toNat
theorem sz_bd (l : Int) (h : 0 ≤ l) : 1 ≤ sz l ∧ sz l ≤ 65536 := by
  unfold sz
  obtain ⟨k, hk⟩ : ∃ k, k = (16 - l).toNat := ⟨_, rfl⟩
  rw [← hk]
  have h1 : k ≤ 16 := by omega
  have h2 : (2 : Nat) ^ k ≤ 65536 := Nat.pow_le_pow_right (n := 2) (by decide) h1
  have h3 : 1 ≤ (2 : Nat) ^ k := Nat.one_le_pow _ _ (by decide)
  have e : (2 : Int) ^ k = ((2 ^ k : Nat) : Int) := (Int.natCast_pow 2 k).symm
  rw [e]
  omega
theorem sz_step (l : Int) (h : l < 16) : sz l = sz (l + 1) * 2 := by
  unfold sz
  have e : (16 - l).toNat = (16 - (l + 1)).toNat + 1 := by omega
  rw [e, Int.pow_succ]
theorem sz_end (l : Int) (h : 16 ≤ l) : sz l = 1 := by
  unfold sz
  have e : (16 - l).toNat = 0 := by omega
  rw [e]; rfl

set_option maxRecDepth 100000 in
set_option maxHeartbeats 400000 in
theorem size_any (l : Int) (w : World) (h0 : 0 ≤ l) (h1 : l ≤ 17) :
    Calls Try.prog 57 #[.int .i64 l] w fun e w' => e = .returned (.int .i64 (sz l)) ∧ w' = w := by
  have HL := sz_bd l h0
  go_enter Try.func57, Try.ntmps57
  go_wp2
  go_loop [3, 4] (fun n i => ∃ (k m : Int), l ≤ k ∧ (k ≤ 16 ∨ k = l) ∧ i = .int .i64 k ∧ n = .int .i64 m ∧ 1 ≤ m ∧ Hid (m * sz k = sz l)) (fun _ i => (16 - intOf i).toNat)
  case atStart => exact ⟨l, 1, by omega, .inr rfl, rfl, rfl, by omega, by unfold Hid; omega⟩
  case round =>
    obtain ⟨k, m, hk1, hk2, rfl, rfl, hm, hz⟩ := hrel
    by_cases hk : k < 16
    · have hb := sz_bd k (by omega)
      have hmb : m ≤ 65536 := by
        have e := hz.out
        have p : m * 1 ≤ m * sz k := Int.mul_le_mul_of_nonneg_left hb.1 (by omega)
        omega
      have HZ : Hid (m * 2 * sz (k + 1) = sz l) := by
        unfold Hid
        have e := hz.out
        rw [sz_step k hk] at e
        rw [← e, Int.mul_assoc, Int.mul_comm 2]
      clear hb
      go_wp2
      go_round
      case rel => exact ⟨k + 1, m * 2, by omega, .inl (by omega), rfl, rfl, by omega, HZ⟩
      case measure => simp [intOf]; omega
    · have HE : Hid (m = sz l) := by
        unfold Hid
        have e := hz.out
        rw [sz_end k (by omega)] at e
        omega
      clear HL
      go_wp2
      go_ret
      exact ⟨ret_int HE.out, rfl⟩

/-- which prefixes are ok -/
def okP (a l : Int) : Bool := decide (0 ≤ l ∧ l ≤ 16 ∧ 0 ≤ a ∧ a ≤ 65535 ∧ a % sz l = 0)

set_option maxRecDepth 100000 in
set_option maxHeartbeats 1000000 in
theorem ok_any (a l : Int) (w : World) :
    Calls Try.prog 36 #[.agg #[.int .i64 a, .int .i64 l]] w fun e w' => e = .returned (.bool (okP a l)) ∧ Below w.heap.size w w' := by
  by_cases hl : 0 ≤ l ∧ l ≤ 16
  · by_cases ha : 0 ≤ a ∧ a ≤ 65535
    · have i1 := inB_yes hl
      have i2 := inB_yes ha
      obtain ⟨l1, l2⟩ := hl
      obtain ⟨a1, a2⟩ := ha
      obtain ⟨z, hz⟩ : ∃ z, z = sz l := ⟨_, rfl⟩
      have hb := sz_bd l l1
      rw [← hz] at hb
      obtain ⟨b1, b2⟩ := hb
      have hz0 : (z == 0) = false := by rw [beq_eq_false_iff_ne]; omega
      have hz1 : ¬ z = 0 := by omega
      have HO : Hid (okP a l = decide (a % z = 0)) := by
        unfold Hid okP; rw [hz]; simp [l1, l2, a1, a2]
      have hs := fun w => size_any l w l1 (by omega)
      rw [← hz] at hs
      clear hz
      go_enter Try.func36, Try.ntmps36
      go_wp2_with fail
      go_quiet ((first | (go_at_call 47; exact Calls.quiet_of_same (in_any _ _ _ _)) | (go_at_call 57; exact Calls.quiet_of_same (hs _))))
      go_wp2
      go_ret
      refine ⟨ret_bool ?_, below_drewN ((Below.refl _ _).alloc (Nat.le_refl _) _) _⟩
      rw [HO.out, Int.tmod_eq_emod_of_nonneg a1]
      rfl
    · have i1 := inB_yes hl
      have i2 := inB_no ha
      have HO : Hid (okP a l = false) := by
        unfold Hid okP
        exact decide_eq_false (by omega)
      clear hl ha
      go_enter Try.func36, Try.ntmps36
      go_wp2_with fail
      go_quiet ((first | (go_at_call 47; exact Calls.quiet_of_same (in_any _ _ _ _))))
      go_wp2
      go_ret
      exact ⟨ret_bool HO.out.symm, below_drewN ((Below.refl _ _).alloc (Nat.le_refl _) _) _⟩
  · have i1 := inB_no hl
    have HO : Hid (okP a l = false) := by
      unfold Hid okP
      exact decide_eq_false (by omega)
    clear hl
    go_enter Try.func36, Try.ntmps36
    go_wp2_with fail
    go_quiet ((first | (go_at_call 47; exact Calls.quiet_of_same (in_any _ _ _ _))))
    go_wp2
    go_ret
    exact ⟨ret_bool HO.out.symm, below_drewN ((Below.refl _ _).alloc (Nat.le_refl _) _) _⟩
end Go.Proofs.Ytaoahghfmlegbab
