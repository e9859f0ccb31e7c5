/- The contracts of the program's and the model's number texts: spec.l2Dec of every number that is not negative. -/
import Derived.Test.YtaoahghfmlegbabDoorBase
import Derived.WalkKit
import Derived.ProofKit
import Derived.WalkSpells
import Derived.WalkLawsBesides
import Derived.Deep.RegionWith
import Derived.Lib.ItoaNum
import Derived.Laws.IdiomStrings
import Derived.Laws.BitsAllLaws
namespace Go.Proofs.YtaoahghfmlegbabDoor
open Go.RowKit Go.Lib

/-- a slice of one byte as a string -/
theorem conv1 (b : Nat) (W : World) : (convert 47 9 (.slice (some ⟨b, 0, none⟩) 1 1)).run Tryd.prog W =
    (match W.cell? ⟨b, 0, none⟩ with
      | some (.int .u8 n) => .ok (.string ⟨#[UInt8.ofNat n.toNat]⟩) W
      | _ => (Conv.bytesToString (.slice (some ⟨b, 0, none⟩) 1 1)).run Tryd.prog W) := by
  rw [run_convert_bytes_string W 47 9 5 _ 1 1 Tryd.underlying47 Tryd.underlying5 Tryd.underlying9]
  split
  · rename_i n hn
    have hl := run_loadCells_list (P := Tryd.prog) W ⟨b, 0, none⟩ [Value.int .u8 n] (fun j v hj => by
      cases j with
      | zero => simp at hj; subst hj; exact hn
      | succ j => simp at hj)
    have := run_bytesToString (P := Tryd.prog) W ⟨b, 0, none⟩ 1 1 [n] (by simpa using hl)
    rw [this]; rfl
  · rfl

/-- s is the numeral of n, and short -/
def IsDec (n : Int) (s : ByteArray) : Prop := s = ⟨(decDigits n.toNat).toArray⟩ ∧ s.size ≤ 20
theorem nDigits_le : ∀ (k u : Nat), u < 10 ^ (k + 1) → nDigits u ≤ k + 1
  | 0, u, h => by rw [nDigits_small (by simpa using h)]; exact Nat.le_refl _
  | k + 1, u, h => by
    by_cases hu : u < 10
    · rw [nDigits_small hu]; omega
    · rw [nDigits_big hu]
      have := nDigits_le k (u / 10) (by rw [Nat.pow_succ] at h; omega)
      omega
theorem isDec_mk {n : Int} (h1 : n < 1000000) : IsDec n ⟨(decDigits n.toNat).toArray⟩ := by
  refine ⟨rfl, ?_⟩
  have h := nDigits_le 5 n.toNat (by omega)
  rw [← decDigits_length] at h
  simp [ByteArray.size]
  omega
theorem IsDec.eq {n : Int} {s t : ByteArray} (h : IsDec n s) (k : IsDec n t) : s = t := h.1.trans k.1.symm

set_option maxRecDepth 100000 in
set_option maxHeartbeats 400000 in
theorem dec_small (n : Int) (w : World) (h0 : 0 ≤ n) (h : n < 10) :
    Calls Tryd.prog 18 #[.int .i64 n] w fun e w' => ∃ s, e = .returned (.string s) ∧ IsDec n s ∧ Below w.heap.size w w' := by
  have kc := conv1
  go_enter Tryd.func18, Tryd.ntmps18
  go_wp2_with fail
  go_ret
  refine ⟨_, ret_str ?_, isDec_mk (by omega), (Below.refl _ _).alloc (Nat.le_refl _) _⟩
  rw [decDigits_one (by omega)]
  congr
  omega

theorem wdiv {n : Int} (h0 : 10 ≤ n) (h1 : n < 1000000) : IntKind.i64.wrap (n.tdiv 10) = n / 10 := by
  rw [Int.tdiv_eq_ediv_of_nonneg (by omega), IntKind.wrap_i64]
  omega
theorem wmod {n : Int} (h0 : 10 ≤ n) (h1 : n < 1000000) : (IntKind.u8.wrap (IntKind.i64.wrap (48 + n.tmod 10))).toNat = 48 + n.toNat % 10 := by
  rw [Int.tmod_eq_emod_of_nonneg (by omega), IntKind.wrap_i64, IntKind.wrap_u8']
  omega

theorem isDec_snoc {n : Int} {s : ByteArray} (h0 : 10 ≤ n) (h1 : n < 1000000) (hs : IsDec (n / 10) s) : IsDec n (s ++ ⟨#[UInt8.ofNat (48 + n % 10).toNat]⟩) := by
  have e : s ++ ⟨#[UInt8.ofNat (48 + n % 10).toNat]⟩ = (⟨(decDigits n.toNat).toArray⟩ : ByteArray) := by
    rw [hs.1, ByteArray.mk_append_mk]
    congr 1
    rw [decDigits.eq_1 n.toNat, dif_neg (by omega)]
    have e1 : (n / 10).toNat = n.toNat / 10 := by omega
    have e2 : (48 + n % 10).toNat = 48 + n.toNat % 10 := by omega
    rw [e1, e2]
  rw [e]
  exact isDec_mk h1

set_option maxRecDepth 100000 in
set_option maxHeartbeats 800000 in
theorem dec_step (n : Int) (w : World) (h0 : 10 ≤ n) (h1 : n < 1000000)
    (ih : ∀ m w, m = n / 10 → Calls Tryd.prog 18 #[.int .i64 m] w fun e w' => ∃ s, e = .returned (.string s) ∧ IsDec (n / 10) s ∧ Below w.heap.size w w') :
    Calls Tryd.prog 18 #[.int .i64 n] w fun e w' => ∃ s, e = .returned (.string s) ∧ IsDec n s ∧ Below w.heap.size w w' := by
  have kc := conv1
  go_enter Tryd.func18, Tryd.ntmps18
  go_wp2_with fail
  go_region_with (go_at_call 18; refine (ih _ _ (wdiv h0 h1)).mono ?_; rintro e w1 ⟨s, rfl, hs, hb⟩; obtain ⟨hc, hf⟩ := bcell hb; have hz := hs.2)
  all_goals (go_wp2_with fail; go_ret; refine ⟨_, rfl, isDec_snoc h0 h1 hs, ?_⟩)
  all_goals first | exact ((Below.refl _ _).drew.trans hb).alloc hb.size _ | exact ((Below.refl _ _).alloc (Nat.le_refl _) _).drew.trans (hb.mono (by simp))

/-- spec.l2Dec: the numeral, of every number from 0 up to 999999 -/
theorem dec_any : ∀ (k : Nat) (n : Int) (w : World), 0 ≤ n → n < 1000000 → n < 10 ^ (k + 1) →
    Calls Tryd.prog 18 #[.int .i64 n] w fun e w' => ∃ s, e = .returned (.string s) ∧ IsDec n s ∧ Below w.heap.size w w'
  | 0, n, w, h0, _, h => dec_small n w h0 (by simpa using h)
  | k + 1, n, w, h0, h1, h => by
    by_cases hn : n < 10
    · exact dec_small n w h0 hn
    · refine dec_step n w (by omega) h1 fun m w hm => ?_
      subst hm
      exact dec_any k (n / 10) w (by omega) (by omega) (by rw [Int.pow_succ] at h; omega)
theorem dec (n : Int) (w : World) (h0 : 0 ≤ n) (h1 : n < 1000000) :
    Calls Tryd.prog 18 #[.int .i64 n] w fun e w' => ∃ s, e = .returned (.string s) ∧ IsDec n s ∧ Below w.heap.size w w' :=
  dec_any 5 n w h0 h1 (by simpa using h1)
end Go.Proofs.YtaoahghfmlegbabDoor
