/- The contracts of the program's layer 1. -/
import Derived.Test.YtaoahghfmlegbabL1h
import Derived.Laws.BitsAllLaws
namespace Go.Proofs.Ytaoahghfmlegbab
open Go.RowKit Go.Lib

set_option maxRecDepth 100000 in
set_option maxHeartbeats 400000 in
theorem inum_any (l : Int) (w : World) (l1 : 0 ≤ l) (l2 : l ≤ 16) :
    Calls Try.prog 76 #[.int .i64 l] w fun e w' => e = .returned (.int .i64 (sz l)) ∧ w' = w := by
  go_enter Try.func76, Try.ntmps76
  go_wp2
  go_ret
  refine ⟨ret_int ?_, rfl⟩
  have h := sz_bd l l1
  show wrap64 (sz l) = sz l
  unfold wrap64
  omega

set_option maxRecDepth 100000 in
set_option maxHeartbeats 400000 in
theorem isz_any (a l : Int) (w : World) (l1 : 0 ≤ l) (l2 : l ≤ 16) :
    Calls Try.prog 59 #[.agg #[.int .i64 a, .int .i64 l]] w fun e w' => e = .returned (.int .i64 (sz l)) ∧ Below w.heap.size w w' := by
  have hs := fun w => inum_any l w l1 l2
  go_enter Try.func59, Try.ntmps59
  go_wp2_with (go_at_call 76; refine (hs _).mono ?_; rintro e w1 ⟨rfl, rfl⟩)
  go_ret
  exact ⟨rfl, (Below.refl _ _).more _⟩

set_option maxRecDepth 100000 in
set_option maxHeartbeats 400000 in
theorem iaddr_any (a : Int) (w : World) :
    Calls Try.prog 58 #[.int .i64 a] w fun e w' => e = .returned (.bool (inB a 0 65535)) ∧ w' = w := by
  by_cases h1 : 0 ≤ a
  · by_cases h2 : a ≤ 65535
    · go_enter Try.func58, Try.ntmps58
      go_wp2
      go_ret
      exact ⟨ret_bool (by rw [inB_yes ⟨h1, h2⟩]), rfl⟩
    · have hd : decide (a ≤ 65535) = false := by simpa using h2
      go_enter Try.func58, Try.ntmps58
      go_wp2
      go_ret
      exact ⟨ret_bool (by rw [inB_no (by omega)]), rfl⟩
  · have hd : decide (0 ≤ a) = false := by simpa using h1
    go_enter Try.func58, Try.ntmps58
    go_wp2
    go_ret
    exact ⟨ret_bool (by rw [inB_no (by omega)]), rfl⟩

set_option maxRecDepth 100000 in
set_option maxHeartbeats 1000000 in
theorem iok_any (a l : Int) (w : World) :
    Calls Try.prog 38 #[.agg #[.int .i64 a, .int .i64 l]] w fun e w' => e = .returned (.bool (okP a l)) ∧ Below w.heap.size w w' := by
  have b0 : Below w.heap.size w (w.alloc (.cells #[.int .i64 a, .int .i64 l] 24)) := (Below.refl _ _).more _
  by_cases hl : 0 ≤ l
  · by_cases hl2 : l ≤ 16
    · by_cases ha : 0 ≤ a ∧ a ≤ 65535
      · have i2 := inB_yes ha
        obtain ⟨a1, a2⟩ := ha
        obtain ⟨z, hz⟩ : ∃ z, z = sz l := ⟨_, rfl⟩
        have hb := sz_bd l hl
        rw [← hz] at hb
        obtain ⟨b1, b2⟩ := hb
        have hz0 : (z == 0) = false := by rw [beq_eq_false_iff_ne]; omega
        have hz1 : ¬ z = 0 := by omega
        have HO : Hid (okP a l = decide (a % z = 0)) := by
          unfold Hid okP; rw [hz]; simp [hl, hl2, a1, a2]
        have hs := fun w => isz_any a l w hl hl2
        rw [← hz] at hs
        clear hz
        go_enter Try.func38, Try.ntmps38
        go_wp2_with fail
        go_region_held3 (fun w' => w'.cell? ⟨w.heap.size, 0, none⟩ = some (.int .i64 a) ∧ w'.cell? ⟨w.heap.size, 1, none⟩ = some (.int .i64 l)) (go_keep) (first | (go_at_call 58; refine (iaddr_any _ _).mono ?_; rintro e w' ⟨rfl, rfl⟩) | (go_at_call 59; refine (hs _).mono ?_; rintro e w1 ⟨rfl, hb⟩; obtain ⟨hc, hf⟩ := bcell hb))
        go_wp2
        go_ret
        refine ⟨ret_bool ?_, ?_⟩
        · rw [HO.out, Int.tmod_eq_emod_of_nonneg a1]; rfl
        · exact below_then (Below.drew b0) hb
      · have i2 := inB_no ha
        have HO : Hid (okP a l = false) := by
          unfold Hid okP
          exact decide_eq_false (by omega)
        clear ha
        go_enter Try.func38, Try.ntmps38
        go_wp2_with fail
        go_quiet ((first | (go_at_call 58; exact Calls.quiet_of_same (iaddr_any _ _))))
        go_wp2
        go_ret
        exact ⟨ret_bool HO.out.symm, below_drewN b0 _⟩
    · have hd : decide (l ≤ 16) = false := by simpa using hl2
      have HO : Hid (okP a l = false) := by
        unfold Hid okP
        exact decide_eq_false (by omega)
      go_enter Try.func38, Try.ntmps38
      go_wp2_with fail
      go_quiet (fail)
      go_wp2
      go_ret
      exact ⟨ret_bool HO.out.symm, below_drewN b0 _⟩
  · have hd : decide (0 ≤ l) = false := by simpa using hl
    have HO : Hid (okP a l = false) := by
      unfold Hid okP
      exact decide_eq_false (by omega)
    go_enter Try.func38, Try.ntmps38
    go_wp2_with fail
    go_quiet (fail)
    go_wp2
    go_ret
    exact ⟨ret_bool HO.out.symm, below_drewN b0 _⟩

theorem isub {a x : Int} (a1 : 0 ≤ a) (a2 : a ≤ 65535) (h : a ≤ x) (hx : x ≤ 9223372036854775807) : IntKind.i64.wrap (x - a) = x - a := by rw [IntKind.wrap_i64]; omega

set_option maxRecDepth 100000 in
set_option maxHeartbeats 1000000 in
theorem ihas_any (a l x : Int) (w : World) (l1 : 0 ≤ l) (l2 : l ≤ 16) (a1 : 0 ≤ a) (a2 : a ≤ 65535) (hx2 : x ≤ 9223372036854775807) :
    Calls Try.prog 41 #[.agg #[.int .i64 a, .int .i64 l], .int .i64 x] w fun e w' => e = .returned (.bool (hasP a l x)) ∧ Below w.heap.size w w' := by
  have b0 : Below w.heap.size w (w.alloc (.cells #[.int .i64 a, .int .i64 l] 24)) := (Below.refl _ _).more _
  by_cases hx : a ≤ x
  · obtain ⟨z, hz⟩ : ∃ z, z = sz l := ⟨_, rfl⟩
    have HO : Hid (hasP a l x = decide (x - a < z)) := by
      unfold Hid hasP; rw [hz]; simp [hx]; omega
    have hs := fun w => isz_any a l w l1 l2
    rw [← hz] at hs
    have HX : Hid (x ≤ 9223372036854775807) := hx2
    clear hz hx2
    go_enter Try.func41, Try.ntmps41
    go_wp2_with fail
    go_region_held3 (fun w' => w'.cell? ⟨w.heap.size, 0, none⟩ = some (.int .i64 a) ∧ w'.cell? ⟨w.heap.size, 1, none⟩ = some (.int .i64 l)) (go_keep) (first | (go_at_call 59; refine (hs _).mono ?_; rintro e w1 ⟨rfl, hb⟩; obtain ⟨hc, hf⟩ := bcell hb))
    go_wp2
    go_ret
    refine ⟨ret_bool ?_, below_then (Below.drew b0) hb⟩
    rw [HO.out, isub a1 a2 hx HX.out]
  · have hd : decide (a ≤ x) = false := by simpa using hx
    have HO : Hid (hasP a l x = false) := by
      unfold Hid hasP
      exact decide_eq_false (by omega)
    clear hx2
    go_enter Try.func41, Try.ntmps41
    go_wp2_with fail
    go_quiet (fail)
    go_wp2
    go_ret
    exact ⟨ret_bool HO.out.symm, below_drewN b0 _⟩

end Go.Proofs.Ytaoahghfmlegbab
