/- The contracts of the program's layer 1. -/
import Derived.Test.YtaoahghfmlegbaaL1h
import Derived.Laws.BitsAllLaws
namespace Go.Proofs.Ytaoahghfmlegbaa
open Go.RowKit Go.Lib

set_option maxRecDepth 100000 in
set_option maxHeartbeats 400000 in
theorem inum_any (l : Int) (w : World) (l1 : 0 ≤ l) (l2 : l ≤ 16) :
    Calls Try.prog 94 #[.int .i64 l] w fun e w' => e = .returned (.int .i64 (sz l)) ∧ w' = w := by
  go_enter Try.func94, Try.ntmps94
  go_wp2
  go_ret
  refine ⟨ret_int ?_, rfl⟩
  have h := sz_bd l l1
  show wrap64 (sz l) = sz l
  unfold wrap64
  omega

set_option maxRecDepth 100000 in
set_option maxHeartbeats 400000 in
theorem isz_any (a l : Int) (w : World) (l1 : 0 ≤ l) (l2 : l ≤ 16) :
    Calls Try.prog 75 #[.agg #[.int .i64 a, .int .i64 l]] w fun e w' => e = .returned (.int .i64 (sz l)) ∧ Below w.heap.size w w' := by
  have hs := fun w => inum_any l w l1 l2
  go_enter Try.func75, Try.ntmps75
  go_wp2_with (go_at_call 94; refine (hs _).mono ?_; rintro e w1 ⟨rfl, rfl⟩)
  go_ret
  exact ⟨rfl, (Below.refl _ _).more _⟩

set_option maxRecDepth 100000 in
set_option maxHeartbeats 400000 in
theorem iaddr_any (a : Int) (w : World) :
    Calls Try.prog 74 #[.int .i64 a] w fun e w' => e = .returned (.bool (inB a 0 65535)) ∧ w' = w := by
  by_cases h1 : 0 ≤ a
  · by_cases h2 : a ≤ 65535
    · go_enter Try.func74, Try.ntmps74
      go_wp2
      go_ret
      exact ⟨ret_bool (by rw [inB_yes ⟨h1, h2⟩]), rfl⟩
    · have hd : decide (a ≤ 65535) = false := by simpa using h2
      go_enter Try.func74, Try.ntmps74
      go_wp2
      go_ret
      exact ⟨ret_bool (by rw [inB_no (by omega)]), rfl⟩
  · have hd : decide (0 ≤ a) = false := by simpa using h1
    go_enter Try.func74, Try.ntmps74
    go_wp2
    go_ret
    exact ⟨ret_bool (by rw [inB_no (by omega)]), rfl⟩

set_option maxRecDepth 100000 in
set_option maxHeartbeats 1000000 in
theorem iok_any (a l : Int) (w : World) :
    Calls Try.prog 51 #[.agg #[.int .i64 a, .int .i64 l]] w fun e w' => e = .returned (.bool (okP a l)) ∧ Below w.heap.size w w' := by
  have b0 : Below w.heap.size w (w.alloc (.cells #[.int .i64 a, .int .i64 l] 31)) := (Below.refl _ _).more _
  by_cases hl : 0 ≤ l
  · by_cases hl2 : l ≤ 16
    · by_cases ha : 0 ≤ a ∧ a ≤ 65535
      · have i2 := inB_yes ha
        obtain ⟨a1, a2⟩ := ha
        obtain ⟨z, hz⟩ : ∃ z, z = sz l := ⟨_, rfl⟩
        have hb := sz_bd l hl
        rw [← hz] at hb
        obtain ⟨b1, b2⟩ := hb
        have hz0 : (z == 0) = false := by rw [beq_eq_false_iff_ne]; omega
        have hz1 : ¬ z = 0 := by omega
        have HO : Hid (okP a l = decide (a % z = 0)) := by
          unfold Hid okP; rw [hz]; simp [hl, hl2, a1, a2]
        have hs := fun w => isz_any a l w hl hl2
        rw [← hz] at hs
        clear hz
        go_enter Try.func51, Try.ntmps51
        go_wp2_with fail
        go_region_held3 (fun w' => w'.cell? ⟨w.heap.size, 0, none⟩ = some (.int .i64 a) ∧ w'.cell? ⟨w.heap.size, 1, none⟩ = some (.int .i64 l)) (go_keep) (first | (go_at_call 74; refine (iaddr_any _ _).mono ?_; rintro e w' ⟨rfl, rfl⟩) | (go_at_call 75; refine (hs _).mono ?_; rintro e w1 ⟨rfl, hb⟩; obtain ⟨hc, hf⟩ := bcell hb))
        go_wp2
        go_ret
        refine ⟨ret_bool ?_, ?_⟩
        · rw [HO.out, Int.tmod_eq_emod_of_nonneg a1]; rfl
        · exact below_then (Below.drew b0) hb
      · have i2 := inB_no ha
        have HO : Hid (okP a l = false) := by
          unfold Hid okP
          exact decide_eq_false (by omega)
        clear ha
        go_enter Try.func51, Try.ntmps51
        go_wp2_with fail
        go_quiet ((first | (go_at_call 74; exact Calls.quiet_of_same (iaddr_any _ _))))
        go_wp2
        go_ret
        exact ⟨ret_bool HO.out.symm, below_drewN b0 _⟩
    · have hd : decide (l ≤ 16) = false := by simpa using hl2
      have HO : Hid (okP a l = false) := by
        unfold Hid okP
        exact decide_eq_false (by omega)
      go_enter Try.func51, Try.ntmps51
      go_wp2_with fail
      go_quiet (fail)
      go_wp2
      go_ret
      exact ⟨ret_bool HO.out.symm, below_drewN b0 _⟩
  · have hd : decide (0 ≤ l) = false := by simpa using hl
    have HO : Hid (okP a l = false) := by
      unfold Hid okP
      exact decide_eq_false (by omega)
    go_enter Try.func51, Try.ntmps51
    go_wp2_with fail
    go_quiet (fail)
    go_wp2
    go_ret
    exact ⟨ret_bool HO.out.symm, below_drewN b0 _⟩

theorem isub {a x : Int} (a1 : 0 ≤ a) (a2 : a ≤ 65535) (h : a ≤ x) (hx : x ≤ 9223372036854775807) : IntKind.i64.wrap (x - a) = x - a := by rw [IntKind.wrap_i64]; omega

set_option maxRecDepth 100000 in
set_option maxHeartbeats 1000000 in
theorem ihas_any (a l x : Int) (w : World) (l1 : 0 ≤ l) (l2 : l ≤ 16) (a1 : 0 ≤ a) (a2 : a ≤ 65535) (hx2 : x ≤ 9223372036854775807) :
    Calls Try.prog 52 #[.agg #[.int .i64 a, .int .i64 l], .int .i64 x] w fun e w' => e = .returned (.bool (hasP a l x)) ∧ Below w.heap.size w w' := by
  have b0 : Below w.heap.size w (w.alloc (.cells #[.int .i64 a, .int .i64 l] 31)) := (Below.refl _ _).more _
  by_cases hx : a ≤ x
  · obtain ⟨z, hz⟩ : ∃ z, z = sz l := ⟨_, rfl⟩
    have HO : Hid (hasP a l x = decide (x - a < z)) := by
      unfold Hid hasP; rw [hz]; simp [hx]; omega
    have hs := fun w => isz_any a l w l1 l2
    rw [← hz] at hs
    have HX : Hid (x ≤ 9223372036854775807) := hx2
    clear hz hx2
    go_enter Try.func52, Try.ntmps52
    go_wp2_with fail
    go_region_held3 (fun w' => w'.cell? ⟨w.heap.size, 0, none⟩ = some (.int .i64 a) ∧ w'.cell? ⟨w.heap.size, 1, none⟩ = some (.int .i64 l)) (go_keep) (first | (go_at_call 75; refine (hs _).mono ?_; rintro e w1 ⟨rfl, hb⟩; obtain ⟨hc, hf⟩ := bcell hb))
    go_wp2
    go_ret
    refine ⟨ret_bool ?_, below_then (Below.drew b0) hb⟩
    rw [HO.out, isub a1 a2 hx HX.out]
  · have hd : decide (a ≤ x) = false := by simpa using hx
    have HO : Hid (hasP a l x = false) := by
      unfold Hid hasP
      exact decide_eq_false (by omega)
    clear hx2
    go_enter Try.func52, Try.ntmps52
    go_wp2_with fail
    go_quiet (fail)
    go_wp2
    go_ret
    exact ⟨ret_bool HO.out.symm, below_drewN b0 _⟩

set_option maxRecDepth 100000 in
set_option maxHeartbeats 400000 in
theorem inethas_any (a l x : Int) (w : World) (hx2 : x ≤ 9223372036854775807) :
    Calls Try.prog 36 #[.agg #[.int .i64 a, .int .i64 l], .int .i64 x] w fun e w' => e = .returned (.bool (netHas a l x)) ∧ Below w.heap.size w w' := by
  have b0 : Below w.heap.size w (w.alloc (.cells #[.int .i64 a, .int .i64 l] 31)) := (Below.refl _ _).alloc (Nat.le_refl _) _
  have HX : Hid (x ≤ 9223372036854775807) := hx2
  clear hx2
  cases ho : okP a l with
  | true =>
    have hp := okP_of ho
    have HP : Hid (0 ≤ l ∧ l ≤ 16 ∧ 0 ≤ a ∧ a ≤ 65535 ∧ a % sz l = 0) := hp
    have HO : Hid (netHas a l x = hasP a l x) := by unfold Hid netHas; rw [ho]; rfl
    clear hp
    go_enter Try.func36, Try.ntmps36
    go_wp2_with (first
      | (go_at_call 51; refine (iok_any _ _ _).mono ?_; rintro e w1 ⟨rfl, hb⟩; obtain ⟨hc, hf⟩ := bcell hb)
      | (go_at_call 52; refine (ihas_any _ _ _ _ HP.out.1 HP.out.2.1 HP.out.2.2.1 HP.out.2.2.2.1 HX.out).mono ?_; rintro e w2 ⟨rfl, hb2⟩))
    go_ret
    exact ⟨ret_bool HO.out.symm, below_then (below_then b0 hb) hb2⟩
  | false =>
    have HO : Hid (netHas a l x = false) := by unfold Hid netHas; rw [ho]; rfl
    go_enter Try.func36, Try.ntmps36
    go_wp2_with (go_at_call 51; refine (iok_any _ _ _).mono ?_; rintro e w1 ⟨rfl, hb⟩; obtain ⟨hc, hf⟩ := bcell hb)
    go_ret
    exact ⟨ret_bool HO.out.symm, below_then b0 hb⟩

set_option maxRecDepth 100000 in
set_option maxHeartbeats 400000 in
theorem iwithin_any (a l b m : Int) (w : World) (m1 : 0 ≤ m) (m2 : m ≤ 16) (b1 : 0 ≤ b) (b2 : b ≤ 65535) (a2 : a ≤ 65535) :
    Calls Try.prog 67 #[.agg #[.int .i64 a, .int .i64 l], .agg #[.int .i64 b, .int .i64 m]] w fun e w' => e = .returned (.bool (withinP a l b m)) ∧ Below w.heap.size w w' := by
  have b0 : Below w.heap.size w ((w.alloc (.cells #[.int .i64 a, .int .i64 l] 31)).alloc (.cells #[.int .i64 b, .int .i64 m] 31)) := ((Below.refl _ _).more _).more _
  have hx : Hid (a ≤ 9223372036854775807) := by unfold Hid; omega
  by_cases h : m ≤ l
  · have HO : Hid (withinP a l b m = hasP b m a) := by unfold Hid withinP; rw [decide_eq_true h]; rfl
    go_enter Try.func67, Try.ntmps67
    go_wp2_with (go_at_call 52; refine (ihas_any _ _ _ _ m1 m2 b1 b2 hx.out).mono ?_; rintro e w2 ⟨rfl, hb2⟩)
    go_ret
    exact ⟨ret_bool HO.out.symm, below_then b0 hb2⟩
  · have HO : Hid (withinP a l b m = false) := by unfold Hid withinP; rw [decide_eq_false h]; rfl
    have hd : decide (m ≤ l) = false := decide_eq_false h
    go_enter Try.func67, Try.ntmps67
    go_wp2_with fail
    go_ret
    exact ⟨ret_bool HO.out.symm, b0⟩

set_option maxRecDepth 100000 in
set_option maxHeartbeats 400000 in
theorem inetin_any (a l b m : Int) (w : World) :
    Calls Try.prog 38 #[.agg #[.int .i64 a, .int .i64 l], .agg #[.int .i64 b, .int .i64 m]] w fun e w' => e = .returned (.bool (netIn a l b m)) ∧ Below w.heap.size w w' := by
  have b0 : Below w.heap.size w ((w.alloc (.cells #[.int .i64 a, .int .i64 l] 31)).alloc (.cells #[.int .i64 b, .int .i64 m] 31)) := ((Below.refl _ _).more _).more _
  cases ho : okP a l with
  | true =>
    cases hq : okP b m with
    | true =>
      have HP : Hid (0 ≤ m ∧ m ≤ 16 ∧ 0 ≤ b ∧ b ≤ 65535 ∧ b % sz m = 0) := okP_of hq
      have HQ : Hid (a ≤ 65535) := (okP_of ho).2.2.2.1
      have HO : Hid (netIn a l b m = withinP a l b m) := by unfold Hid netIn; rw [ho, hq]; rfl
      go_enter Try.func38, Try.ntmps38
      go_wp2_with (first
        | (go_at_call_of 51 l; refine (iok_any a l _).mono ?_; rintro e w1 ⟨rfl, hb⟩; obtain ⟨hc, hf⟩ := bcell hb; have hz1 : w.heap.size + 1 < w1.heap.size := size2 hb; have hz0 : w.heap.size < w1.heap.size := Nat.lt_of_succ_lt hz1)
        | (go_at_call_of 51 m; refine (iok_any b m _).mono ?_; rintro e w2 ⟨rfl, hb2⟩; obtain ⟨hc2, hf2⟩ := bcell hb2)
        | (go_at_call 67; refine (iwithin_any _ _ _ _ _ HP.out.1 HP.out.2.1 HP.out.2.2.1 HP.out.2.2.2.1 HQ.out).mono ?_; rintro e w3 ⟨rfl, hb3⟩))
      go_ret
      exact ⟨ret_bool HO.out.symm, below_then (below_then (below_then b0 hb) hb2) hb3⟩
    | false =>
      have HO : Hid (netIn a l b m = false) := by unfold Hid netIn; rw [ho, hq]; rfl
      go_enter Try.func38, Try.ntmps38
      go_wp2_with (first
        | (go_at_call_of 51 l; refine (iok_any a l _).mono ?_; rintro e w1 ⟨rfl, hb⟩; obtain ⟨hc, hf⟩ := bcell hb; have hz1 : w.heap.size + 1 < w1.heap.size := size2 hb; have hz0 : w.heap.size < w1.heap.size := Nat.lt_of_succ_lt hz1)
        | (go_at_call_of 51 m; refine (iok_any b m _).mono ?_; rintro e w2 ⟨rfl, hb2⟩))
      go_ret
      exact ⟨ret_bool HO.out.symm, below_then (below_then b0 hb) hb2⟩
  | false =>
    have HO : Hid (netIn a l b m = false) := by unfold Hid netIn; rw [ho]; rfl
    go_enter Try.func38, Try.ntmps38
    go_wp2_with (go_at_call 51; refine (iok_any _ _ _).mono ?_; rintro e w1 ⟨rfl, hb⟩)
    go_ret
    exact ⟨ret_bool HO.out.symm, below_then b0 hb⟩
end Go.Proofs.Ytaoahghfmlegbaa
