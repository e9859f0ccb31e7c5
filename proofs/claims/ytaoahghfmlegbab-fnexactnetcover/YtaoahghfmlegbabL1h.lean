/- The contracts of the model's halves. -/
import Derived.Test.YtaoahghfmlegbabL1b
import Derived.Deep.RegionHeld3
namespace Go.Proofs.Ytaoahghfmlegbab
open Go.RowKit Go.Lib

theorem wadd1 {l : Int} (l1 : 0 ≤ l) (l2 : l ≤ 15) : IntKind.i64.wrap (l + 1) = l + 1 := by rw [IntKind.wrap_i64]; omega

theorem waddz {a z : Int} (a1 : 0 ≤ a) (a2 : a ≤ 65535) (b1 : 1 ≤ z) (b2 : z ≤ 65536) : IntKind.i64.wrap (a + z) = a + z := by rw [IntKind.wrap_i64]; omega

set_option maxRecDepth 100000 in
set_option maxHeartbeats 400000 in
theorem halves_any (a l : Int) (w : World) (l1 : 0 ≤ l) (l2 : l ≤ 15) (a1 : 0 ≤ a) (a2 : a ≤ 65535) :
    Calls Try.prog 37 #[.agg #[.int .i64 a, .int .i64 l]] w fun e w' => e = .returned (.tuple #[.agg #[.int .i64 a, .int .i64 (l + 1)], .agg #[.int .i64 (a + sz (l + 1)), .int .i64 (l + 1)]]) ∧ Below w.heap.size w w' := by
  obtain ⟨z, hz⟩ : ∃ z, z = sz (l + 1) := ⟨_, rfl⟩
  have hb := sz_bd (l + 1) (by omega)
  rw [← hz] at hb ⊢
  obtain ⟨b1, b2⟩ := hb
  have hs : ∀ (m : Int) (w : World), m = l + 1 → Calls Try.prog 57 #[.int .i64 m] w fun e w' => e = .returned (.int .i64 z) ∧ w' = w := by
    intro m w hm
    rw [hz, hm]
    exact size_any (l + 1) w (by omega) (by omega)
  clear hz
  go_enter Try.func37, Try.ntmps37
  go_wp2_with fail
  go_region_held3 (fun w' => w'.cell? ⟨w.heap.size, 0, none⟩ = some (.int .i64 a) ∧ w'.cell? ⟨w.heap.size, 1, none⟩ = some (.int .i64 l)) (go_keep) (first | (go_at_call 57; refine (hs _ _ (wadd1 l1 l2)).mono ?_; rintro e w' ⟨rfl, rfl⟩))
  go_wp2
  refine bodyPost_ret (v := .tuple #[.agg #[.int .i64 a, .int .i64 (l + 1)], .agg #[.int .i64 (a + z), .int .i64 (l + 1)]]) (by simp [results, Try.results37, go_sem, wadd1 l1 l2, waddz a1 a2 b1 b2]) rfl ⟨rfl, ?_⟩
  exact below_drewN ((((Below.refl _ _).more _).more _).more _) _

/-- NetHalves of the model -/
def hasHalves (a l : Int) : Bool := okP a l && decide (l < 16)

set_option maxRecDepth 100000 in
set_option maxHeartbeats 400000 in
theorem nethalves_no (a l : Int) (w : World) (h : hasHalves a l = false) :
    Calls Try.prog 10 #[.agg #[.int .i64 a, .int .i64 l]] w fun e w' => e = .returned (.tuple #[.agg #[.int .i64 0, .int .i64 0], .agg #[.int .i64 0, .int .i64 0], .bool false]) ∧ Below w.heap.size w w' := by
  have b0 : Below w.heap.size w (((w.alloc (.cells #[.int .i64 a, .int .i64 l] 24)).alloc (.cells #[.int .i64 0, .int .i64 0] 24)).alloc (.cells #[.int .i64 0, .int .i64 0] 24)) := (((Below.refl _ _).more _).more _).more _
  cases ho : okP a l with
  | true =>
    have hp := okP_of ho
    have h16 : l = 16 := by
      unfold hasHalves at h
      rw [ho] at h
      simp at h
      omega
    subst h16
    clear h hp
    go_enter Try.func10, Try.ntmps10
    go_wp2_with (go_at_call 36; refine (ok_any _ _ _).mono ?_; rintro e w1 ⟨rfl, hb⟩; obtain ⟨hc, hf⟩ := bcell hb; have hz2 := size3 hb; have hz1 := Nat.lt_of_succ_lt hz2; have hz0 := Nat.lt_of_succ_lt hz1)
    refine bodyPost_ret (v := .tuple #[.agg #[.int .i64 0, .int .i64 0], .agg #[.int .i64 0, .int .i64 0], .bool false]) (by simp [results, Try.results10, go_sem, hc]) rfl ⟨rfl, ?_⟩
    repeat (refine Below.setCell ?_ (by first | (simp; done) | (simp; omega) | omega) _)
    exact below_then b0 hb
  | false =>
    clear h
    go_enter Try.func10, Try.ntmps10
    go_wp2_with (go_at_call 36; refine (ok_any _ _ _).mono ?_; rintro e w1 ⟨rfl, hb⟩; obtain ⟨hc, hf⟩ := bcell hb; have hz2 := size3 hb; have hz1 := Nat.lt_of_succ_lt hz2; have hz0 := Nat.lt_of_succ_lt hz1)
    refine bodyPost_ret (v := .tuple #[.agg #[.int .i64 0, .int .i64 0], .agg #[.int .i64 0, .int .i64 0], .bool false]) (by simp [results, Try.results10, go_sem, hc]) rfl ⟨rfl, ?_⟩
    repeat (refine Below.setCell ?_ (by first | (simp; done) | (simp; omega) | omega) _)
    exact below_then b0 hb

set_option maxRecDepth 100000 in
set_option maxHeartbeats 400000 in
theorem nethalves_yes (a l : Int) (w : World) (h : hasHalves a l = true) :
    Calls Try.prog 10 #[.agg #[.int .i64 a, .int .i64 l]] w fun e w' => e = .returned (.tuple #[.agg #[.int .i64 a, .int .i64 (l + 1)], .agg #[.int .i64 (a + sz (l + 1)), .int .i64 (l + 1)], .bool true]) ∧ Below w.heap.size w w' := by
  have b0 : Below w.heap.size w (((w.alloc (.cells #[.int .i64 a, .int .i64 l] 24)).alloc (.cells #[.int .i64 0, .int .i64 0] 24)).alloc (.cells #[.int .i64 0, .int .i64 0] 24)) := (((Below.refl _ _).more _).more _).more _
  unfold hasHalves at h
  rw [Bool.and_eq_true] at h
  obtain ⟨ho, h16⟩ := h
  have h16 := of_decide_eq_true h16
  obtain ⟨l1, l2, a1, a2, _⟩ := okP_of ho
  have l3 : l ≤ 15 := by omega
  have l4 : (l == 16) = false := by rw [beq_eq_false_iff_ne]; omega
  obtain ⟨z, hz⟩ : ∃ z, z = sz (l + 1) := ⟨_, rfl⟩
  have hh := fun w => halves_any a l w l1 l3 a1 a2
  rw [← hz] at hh ⊢
  clear hz
  go_enter Try.func10, Try.ntmps10
  go_wp2_with (first
    | (go_at_call 36; refine (ok_any _ _ _).mono ?_; rintro e w1 ⟨rfl, hb⟩; obtain ⟨hc, hf⟩ := bcell hb; have hz2 := size3 hb; have hz1 := Nat.lt_of_succ_lt hz2; have hz0 := Nat.lt_of_succ_lt hz1)
    | (go_at_call 37; refine (hh _).mono ?_; rintro e w2 ⟨rfl, hb2⟩; obtain ⟨hc2, hf2⟩ := bcell hb2; have hy2 := Nat.lt_of_lt_of_le hz2 hb2.size; have hy1 := Nat.lt_of_succ_lt hy2))
  have q0 : Below w.heap.size w w2 := below_then (below_then b0 hb) hb2
  have f1 : ∀ j, j < 2 → w2.cell? ⟨w.heap.size + 1, j, none⟩ = some (.int .i64 0) ∧ w2.frozen? ⟨w.heap.size + 1, j, none⟩ = false := fun j hj => by
    rw [hc2 _ _ hz1, hf2 _ _ hz1, hc _ _ (by simp), hf _ _ (by simp)]
    have := (three_new w (.cells #[.int .i64 a, .int .i64 l] 24) (.int .i64 0) (.int .i64 0) (.int .i64 0) (.int .i64 0) 24 j hj).1
    simpa using this
  have f2 : ∀ j, j < 2 → w2.cell? ⟨w.heap.size + 1 + 1, j, none⟩ = some (.int .i64 0) ∧ w2.frozen? ⟨w.heap.size + 1 + 1, j, none⟩ = false := fun j hj => by
    rw [hc2 _ _ hz2, hf2 _ _ hz2, hc _ _ (by simp), hf _ _ (by simp)]
    have := (three_new w (.cells #[.int .i64 a, .int .i64 l] 24) (.int .i64 0) (.int .i64 0) (.int .i64 0) (.int .i64 0) 24 j hj).2
    simpa using this
  have Q := two_new w2 (.int .i64 a) (.int .i64 (l + 1)) (.int .i64 (a + z)) (.int .i64 (l + 1)) 24
  generalize hW : (w2.alloc (.cells #[.int .i64 a, .int .i64 (l + 1)] 24)).alloc (.cells #[.int .i64 (a + z), .int .i64 (l + 1)] 24) = W
  rw [hW] at Q
  obtain ⟨g1, g2, g3, g4, gold⟩ := Q
  have e1 := gold (w.heap.size + 1) 0 hy1
  have e2 := gold (w.heap.size + 1) 1 hy1
  have e3 := gold (w.heap.size + 1 + 1) 0 hy2
  have e4 := gold (w.heap.size + 1 + 1) 1 hy2
  rw [(f1 0 (by decide)).1, (f1 0 (by decide)).2] at e1
  rw [(f1 1 (by decide)).1, (f1 1 (by decide)).2] at e2
  rw [(f2 0 (by decide)).1, (f2 0 (by decide)).2] at e3
  rw [(f2 1 (by decide)).1, (f2 1 (by decide)).2] at e4
  obtain ⟨s1, t1⟩ := e1
  obtain ⟨s2, t2⟩ := e2
  obtain ⟨s3, t3⟩ := e3
  obtain ⟨s4, t4⟩ := e4
  have qW : Below w.heap.size w W := by rw [← hW]; exact (q0.more _).more _
  have HQ : Hid (Below w.heap.size w W) := qW
  have n1 : ¬ w.heap.size + 1 = w2.heap.size := by omega
  have n2 : ¬ w.heap.size + 1 = w2.heap.size + 1 := by omega
  have n3 : ¬ w.heap.size + 1 + 1 = w2.heap.size := by omega
  have n4 : ¬ w.heap.size + 1 + 1 = w2.heap.size + 1 := by omega
  clear qW hW gold f1 f2 q0 hb hb2 hc hf hc2 hf2 hz2 hz1 hz0 hy1 hy2 b0 hh
  go_region
  go_wp2
  refine bodyPost_ret (v := .tuple #[.agg #[.int .i64 a, .int .i64 (l + 1)], .agg #[.int .i64 (a + z), .int .i64 (l + 1)], .bool true]) (by simp [results, Try.results10, go_sem, *]) rfl ⟨rfl, ?_⟩
  refine Below.drew ?_
  repeat (refine Below.setCell ?_ (by first | (simp; done) | (simp; omega) | omega) _)
  exact HQ.out
end Go.Proofs.Ytaoahghfmlegbab
