/- The law that holds AclSays against the model's, walked: it returns true. -/
import Derived.Test.YtaoahghfmlegbabToR2
import Derived.Test.YtaoahghfmlegbabMt4
namespace Go.Proofs.Ytaoahghfmlegbab
open Go.RowKit Go.Lib

set_option maxRecDepth 100000 in
set_option maxHeartbeats 1000000 in
theorem law_aclsays (L : List Ru) (v : Value) (f t n : Int) (w : World) (hr : RdAR w v L) (hn : (L.length : Int) ≤ 9223372036854775807) :
    Calls Try.prog 8 #[v, pkV (f, t, n)] w fun e w' => e = .returned (.bool true) ∧ Below w.heap.size w w' := by
  obtain ⟨p, cap, rfl⟩ := hr.form
  have hs := fun w => szr_any L.length p cap 1048576 w (by decide) (by decide) hn
  have HB : Below w.heap.size w w := Below.refl _ _
  by_cases hlen : L.length ≤ 1048576
  · have hs2 : (1048576 : Int) - (L.length : Int) ≥ 0 := by omega
    simp only [if_neg (show ¬ (1048576 : Int) < (L.length : Int) by omega)] at hs
    go_enter Try.func8, Try.ntmps8
    go_wp2_with (first
      | (go_at_call 25; refine (hs _).mono ?_; rintro e w1 ⟨rfl, rfl⟩))
    -- REGION
    have hB0 : Below w.heap.size w (w.alloc (.cells #[.int .i64 f, .int .i64 t, .int .i64 n] 49)) := HB.more _
    have sc : ∀ w', Below (w.alloc (.cells #[.int .i64 f, .int .i64 t, .int .i64 n] 49)).heap.size (w.alloc (.cells #[.int .i64 f, .int .i64 t, .int .i64 n] 49)) w' → (fun w' => w'.cell? ⟨w.heap.size, 0, none⟩ = some (.int .i64 f) ∧ w'.cell? ⟨w.heap.size, 1, none⟩ = some (.int .i64 t) ∧ w'.cell? ⟨w.heap.size, 2, none⟩ = some (.int .i64 n)) w' := fun w' h => by obtain ⟨a0, a1, a2, _⟩ := box3 h; exact ⟨a0, a1, a2⟩
    have bT : ∀ w', Below (w.alloc (.cells #[.int .i64 f, .int .i64 t, .int .i64 n] 49)).heap.size (w.alloc (.cells #[.int .i64 f, .int .i64 t, .int .i64 n] 49)) w' → Below w.heap.size w w' := fun w' h => below_then hB0 h
    generalize w.alloc (.cells #[.int .i64 f, .int .i64 t, .int .i64 n] 49) = V at *
    have b0 : Below V.heap.size V V.drew := (Below.refl _ _).drew
    refine wp_region_held_drew (S := fun w' => w'.cell? ⟨w.heap.size, 0, none⟩ = some (.int .i64 f) ∧ w'.cell? ⟨w.heap.size, 1, none⟩ = some (.int .i64 t) ∧ w'.cell? ⟨w.heap.size, 2, none⟩ = some (.int .i64 n)) (by kernel_rfl) (sc _ b0) (fun hHeld => ?_)
    refine wpAnyH_take (i := 0) (oi := ⟨_, _, _, _, _, _⟩) (v := ?_) rfl (by kernel_rfl) (by kernel_rfl) (by kernel_rfl) (fun _ _ _ h => h) (Or.inl ⟨by rfl, ?_⟩) (by assumption) ?_
    rotate_left
    · (intro w hSw; (try dsimp only at hSw); go_simp; try with_reducible rfl)
    simp only [Act.put, List.setIfInBounds_toArray, List.set_cons_zero, List.set_cons_succ]
    refine wpAnyH_take (i := 2) (oi := ⟨_, _, _, _, _, _⟩) (v := ?_) rfl (by kernel_rfl) (by kernel_rfl) (by kernel_rfl) (fun _ _ _ h => h) (Or.inl ⟨by rfl, ?_⟩) (by assumption) ?_
    rotate_left
    · (intro w hSw; (try dsimp only at hSw); go_simp; try with_reducible rfl)
    simp only [Act.put, List.setIfInBounds_toArray, List.set_cons_zero, List.set_cons_succ]
    refine wpAnyH_ready (rs := [1]) (by kernel_rfl) (by simp) (AllReadyH.cons (o := ⟨_, _, _, _, _, _⟩) rfl (fun K hK => ?_) AllReadyH.nil)
    go_simp
    go_at_call 27
    refine (tors_any L _ _ (hr.below (bT _ b0)) hlen).mono ?_
    rintro e w1 ⟨rfl, hrow1, hb1⟩; have b1 := below_then b0 hb1
    go_wp2_with fail
    refine hK.out _ _ (sc _ b1) (fun hHeld => ?_)
    clear hK K
    try simp only [Act.put, List.setIfInBounds_toArray, List.set_cons_zero, List.set_cons_succ]
    refine wpAnyH_ready (rs := [3]) (by kernel_rfl) (by simp) (AllReadyH.cons (o := ⟨_, _, _, _, _, _⟩) rfl (fun K hK => ?_) AllReadyH.nil)
    go_simp
    go_at_call 31
    refine (topk_any _ _ _ _).mono ?_
    rintro e w2 ⟨rfl, hb2⟩; have b2 := below_then b1 hb2
    go_wp2_with fail
    refine hK.out _ _ (sc _ b2) (fun hHeld => ?_)
    clear hK K
    try simp only [Act.put, List.setIfInBounds_toArray, List.set_cons_zero, List.set_cons_succ]
    refine wpAnyH_ready (rs := [4]) (by kernel_rfl) (by simp) (AllReadyH.cons (o := ⟨_, _, _, _, _, _⟩) rfl (fun K hK => ?_) AllReadyH.nil)
    go_simp
    go_at_call 30
    refine (aclsays_any L _ _ _ _ _ (hrow1.below hb2).rd hlen).mono ?_
    rintro e w3 ⟨rfl, hb3⟩; have b3 := below_then b2 hb3
    go_wp2_with fail
    refine hK.out _ _ (sc _ b3) (fun hHeld => ?_)
    clear hK K
    try simp only [Act.put, List.setIfInBounds_toArray, List.set_cons_zero, List.set_cons_succ]
    refine wpAnyH_take (i := 5) (oi := ⟨_, _, _, _, _, _⟩) (v := ?_) rfl (by kernel_rfl) (by kernel_rfl) (by kernel_rfl) (fun _ _ _ h => h) (Or.inl ⟨by rfl, ?_⟩) (by assumption) ?_
    rotate_left
    · (intro w hSw; (try dsimp only at hSw); go_simp; try with_reducible rfl)
    simp only [Act.put, List.setIfInBounds_toArray, List.set_cons_zero, List.set_cons_succ]
    refine wpAnyH_take (i := 6) (oi := ⟨_, _, _, _, _, _⟩) (v := ?_) rfl (by kernel_rfl) (by kernel_rfl) (by kernel_rfl) (fun _ _ _ h => h) (Or.inl ⟨by rfl, ?_⟩) (by assumption) ?_
    rotate_left
    · (intro w hSw; (try dsimp only at hSw); go_simp; try with_reducible rfl)
    simp only [Act.put, List.setIfInBounds_toArray, List.set_cons_zero, List.set_cons_succ]
    refine wpAnyH_take (i := 7) (oi := ⟨_, _, _, _, _, _⟩) (v := ?_) rfl (by kernel_rfl) (by kernel_rfl) (by kernel_rfl) (fun _ _ _ h => h) (Or.inl ⟨by rfl, ?_⟩) (by assumption) ?_
    rotate_left
    · (intro w hSw; (try dsimp only at hSw); go_simp; try with_reducible rfl)
    simp only [Act.put, List.setIfInBounds_toArray, List.set_cons_zero, List.set_cons_succ]
    refine wpAnyH_take (i := 8) (oi := ⟨_, _, _, _, _, _⟩) (v := ?_) rfl (by kernel_rfl) (by kernel_rfl) (by kernel_rfl) (fun _ _ _ h => h) (Or.inl ⟨by rfl, ?_⟩) (by assumption) ?_
    rotate_left
    · (intro w hSw; (try dsimp only at hSw); go_simp; try with_reducible rfl)
    simp only [Act.put, List.setIfInBounds_toArray, List.set_cons_zero, List.set_cons_succ]
    refine wpAnyH_take (i := 9) (oi := ⟨_, _, _, _, _, _⟩) (v := ?_) rfl (by kernel_rfl) (by kernel_rfl) (by kernel_rfl) (fun _ _ _ h => h) (Or.inl ⟨by rfl, ?_⟩) (by assumption) ?_
    rotate_left
    · (intro w hSw; (try dsimp only at hSw); go_simp; try with_reducible rfl)
    simp only [Act.put, List.setIfInBounds_toArray, List.set_cons_zero, List.set_cons_succ]
    refine wpAnyH_done (by kernel_rfl) ?_ _
    obtain ⟨a0, a1, a2⟩ := sc _ b3
    have hs3 : w.heap.size < w3.heap.size := cell_lt a0
    clear hrow1 hb1 hb2 hb3 b1 b2 hHeld
    have hI := fun v W h => iaclsays_any L f t n v W h hlen
    generalize aclN L (f, t, n) = N at *
    generalize hBo : aclB L (f, t, n) = Bo at *
    clear hBo
    have hbb : (Bo != Bo) = false := by simp
    have HB := b3
    have hT1 : Hid True := trivial
    go_wp2_with (first | (go_at_call 27; clear hT1; refine (tors_any L _ _ (hr.below (bT _ HB)) hlen).mono ?_; rintro e w4 ⟨rfl, hrow4, hb4⟩; replace HB := below_then HB hb4; obtain ⟨a0, a1, a2⟩ := sc _ HB) | (go_at_call 31; refine (topk_any _ _ _ _).mono ?_; rintro e w5 ⟨rfl, hb5⟩; replace HB := below_then HB hb5; have hrow5 := hrow4.below hb5; clear hrow4) | (go_at_call 32; refine (hI _ _ hrow5.rd).mono ?_; rintro e w6 ⟨rfl, hb6⟩; replace HB := below_then HB hb6; have hrow6 := hrow5.below hb6; clear hrow5))
    go_wp2_with (first | (go_at_call 27; refine (tors_any L _ _ (hr.below (bT _ HB)) hlen).mono ?_; rintro e w7 ⟨rfl, hrow7, hb7⟩; replace HB := below_then HB hb7; replace hrow6 := hrow6.below hb7) | (go_at_call 29; refine (eqrs_any L _ _ _ hrow6.rd hrow7.rd hlen).mono ?_; rintro e w8 ⟨rfl, hb8⟩; replace HB := below_then HB hb8))
    go_ret
    exact ⟨rfl, bT _ HB⟩
  · simp only [if_pos (show (1048576 : Int) < (L.length : Int) by omega)] at hs
    go_enter Try.func8, Try.ntmps8
    go_wp2_with (go_at_call 25; refine (hs _).mono ?_; rintro e w1 ⟨rfl, rfl⟩)
    go_ret
    exact ⟨rfl, HB.more _⟩
end Go.Proofs.Ytaoahghfmlegbab
