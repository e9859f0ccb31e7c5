/- The model's l4Put, walked. -/
import Derived.Test.YtaoahghfmlegbaaSp1
namespace Go.Proofs.Ytaoahghfmlegbaa
open Go.RowKit Go.Lib

set_option maxRecDepth 100000 in
set_option maxHeartbeats 4000000 in
theorem put_any (E : List Int) (n : Int) (v : Value) (w : World) (hr : RdI w v E) (hE : E.Pairwise (· < ·)) (h0 : 0 < E.length) (hlen : E.length ≤ 1000) :
    Calls Try.prog 98 #[v, .int .i64 n] w fun e w' => ∃ v', e = .returned v' ∧ ∃ E', RdI w' v' E' ∧ PutOf E n E' ∧ Below w.heap.size w w' := by
  obtain ⟨p, cap, rfl⟩ := hr.form
  obtain ⟨g, rfl, hcap, hg, _⟩ := hr.at h0
  have HP : Hid (E.Pairwise (· < ·)) := hE
  clear hE
  go_enter Try.func98, Try.ntmps98
  go_wp2_with fail
  go_loopw [5] (fun i wr => ∃ k : Nat, k ≤ E.length ∧ i = .int .i64 k ∧ Hid (∀ j (hj : j < E.length), j < k → E[j] < n) ∧ Hid (wr = w)) (fun i _ => E.length - (intOf i).toNat)
  case atStart => exact ⟨0, Nat.zero_le _, rfl, fun j _ hj => absurd hj (Nat.not_lt_zero _), rfl⟩
  case round =>
    obtain ⟨k, hk, rfl, hall, hw⟩ := hrel
    obtain rfl : wr = w := hw.out
    by_cases hlt : k < E.length
    · obtain ⟨g', e', _, _, c0⟩ := hr.at hlt
      cases e'
      generalize hx : E[k] = x at *
      by_cases hxn : x < n
      · have HE : Hid (∀ j (hj : j < E.length), j < k + 1 → E[j] < n) := fun j hj hjk => by
          by_cases e : j = k
          · subst e; rw [hx]; exact hxn
          · exact hall.out j hj (by omega)
        clear hx
        go_wp2
        go_roundw
        case rel => exact ⟨k + 1, hlt, rfl, HE, by first | exact rfl | exact trivial⟩
        case measure => simp [intOf]; omega
      · have hd : decide (x < n) = false := decide_eq_false hxn
        by_cases hbig : n > 65535
        · have HE : Hid (PutOf E n E) := put_same HP.out (.inl hbig)
          clear hx
          go_wp2
          go_ret
          exact ⟨_, rfl, E, hr, HE.out, Below.refl _ _⟩
        · have hd2 : decide (n > 65535) = false := decide_eq_false hbig
          by_cases hxe : x = n
          · subst hxe
            have HE : Hid (PutOf E x E) := put_same HP.out (.inr (by rw [← hx]; exact List.getElem_mem _))
            clear hx
            go_wp2
            go_ret
            exact ⟨_, rfl, E, hr, HE.out, Below.refl _ _⟩
          · have hd3 : (x == n) = false := by rw [beq_dec]; exact decide_eq_false hxe
            have HE : Hid (PutOf E n (E.take k ++ [n] ++ E.drop k)) := put_new HP.out hk (by omega) hall.out (fun _ => by rw [hx]; omega)
            clear hx hxe hxn hbig hall HP
            go_wp2_with fail
            have hkc : k ≤ cap := by omega
            have hck : ¬ cap = k := by omega
            have hd4 : E.length - k ≤ 1000 := by omega
            have bV : Below wr.heap.size wr wr.drew := (Below.refl _ _).drew
            refine wp_region_held_drew (S := fun _ => True) (by kernel_rfl) trivial (fun hHeld => ?_)
            refine wpAnyH_take (i := 1) (oi := ⟨_, _, _, _, _, _⟩) (v := ?_) rfl (by kernel_rfl) (by kernel_rfl) (by kernel_rfl) (fun _ _ _ h => h) (Or.inl ⟨by rfl, ?_⟩) (by assumption) ?_
            rotate_left
            · (intro w hSw; (try dsimp only at hSw); go_simp; try with_reducible rfl)
            simp only [Act.put, List.setIfInBounds_toArray, List.set_cons_zero, List.set_cons_succ]
            refine wpAnyH_take (i := 2) (oi := ⟨_, _, _, _, _, _⟩) (v := ?_) rfl (by kernel_rfl) (by kernel_rfl) (by kernel_rfl) (fun _ _ _ h => h) (Or.inl ⟨by rfl, ?_⟩) (by assumption) ?_
            rotate_left
            · (intro w hSw; (try dsimp only at hSw); go_simp; try with_reducible rfl)
            simp only [Act.put, List.setIfInBounds_toArray, List.set_cons_zero, List.set_cons_succ]
            refine wpAnyH_take (i := 3) (oi := ⟨_, _, _, _, _, _⟩) (v := ?_) rfl (by kernel_rfl) (by kernel_rfl) (by kernel_rfl) (fun _ _ _ h => h) (Or.inl ⟨by rfl, ?_⟩) (by assumption) ?_
            rotate_left
            · (intro w hSw; (try dsimp only at hSw); go_simp; try with_reducible rfl)
            simp only [Act.put, List.setIfInBounds_toArray, List.set_cons_zero, List.set_cons_succ]
            refine wpAnyH_take (i := 5) (oi := ⟨_, _, _, _, _, _⟩) (v := ?_) rfl (by kernel_rfl) (by kernel_rfl) (by kernel_rfl) (fun _ _ _ h => h) (Or.inl ⟨by rfl, ?_⟩) (by assumption) ?_
            rotate_left
            · (intro w hSw; (try dsimp only at hSw); go_simp; try with_reducible rfl)
            simp only [Act.put, List.setIfInBounds_toArray, List.set_cons_zero, List.set_cons_succ]
            refine wpAnyH_take (i := 8) (oi := ⟨_, _, _, _, _, _⟩) (v := ?_) rfl (by kernel_rfl) (by kernel_rfl) (by kernel_rfl) (fun _ _ _ h => h) (Or.inl ⟨by rfl, ?_⟩) (by assumption) ?_
            rotate_left
            · (intro w hSw; (try dsimp only at hSw); go_simp; try with_reducible rfl)
            simp only [Act.put, List.setIfInBounds_toArray, List.set_cons_zero, List.set_cons_succ]
            refine wpAnyH_take (i := 9) (oi := ⟨_, _, _, _, _, _⟩) (v := ?_) rfl (by kernel_rfl) (by kernel_rfl) (by kernel_rfl) (fun _ _ _ h => h) (Or.inl ⟨by rfl, ?_⟩) (by assumption) ?_
            rotate_left
            · (intro w hSw; (try dsimp only at hSw); go_simp; try with_reducible rfl)
            simp only [Act.put, List.setIfInBounds_toArray, List.set_cons_zero, List.set_cons_succ]
            refine wpAnyH_take (i := 10) (oi := ⟨_, _, _, _, _, _⟩) (v := ?_) rfl (by kernel_rfl) (by kernel_rfl) (by kernel_rfl) (fun _ _ _ h => h) (Or.inl ⟨by rfl, ?_⟩) (by assumption) ?_
            rotate_left
            · (intro w hSw; (try dsimp only at hSw); go_simp; try with_reducible rfl)
            simp only [Act.put, List.setIfInBounds_toArray, List.set_cons_zero, List.set_cons_succ]
            generalize wr.drew = V at *
            refine wpAnyH_ready (rs := [0, 6]) (by kernel_rfl) (by simp) (AllReadyH.cons (o := ⟨_, _, _, _, _, _⟩) rfl (fun K hK => ?_) (AllReadyH.cons (o := ⟨_, _, _, _, _, _⟩) rfl (fun K hK => ?_) AllReadyH.nil))
            · go_simp
              have bV1 : Below wr.heap.size wr (V.alloc (.cells #[] 3)) := bV.more _
              have rV1 := (rowI_new V).mono bV.size
              refine hK.out _ _ (trivial) (fun hHeld => ?_)
              clear hK K
              try simp only [Act.put, List.setIfInBounds_toArray, List.set_cons_zero, List.set_cons_succ]
              have lV1 : V.heap.size < (V.alloc (.cells #[] 3)).heap.size := by simp
              have gV1 : V.grownBy (V.alloc (.cells #[] 3)) none := World.grownBy_alloc _ _ _
              generalize V.alloc (.cells #[] 3) = V1 at *
              refine wpAnyH_ready (rs := [4, 6]) (by kernel_rfl) (by simp) (AllReadyH.cons (o := ⟨_, _, _, _, _, _⟩) rfl (fun K hK => ?_) (AllReadyH.cons (o := ⟨_, _, _, _, _, _⟩) rfl (fun K hK => ?_) AllReadyH.nil))
              · refine step_append_i (by rfl) _ _ (by rfl) wr.heap.size (.slice (some ⟨V.heap.size, 0, none⟩) 0 0) [] (by rfl) rV1 ⟨g, 0, none⟩ k cap (E.take k) (by rfl) (by simp <;> omega) (news_take (hr.below bV1)) (by simp <;> omega) bV1.size ?_
                intro v4 V2 r4 k4
                have bV2 : Below wr.heap.size wr V2 := bV1.grown k4 bV1.size (fun j e => (World.ownsRow.lt rV1 j e).1)
                refine hK.out _ _ (trivial) (fun hHeld => ?_)
                clear hK K
                try simp only [Act.put, List.setIfInBounds_toArray, List.set_cons_zero, List.set_cons_succ]
                refine wpAnyH_ready (rs := [6]) (by kernel_rfl) (by simp) (AllReadyH.cons (o := ⟨_, _, _, _, _, _⟩) rfl (fun K hK => ?_) AllReadyH.nil)
                go_simp
                have bV3 : Below wr.heap.size wr (V2.alloc (.cells #[.int .i64 n] 3)) := bV2.more _
                have hN := news_one V2 n
                refine hK.out _ _ (trivial) (fun hHeld => ?_)
                clear hK K
                try simp only [Act.put, List.setIfInBounds_toArray, List.set_cons_zero, List.set_cons_succ]
                have lV3 : V2.heap.size < (V2.alloc (.cells #[.int .i64 n] 3)).heap.size := by simp
                have gV3 : V2.grownBy (V2.alloc (.cells #[.int .i64 n] 3)) none := World.grownBy_alloc _ _ _
                generalize V2.alloc (.cells #[.int .i64 n] 3) = V3 at *
                replace r4 := World.ownsRow.kept r4 gV3 (by cases h : Value.ownBlock v4 with | none => exact .inl rfl | some q => exact .inr (by simp))
                replace r4 : RowI V3 wr.heap.size v4 ([] ++ E.take k) := r4
                refine wpAnyH_ready (rs := [7]) (by kernel_rfl) (by simp) (AllReadyH.cons (o := ⟨_, _, _, _, _, _⟩) rfl (fun K hK => ?_) AllReadyH.nil)
                obtain ⟨p4, c4, rfl⟩ := r4.form
                refine step_append_i (by rfl) _ _ (by rfl) wr.heap.size (.slice p4 ([] ++ E.take k).length c4) ([] ++ E.take k) (by rfl) r4 ⟨V2.heap.size, 0, none⟩ 1 1 [n] (by rfl) rfl hN (by simp <;> omega) bV3.size ?_
                intro v5 U5 r5 k5
                have bU5 : Below wr.heap.size wr U5 := bV3.grown k5 bV3.size (fun j e => (World.ownsRow.lt r4 j e).1)
                refine hK.out _ _ (trivial) (fun hHeld => ?_)
                clear hK K
                try simp only [Act.put, List.setIfInBounds_toArray, List.set_cons_zero, List.set_cons_succ]
                refine wpAnyH_ready (rs := [11]) (by kernel_rfl) (by simp) (AllReadyH.cons (o := ⟨_, _, _, _, _, _⟩) rfl (fun K hK => ?_) AllReadyH.nil)
                obtain ⟨p5, c5, rfl⟩ := r5.form
                refine step_append_i (by rfl) _ _ (by rfl) wr.heap.size (.slice p5 ([] ++ E.take k ++ [n]).length c5) ([] ++ E.take k ++ [n]) (by rfl) r5 ⟨g, k, none⟩ (E.length - k) (cap - k) (E.drop k) (by rfl) (by simp) (news_drop (hr.below bU5)) (by simp <;> omega) bU5.size ?_
                intro v6 U6 r6 k6
                have bU6 : Below wr.heap.size wr U6 := bU5.grown k6 bU5.size (fun j e => (World.ownsRow.lt r5 j e).1)
                refine hK.out _ _ (trivial) (fun hHeld => ?_)
                clear hK K
                try simp only [Act.put, List.setIfInBounds_toArray, List.set_cons_zero, List.set_cons_succ]
                refine wpAnyH_take (i := 12) (oi := ⟨_, _, _, _, _, _⟩) (v := ?_) rfl (by kernel_rfl) (by kernel_rfl) (by kernel_rfl) (fun _ _ _ h => h) (Or.inl ⟨by rfl, ?_⟩) (by assumption) ?_
                rotate_left
                · (intro w hSw; (try dsimp only at hSw); go_simp; try with_reducible rfl)
                simp only [Act.put, List.setIfInBounds_toArray, List.set_cons_zero, List.set_cons_succ]
                refine wpAnyH_done (by kernel_rfl) ?_ _
                go_wp2_with fail
                go_ret
                exact ⟨_, rfl, _, r6.rd, by simpa using HE.out, bU6⟩
              · go_simp
                have bV2 : Below wr.heap.size wr (V1.alloc (.cells #[.int .i64 n] 3)) := bV1.more _
                have hN := news_one V1 n
                refine hK.out _ _ (trivial) (fun hHeld => ?_)
                clear hK K
                try simp only [Act.put, List.setIfInBounds_toArray, List.set_cons_zero, List.set_cons_succ]
                have lV2 : V1.heap.size < (V1.alloc (.cells #[.int .i64 n] 3)).heap.size := by simp
                have gV2 : V1.grownBy (V1.alloc (.cells #[.int .i64 n] 3)) none := World.grownBy_alloc _ _ _
                generalize V1.alloc (.cells #[.int .i64 n] 3) = V2 at *
                have rV2 : RowI V2 wr.heap.size (.slice (some ⟨V.heap.size, 0, none⟩) 0 0) [] := World.ownsRow.kept rV1 gV2 (.inr (by simp [Value.ownBlock]))
                refine wpAnyH_ready (rs := [4]) (by kernel_rfl) (by simp) (AllReadyH.cons (o := ⟨_, _, _, _, _, _⟩) rfl (fun K hK => ?_) AllReadyH.nil)
                refine step_append_i (by rfl) _ _ (by rfl) wr.heap.size (.slice (some ⟨V.heap.size, 0, none⟩) 0 0) [] (by rfl) rV2 ⟨g, 0, none⟩ k cap (E.take k) (by rfl) (by simp <;> omega) (news_take (hr.below bV2)) (by simp <;> omega) bV2.size ?_
                intro v4 V3 r4 k4
                have bV3 : Below wr.heap.size wr V3 := bV2.grown k4 bV2.size (fun j e => (World.ownsRow.lt rV2 j e).1)
                refine hK.out _ _ (trivial) (fun hHeld => ?_)
                clear hK K
                try simp only [Act.put, List.setIfInBounds_toArray, List.set_cons_zero, List.set_cons_succ]
                replace hN := news_keep hN k4 lV2 (by simp [Value.ownBlock]; omega)
                refine wpAnyH_ready (rs := [7]) (by kernel_rfl) (by simp) (AllReadyH.cons (o := ⟨_, _, _, _, _, _⟩) rfl (fun K hK => ?_) AllReadyH.nil)
                obtain ⟨p4, c4, rfl⟩ := r4.form
                refine step_append_i (by rfl) _ _ (by rfl) wr.heap.size (.slice p4 ([] ++ E.take k).length c4) ([] ++ E.take k) (by rfl) r4 ⟨V1.heap.size, 0, none⟩ 1 1 [n] (by rfl) rfl hN (by simp <;> omega) bV3.size ?_
                intro v5 U5 r5 k5
                have bU5 : Below wr.heap.size wr U5 := bV3.grown k5 bV3.size (fun j e => (World.ownsRow.lt r4 j e).1)
                refine hK.out _ _ (trivial) (fun hHeld => ?_)
                clear hK K
                try simp only [Act.put, List.setIfInBounds_toArray, List.set_cons_zero, List.set_cons_succ]
                refine wpAnyH_ready (rs := [11]) (by kernel_rfl) (by simp) (AllReadyH.cons (o := ⟨_, _, _, _, _, _⟩) rfl (fun K hK => ?_) AllReadyH.nil)
                obtain ⟨p5, c5, rfl⟩ := r5.form
                refine step_append_i (by rfl) _ _ (by rfl) wr.heap.size (.slice p5 ([] ++ E.take k ++ [n]).length c5) ([] ++ E.take k ++ [n]) (by rfl) r5 ⟨g, k, none⟩ (E.length - k) (cap - k) (E.drop k) (by rfl) (by simp) (news_drop (hr.below bU5)) (by simp <;> omega) bU5.size ?_
                intro v6 U6 r6 k6
                have bU6 : Below wr.heap.size wr U6 := bU5.grown k6 bU5.size (fun j e => (World.ownsRow.lt r5 j e).1)
                refine hK.out _ _ (trivial) (fun hHeld => ?_)
                clear hK K
                try simp only [Act.put, List.setIfInBounds_toArray, List.set_cons_zero, List.set_cons_succ]
                refine wpAnyH_take (i := 12) (oi := ⟨_, _, _, _, _, _⟩) (v := ?_) rfl (by kernel_rfl) (by kernel_rfl) (by kernel_rfl) (fun _ _ _ h => h) (Or.inl ⟨by rfl, ?_⟩) (by assumption) ?_
                rotate_left
                · (intro w hSw; (try dsimp only at hSw); go_simp; try with_reducible rfl)
                simp only [Act.put, List.setIfInBounds_toArray, List.set_cons_zero, List.set_cons_succ]
                refine wpAnyH_done (by kernel_rfl) ?_ _
                go_wp2_with fail
                go_ret
                exact ⟨_, rfl, _, r6.rd, by simpa using HE.out, bU6⟩
            · go_simp
              have bV1 : Below wr.heap.size wr (V.alloc (.cells #[.int .i64 n] 3)) := bV.more _
              have hN := news_one V n
              refine hK.out _ _ (trivial) (fun hHeld => ?_)
              clear hK K
              try simp only [Act.put, List.setIfInBounds_toArray, List.set_cons_zero, List.set_cons_succ]
              have lV1 : V.heap.size < (V.alloc (.cells #[.int .i64 n] 3)).heap.size := by simp
              have gV1 : V.grownBy (V.alloc (.cells #[.int .i64 n] 3)) none := World.grownBy_alloc _ _ _
              generalize V.alloc (.cells #[.int .i64 n] 3) = V1 at *
              refine wpAnyH_ready (rs := [0]) (by kernel_rfl) (by simp) (AllReadyH.cons (o := ⟨_, _, _, _, _, _⟩) rfl (fun K hK => ?_) AllReadyH.nil)
              go_simp
              have bV2 : Below wr.heap.size wr (V1.alloc (.cells #[] 3)) := bV1.more _
              have rV2 := (rowI_new V1).mono bV1.size
              refine hK.out _ _ (trivial) (fun hHeld => ?_)
              clear hK K
              try simp only [Act.put, List.setIfInBounds_toArray, List.set_cons_zero, List.set_cons_succ]
              have lV2 : V1.heap.size < (V1.alloc (.cells #[] 3)).heap.size := by simp
              have gV2 : V1.grownBy (V1.alloc (.cells #[] 3)) none := World.grownBy_alloc _ _ _
              generalize V1.alloc (.cells #[] 3) = V2 at *
              replace hN := news_keep hN gV2 lV1 (by simp)
              refine wpAnyH_ready (rs := [4]) (by kernel_rfl) (by simp) (AllReadyH.cons (o := ⟨_, _, _, _, _, _⟩) rfl (fun K hK => ?_) AllReadyH.nil)
              refine step_append_i (by rfl) _ _ (by rfl) wr.heap.size (.slice (some ⟨V1.heap.size, 0, none⟩) 0 0) [] (by rfl) rV2 ⟨g, 0, none⟩ k cap (E.take k) (by rfl) (by simp <;> omega) (news_take (hr.below bV2)) (by simp <;> omega) bV2.size ?_
              intro v4 V3 r4 k4
              have bV3 : Below wr.heap.size wr V3 := bV2.grown k4 bV2.size (fun j e => (World.ownsRow.lt rV2 j e).1)
              refine hK.out _ _ (trivial) (fun hHeld => ?_)
              clear hK K
              try simp only [Act.put, List.setIfInBounds_toArray, List.set_cons_zero, List.set_cons_succ]
              replace hN := news_keep hN k4 (Nat.lt_trans lV1 lV2) (by simp [Value.ownBlock]; omega)
              refine wpAnyH_ready (rs := [7]) (by kernel_rfl) (by simp) (AllReadyH.cons (o := ⟨_, _, _, _, _, _⟩) rfl (fun K hK => ?_) AllReadyH.nil)
              obtain ⟨p4, c4, rfl⟩ := r4.form
              refine step_append_i (by rfl) _ _ (by rfl) wr.heap.size (.slice p4 ([] ++ E.take k).length c4) ([] ++ E.take k) (by rfl) r4 ⟨V.heap.size, 0, none⟩ 1 1 [n] (by rfl) rfl hN (by simp <;> omega) bV3.size ?_
              intro v5 U5 r5 k5
              have bU5 : Below wr.heap.size wr U5 := bV3.grown k5 bV3.size (fun j e => (World.ownsRow.lt r4 j e).1)
              refine hK.out _ _ (trivial) (fun hHeld => ?_)
              clear hK K
              try simp only [Act.put, List.setIfInBounds_toArray, List.set_cons_zero, List.set_cons_succ]
              refine wpAnyH_ready (rs := [11]) (by kernel_rfl) (by simp) (AllReadyH.cons (o := ⟨_, _, _, _, _, _⟩) rfl (fun K hK => ?_) AllReadyH.nil)
              obtain ⟨p5, c5, rfl⟩ := r5.form
              refine step_append_i (by rfl) _ _ (by rfl) wr.heap.size (.slice p5 ([] ++ E.take k ++ [n]).length c5) ([] ++ E.take k ++ [n]) (by rfl) r5 ⟨g, k, none⟩ (E.length - k) (cap - k) (E.drop k) (by rfl) (by simp) (news_drop (hr.below bU5)) (by simp <;> omega) bU5.size ?_
              intro v6 U6 r6 k6
              have bU6 : Below wr.heap.size wr U6 := bU5.grown k6 bU5.size (fun j e => (World.ownsRow.lt r5 j e).1)
              refine hK.out _ _ (trivial) (fun hHeld => ?_)
              clear hK K
              try simp only [Act.put, List.setIfInBounds_toArray, List.set_cons_zero, List.set_cons_succ]
              refine wpAnyH_take (i := 12) (oi := ⟨_, _, _, _, _, _⟩) (v := ?_) rfl (by kernel_rfl) (by kernel_rfl) (by kernel_rfl) (fun _ _ _ h => h) (Or.inl ⟨by rfl, ?_⟩) (by assumption) ?_
              rotate_left
              · (intro w hSw; (try dsimp only at hSw); go_simp; try with_reducible rfl)
              simp only [Act.put, List.setIfInBounds_toArray, List.set_cons_zero, List.set_cons_succ]
              refine wpAnyH_done (by kernel_rfl) ?_ _
              go_wp2_with fail
              go_ret
              exact ⟨_, rfl, _, r6.rd, by simpa using HE.out, bU6⟩
    · obtain rfl : k = E.length := by omega
      clear hlt
      by_cases hbig : n > 65535
      · have HE : Hid (PutOf E n E) := put_same HP.out (.inl hbig)
        go_wp2
        go_ret
        exact ⟨_, rfl, E, hr, HE.out, Below.refl _ _⟩
      · have hd2 : decide (n > 65535) = false := decide_eq_false hbig
        have HE : Hid (PutOf E n (E.take E.length ++ [n] ++ E.drop E.length)) := put_new HP.out hk (by omega) hall.out (fun h => absurd h (Nat.lt_irrefl _))
        clear hbig hall HP
        go_wp2_with fail
        by_cases hck : cap = E.length
        · subst hck
          have hdr : E.drop E.length = [] := List.drop_length
          have bV : Below wr.heap.size wr wr.drew := (Below.refl _ _).drew
          refine wp_region_held_drew (S := fun _ => True) (by kernel_rfl) trivial (fun hHeld => ?_)
          refine wpAnyH_take (i := 1) (oi := ⟨_, _, _, _, _, _⟩) (v := ?_) rfl (by kernel_rfl) (by kernel_rfl) (by kernel_rfl) (fun _ _ _ h => h) (Or.inl ⟨by rfl, ?_⟩) (by assumption) ?_
          rotate_left
          · (intro w hSw; (try dsimp only at hSw); go_simp; try with_reducible rfl)
          simp only [Act.put, List.setIfInBounds_toArray, List.set_cons_zero, List.set_cons_succ]
          refine wpAnyH_take (i := 2) (oi := ⟨_, _, _, _, _, _⟩) (v := ?_) rfl (by kernel_rfl) (by kernel_rfl) (by kernel_rfl) (fun _ _ _ h => h) (Or.inl ⟨by rfl, ?_⟩) (by assumption) ?_
          rotate_left
          · (intro w hSw; (try dsimp only at hSw); go_simp; try with_reducible rfl)
          simp only [Act.put, List.setIfInBounds_toArray, List.set_cons_zero, List.set_cons_succ]
          refine wpAnyH_take (i := 3) (oi := ⟨_, _, _, _, _, _⟩) (v := ?_) rfl (by kernel_rfl) (by kernel_rfl) (by kernel_rfl) (fun _ _ _ h => h) (Or.inl ⟨by rfl, ?_⟩) (by assumption) ?_
          rotate_left
          · (intro w hSw; (try dsimp only at hSw); go_simp; try with_reducible rfl)
          simp only [Act.put, List.setIfInBounds_toArray, List.set_cons_zero, List.set_cons_succ]
          refine wpAnyH_take (i := 5) (oi := ⟨_, _, _, _, _, _⟩) (v := ?_) rfl (by kernel_rfl) (by kernel_rfl) (by kernel_rfl) (fun _ _ _ h => h) (Or.inl ⟨by rfl, ?_⟩) (by assumption) ?_
          rotate_left
          · (intro w hSw; (try dsimp only at hSw); go_simp; try with_reducible rfl)
          simp only [Act.put, List.setIfInBounds_toArray, List.set_cons_zero, List.set_cons_succ]
          refine wpAnyH_take (i := 8) (oi := ⟨_, _, _, _, _, _⟩) (v := ?_) rfl (by kernel_rfl) (by kernel_rfl) (by kernel_rfl) (fun _ _ _ h => h) (Or.inl ⟨by rfl, ?_⟩) (by assumption) ?_
          rotate_left
          · (intro w hSw; (try dsimp only at hSw); go_simp; try with_reducible rfl)
          simp only [Act.put, List.setIfInBounds_toArray, List.set_cons_zero, List.set_cons_succ]
          refine wpAnyH_take (i := 9) (oi := ⟨_, _, _, _, _, _⟩) (v := ?_) rfl (by kernel_rfl) (by kernel_rfl) (by kernel_rfl) (fun _ _ _ h => h) (Or.inl ⟨by rfl, ?_⟩) (by assumption) ?_
          rotate_left
          · (intro w hSw; (try dsimp only at hSw); go_simp; try with_reducible rfl)
          simp only [Act.put, List.setIfInBounds_toArray, List.set_cons_zero, List.set_cons_succ]
          refine wpAnyH_take (i := 10) (oi := ⟨_, _, _, _, _, _⟩) (v := ?_) rfl (by kernel_rfl) (by kernel_rfl) (by kernel_rfl) (fun _ _ _ h => h) (Or.inl ⟨by rfl, ?_⟩) (by assumption) ?_
          rotate_left
          · (intro w hSw; (try dsimp only at hSw); go_simp; try with_reducible rfl)
          simp only [Act.put, List.setIfInBounds_toArray, List.set_cons_zero, List.set_cons_succ]
          generalize wr.drew = V at *
          refine wpAnyH_ready (rs := [0, 6]) (by kernel_rfl) (by simp) (AllReadyH.cons (o := ⟨_, _, _, _, _, _⟩) rfl (fun K hK => ?_) (AllReadyH.cons (o := ⟨_, _, _, _, _, _⟩) rfl (fun K hK => ?_) AllReadyH.nil))
          · go_simp
            have bV1 : Below wr.heap.size wr (V.alloc (.cells #[] 3)) := bV.more _
            have rV1 := (rowI_new V).mono bV.size
            refine hK.out _ _ (trivial) (fun hHeld => ?_)
            clear hK K
            try simp only [Act.put, List.setIfInBounds_toArray, List.set_cons_zero, List.set_cons_succ]
            have lV1 : V.heap.size < (V.alloc (.cells #[] 3)).heap.size := by simp
            have gV1 : V.grownBy (V.alloc (.cells #[] 3)) none := World.grownBy_alloc _ _ _
            generalize V.alloc (.cells #[] 3) = V1 at *
            refine wpAnyH_ready (rs := [4, 6]) (by kernel_rfl) (by simp) (AllReadyH.cons (o := ⟨_, _, _, _, _, _⟩) rfl (fun K hK => ?_) (AllReadyH.cons (o := ⟨_, _, _, _, _, _⟩) rfl (fun K hK => ?_) AllReadyH.nil))
            · refine step_append_i (by rfl) _ _ (by rfl) wr.heap.size (.slice (some ⟨V.heap.size, 0, none⟩) 0 0) [] (by rfl) rV1 ⟨g, 0, none⟩ E.length E.length (E.take E.length) (by rfl) (by simp <;> omega) (news_take (hr.below bV1)) (by simp <;> omega) bV1.size ?_
              intro v4 V2 r4 k4
              have bV2 : Below wr.heap.size wr V2 := bV1.grown k4 bV1.size (fun j e => (World.ownsRow.lt rV1 j e).1)
              refine hK.out _ _ (trivial) (fun hHeld => ?_)
              clear hK K
              try simp only [Act.put, List.setIfInBounds_toArray, List.set_cons_zero, List.set_cons_succ]
              refine wpAnyH_ready (rs := [6]) (by kernel_rfl) (by simp) (AllReadyH.cons (o := ⟨_, _, _, _, _, _⟩) rfl (fun K hK => ?_) AllReadyH.nil)
              go_simp
              have bV3 : Below wr.heap.size wr (V2.alloc (.cells #[.int .i64 n] 3)) := bV2.more _
              have hN := news_one V2 n
              refine hK.out _ _ (trivial) (fun hHeld => ?_)
              clear hK K
              try simp only [Act.put, List.setIfInBounds_toArray, List.set_cons_zero, List.set_cons_succ]
              have lV3 : V2.heap.size < (V2.alloc (.cells #[.int .i64 n] 3)).heap.size := by simp
              have gV3 : V2.grownBy (V2.alloc (.cells #[.int .i64 n] 3)) none := World.grownBy_alloc _ _ _
              generalize V2.alloc (.cells #[.int .i64 n] 3) = V3 at *
              replace r4 := World.ownsRow.kept r4 gV3 (by cases h : Value.ownBlock v4 with | none => exact .inl rfl | some q => exact .inr (by simp))
              replace r4 : RowI V3 wr.heap.size v4 ([] ++ E.take E.length) := r4
              refine wpAnyH_ready (rs := [7]) (by kernel_rfl) (by simp) (AllReadyH.cons (o := ⟨_, _, _, _, _, _⟩) rfl (fun K hK => ?_) AllReadyH.nil)
              obtain ⟨p4, c4, rfl⟩ := r4.form
              refine step_append_i (by rfl) _ _ (by rfl) wr.heap.size (.slice p4 ([] ++ E.take E.length).length c4) ([] ++ E.take E.length) (by rfl) r4 ⟨V2.heap.size, 0, none⟩ 1 1 [n] (by rfl) rfl hN (by simp <;> omega) bV3.size ?_
              intro v5 U5 r5 k5
              have bU5 : Below wr.heap.size wr U5 := bV3.grown k5 bV3.size (fun j e => (World.ownsRow.lt r4 j e).1)
              refine hK.out _ _ (trivial) (fun hHeld => ?_)
              clear hK K
              try simp only [Act.put, List.setIfInBounds_toArray, List.set_cons_zero, List.set_cons_succ]
              refine wpAnyH_ready (rs := [11]) (by kernel_rfl) (by simp) (AllReadyH.cons (o := ⟨_, _, _, _, _, _⟩) rfl (fun K hK => ?_) AllReadyH.nil)
              obtain ⟨p5, c5, rfl⟩ := r5.form
              refine step_append_i (by rfl) _ _ (by rfl) wr.heap.size (.slice p5 ([] ++ E.take E.length ++ [n]).length c5) ([] ++ E.take E.length ++ [n]) (by rfl) r5 ⟨g, 0, none⟩ 0 0 (E.drop E.length) (by rfl) (by simp) (by rw [hdr]; intro j y hj; simp at hj) (by simp <;> omega) bU5.size ?_
              intro v6 U6 r6 k6
              have bU6 : Below wr.heap.size wr U6 := bU5.grown k6 bU5.size (fun j e => (World.ownsRow.lt r5 j e).1)
              refine hK.out _ _ (trivial) (fun hHeld => ?_)
              clear hK K
              try simp only [Act.put, List.setIfInBounds_toArray, List.set_cons_zero, List.set_cons_succ]
              refine wpAnyH_take (i := 12) (oi := ⟨_, _, _, _, _, _⟩) (v := ?_) rfl (by kernel_rfl) (by kernel_rfl) (by kernel_rfl) (fun _ _ _ h => h) (Or.inl ⟨by rfl, ?_⟩) (by assumption) ?_
              rotate_left
              · (intro w hSw; (try dsimp only at hSw); go_simp; try with_reducible rfl)
              simp only [Act.put, List.setIfInBounds_toArray, List.set_cons_zero, List.set_cons_succ]
              refine wpAnyH_done (by kernel_rfl) ?_ _
              go_wp2_with fail
              go_ret
              exact ⟨_, rfl, _, r6.rd, by simpa using HE.out, bU6⟩
            · go_simp
              have bV2 : Below wr.heap.size wr (V1.alloc (.cells #[.int .i64 n] 3)) := bV1.more _
              have hN := news_one V1 n
              refine hK.out _ _ (trivial) (fun hHeld => ?_)
              clear hK K
              try simp only [Act.put, List.setIfInBounds_toArray, List.set_cons_zero, List.set_cons_succ]
              have lV2 : V1.heap.size < (V1.alloc (.cells #[.int .i64 n] 3)).heap.size := by simp
              have gV2 : V1.grownBy (V1.alloc (.cells #[.int .i64 n] 3)) none := World.grownBy_alloc _ _ _
              generalize V1.alloc (.cells #[.int .i64 n] 3) = V2 at *
              have rV2 : RowI V2 wr.heap.size (.slice (some ⟨V.heap.size, 0, none⟩) 0 0) [] := World.ownsRow.kept rV1 gV2 (.inr (by simp [Value.ownBlock]))
              refine wpAnyH_ready (rs := [4]) (by kernel_rfl) (by simp) (AllReadyH.cons (o := ⟨_, _, _, _, _, _⟩) rfl (fun K hK => ?_) AllReadyH.nil)
              refine step_append_i (by rfl) _ _ (by rfl) wr.heap.size (.slice (some ⟨V.heap.size, 0, none⟩) 0 0) [] (by rfl) rV2 ⟨g, 0, none⟩ E.length E.length (E.take E.length) (by rfl) (by simp <;> omega) (news_take (hr.below bV2)) (by simp <;> omega) bV2.size ?_
              intro v4 V3 r4 k4
              have bV3 : Below wr.heap.size wr V3 := bV2.grown k4 bV2.size (fun j e => (World.ownsRow.lt rV2 j e).1)
              refine hK.out _ _ (trivial) (fun hHeld => ?_)
              clear hK K
              try simp only [Act.put, List.setIfInBounds_toArray, List.set_cons_zero, List.set_cons_succ]
              replace hN := news_keep hN k4 lV2 (by simp [Value.ownBlock]; omega)
              refine wpAnyH_ready (rs := [7]) (by kernel_rfl) (by simp) (AllReadyH.cons (o := ⟨_, _, _, _, _, _⟩) rfl (fun K hK => ?_) AllReadyH.nil)
              obtain ⟨p4, c4, rfl⟩ := r4.form
              refine step_append_i (by rfl) _ _ (by rfl) wr.heap.size (.slice p4 ([] ++ E.take E.length).length c4) ([] ++ E.take E.length) (by rfl) r4 ⟨V1.heap.size, 0, none⟩ 1 1 [n] (by rfl) rfl hN (by simp <;> omega) bV3.size ?_
              intro v5 U5 r5 k5
              have bU5 : Below wr.heap.size wr U5 := bV3.grown k5 bV3.size (fun j e => (World.ownsRow.lt r4 j e).1)
              refine hK.out _ _ (trivial) (fun hHeld => ?_)
              clear hK K
              try simp only [Act.put, List.setIfInBounds_toArray, List.set_cons_zero, List.set_cons_succ]
              refine wpAnyH_ready (rs := [11]) (by kernel_rfl) (by simp) (AllReadyH.cons (o := ⟨_, _, _, _, _, _⟩) rfl (fun K hK => ?_) AllReadyH.nil)
              obtain ⟨p5, c5, rfl⟩ := r5.form
              refine step_append_i (by rfl) _ _ (by rfl) wr.heap.size (.slice p5 ([] ++ E.take E.length ++ [n]).length c5) ([] ++ E.take E.length ++ [n]) (by rfl) r5 ⟨g, 0, none⟩ 0 0 (E.drop E.length) (by rfl) (by simp) (by rw [hdr]; intro j y hj; simp at hj) (by simp <;> omega) bU5.size ?_
              intro v6 U6 r6 k6
              have bU6 : Below wr.heap.size wr U6 := bU5.grown k6 bU5.size (fun j e => (World.ownsRow.lt r5 j e).1)
              refine hK.out _ _ (trivial) (fun hHeld => ?_)
              clear hK K
              try simp only [Act.put, List.setIfInBounds_toArray, List.set_cons_zero, List.set_cons_succ]
              refine wpAnyH_take (i := 12) (oi := ⟨_, _, _, _, _, _⟩) (v := ?_) rfl (by kernel_rfl) (by kernel_rfl) (by kernel_rfl) (fun _ _ _ h => h) (Or.inl ⟨by rfl, ?_⟩) (by assumption) ?_
              rotate_left
              · (intro w hSw; (try dsimp only at hSw); go_simp; try with_reducible rfl)
              simp only [Act.put, List.setIfInBounds_toArray, List.set_cons_zero, List.set_cons_succ]
              refine wpAnyH_done (by kernel_rfl) ?_ _
              go_wp2_with fail
              go_ret
              exact ⟨_, rfl, _, r6.rd, by simpa using HE.out, bU6⟩
          · go_simp
            have bV1 : Below wr.heap.size wr (V.alloc (.cells #[.int .i64 n] 3)) := bV.more _
            have hN := news_one V n
            refine hK.out _ _ (trivial) (fun hHeld => ?_)
            clear hK K
            try simp only [Act.put, List.setIfInBounds_toArray, List.set_cons_zero, List.set_cons_succ]
            have lV1 : V.heap.size < (V.alloc (.cells #[.int .i64 n] 3)).heap.size := by simp
            have gV1 : V.grownBy (V.alloc (.cells #[.int .i64 n] 3)) none := World.grownBy_alloc _ _ _
            generalize V.alloc (.cells #[.int .i64 n] 3) = V1 at *
            refine wpAnyH_ready (rs := [0]) (by kernel_rfl) (by simp) (AllReadyH.cons (o := ⟨_, _, _, _, _, _⟩) rfl (fun K hK => ?_) AllReadyH.nil)
            go_simp
            have bV2 : Below wr.heap.size wr (V1.alloc (.cells #[] 3)) := bV1.more _
            have rV2 := (rowI_new V1).mono bV1.size
            refine hK.out _ _ (trivial) (fun hHeld => ?_)
            clear hK K
            try simp only [Act.put, List.setIfInBounds_toArray, List.set_cons_zero, List.set_cons_succ]
            have lV2 : V1.heap.size < (V1.alloc (.cells #[] 3)).heap.size := by simp
            have gV2 : V1.grownBy (V1.alloc (.cells #[] 3)) none := World.grownBy_alloc _ _ _
            generalize V1.alloc (.cells #[] 3) = V2 at *
            replace hN := news_keep hN gV2 lV1 (by simp)
            refine wpAnyH_ready (rs := [4]) (by kernel_rfl) (by simp) (AllReadyH.cons (o := ⟨_, _, _, _, _, _⟩) rfl (fun K hK => ?_) AllReadyH.nil)
            refine step_append_i (by rfl) _ _ (by rfl) wr.heap.size (.slice (some ⟨V1.heap.size, 0, none⟩) 0 0) [] (by rfl) rV2 ⟨g, 0, none⟩ E.length E.length (E.take E.length) (by rfl) (by simp <;> omega) (news_take (hr.below bV2)) (by simp <;> omega) bV2.size ?_
            intro v4 V3 r4 k4
            have bV3 : Below wr.heap.size wr V3 := bV2.grown k4 bV2.size (fun j e => (World.ownsRow.lt rV2 j e).1)
            refine hK.out _ _ (trivial) (fun hHeld => ?_)
            clear hK K
            try simp only [Act.put, List.setIfInBounds_toArray, List.set_cons_zero, List.set_cons_succ]
            replace hN := news_keep hN k4 (Nat.lt_trans lV1 lV2) (by simp [Value.ownBlock]; omega)
            refine wpAnyH_ready (rs := [7]) (by kernel_rfl) (by simp) (AllReadyH.cons (o := ⟨_, _, _, _, _, _⟩) rfl (fun K hK => ?_) AllReadyH.nil)
            obtain ⟨p4, c4, rfl⟩ := r4.form
            refine step_append_i (by rfl) _ _ (by rfl) wr.heap.size (.slice p4 ([] ++ E.take E.length).length c4) ([] ++ E.take E.length) (by rfl) r4 ⟨V.heap.size, 0, none⟩ 1 1 [n] (by rfl) rfl hN (by simp <;> omega) bV3.size ?_
            intro v5 U5 r5 k5
            have bU5 : Below wr.heap.size wr U5 := bV3.grown k5 bV3.size (fun j e => (World.ownsRow.lt r4 j e).1)
            refine hK.out _ _ (trivial) (fun hHeld => ?_)
            clear hK K
            try simp only [Act.put, List.setIfInBounds_toArray, List.set_cons_zero, List.set_cons_succ]
            refine wpAnyH_ready (rs := [11]) (by kernel_rfl) (by simp) (AllReadyH.cons (o := ⟨_, _, _, _, _, _⟩) rfl (fun K hK => ?_) AllReadyH.nil)
            obtain ⟨p5, c5, rfl⟩ := r5.form
            refine step_append_i (by rfl) _ _ (by rfl) wr.heap.size (.slice p5 ([] ++ E.take E.length ++ [n]).length c5) ([] ++ E.take E.length ++ [n]) (by rfl) r5 ⟨g, 0, none⟩ 0 0 (E.drop E.length) (by rfl) (by simp) (by rw [hdr]; intro j y hj; simp at hj) (by simp <;> omega) bU5.size ?_
            intro v6 U6 r6 k6
            have bU6 : Below wr.heap.size wr U6 := bU5.grown k6 bU5.size (fun j e => (World.ownsRow.lt r5 j e).1)
            refine hK.out _ _ (trivial) (fun hHeld => ?_)
            clear hK K
            try simp only [Act.put, List.setIfInBounds_toArray, List.set_cons_zero, List.set_cons_succ]
            refine wpAnyH_take (i := 12) (oi := ⟨_, _, _, _, _, _⟩) (v := ?_) rfl (by kernel_rfl) (by kernel_rfl) (by kernel_rfl) (fun _ _ _ h => h) (Or.inl ⟨by rfl, ?_⟩) (by assumption) ?_
            rotate_left
            · (intro w hSw; (try dsimp only at hSw); go_simp; try with_reducible rfl)
            simp only [Act.put, List.setIfInBounds_toArray, List.set_cons_zero, List.set_cons_succ]
            refine wpAnyH_done (by kernel_rfl) ?_ _
            go_wp2_with fail
            go_ret
            exact ⟨_, rfl, _, r6.rd, by simpa using HE.out, bU6⟩
        · have hkc : E.length ≤ cap := hcap
          have hdr : E.drop E.length = [] := List.drop_length
          have bV : Below wr.heap.size wr wr.drew := (Below.refl _ _).drew
          refine wp_region_held_drew (S := fun _ => True) (by kernel_rfl) trivial (fun hHeld => ?_)
          refine wpAnyH_take (i := 1) (oi := ⟨_, _, _, _, _, _⟩) (v := ?_) rfl (by kernel_rfl) (by kernel_rfl) (by kernel_rfl) (fun _ _ _ h => h) (Or.inl ⟨by rfl, ?_⟩) (by assumption) ?_
          rotate_left
          · (intro w hSw; (try dsimp only at hSw); go_simp; try with_reducible rfl)
          simp only [Act.put, List.setIfInBounds_toArray, List.set_cons_zero, List.set_cons_succ]
          refine wpAnyH_take (i := 2) (oi := ⟨_, _, _, _, _, _⟩) (v := ?_) rfl (by kernel_rfl) (by kernel_rfl) (by kernel_rfl) (fun _ _ _ h => h) (Or.inl ⟨by rfl, ?_⟩) (by assumption) ?_
          rotate_left
          · (intro w hSw; (try dsimp only at hSw); go_simp; try with_reducible rfl)
          simp only [Act.put, List.setIfInBounds_toArray, List.set_cons_zero, List.set_cons_succ]
          refine wpAnyH_take (i := 3) (oi := ⟨_, _, _, _, _, _⟩) (v := ?_) rfl (by kernel_rfl) (by kernel_rfl) (by kernel_rfl) (fun _ _ _ h => h) (Or.inl ⟨by rfl, ?_⟩) (by assumption) ?_
          rotate_left
          · (intro w hSw; (try dsimp only at hSw); go_simp; try with_reducible rfl)
          simp only [Act.put, List.setIfInBounds_toArray, List.set_cons_zero, List.set_cons_succ]
          refine wpAnyH_take (i := 5) (oi := ⟨_, _, _, _, _, _⟩) (v := ?_) rfl (by kernel_rfl) (by kernel_rfl) (by kernel_rfl) (fun _ _ _ h => h) (Or.inl ⟨by rfl, ?_⟩) (by assumption) ?_
          rotate_left
          · (intro w hSw; (try dsimp only at hSw); go_simp; try with_reducible rfl)
          simp only [Act.put, List.setIfInBounds_toArray, List.set_cons_zero, List.set_cons_succ]
          refine wpAnyH_take (i := 8) (oi := ⟨_, _, _, _, _, _⟩) (v := ?_) rfl (by kernel_rfl) (by kernel_rfl) (by kernel_rfl) (fun _ _ _ h => h) (Or.inl ⟨by rfl, ?_⟩) (by assumption) ?_
          rotate_left
          · (intro w hSw; (try dsimp only at hSw); go_simp; try with_reducible rfl)
          simp only [Act.put, List.setIfInBounds_toArray, List.set_cons_zero, List.set_cons_succ]
          refine wpAnyH_take (i := 9) (oi := ⟨_, _, _, _, _, _⟩) (v := ?_) rfl (by kernel_rfl) (by kernel_rfl) (by kernel_rfl) (fun _ _ _ h => h) (Or.inl ⟨by rfl, ?_⟩) (by assumption) ?_
          rotate_left
          · (intro w hSw; (try dsimp only at hSw); go_simp; try with_reducible rfl)
          simp only [Act.put, List.setIfInBounds_toArray, List.set_cons_zero, List.set_cons_succ]
          refine wpAnyH_take (i := 10) (oi := ⟨_, _, _, _, _, _⟩) (v := ?_) rfl (by kernel_rfl) (by kernel_rfl) (by kernel_rfl) (fun _ _ _ h => h) (Or.inl ⟨by rfl, ?_⟩) (by assumption) ?_
          rotate_left
          · (intro w hSw; (try dsimp only at hSw); go_simp; try with_reducible rfl)
          simp only [Act.put, List.setIfInBounds_toArray, List.set_cons_zero, List.set_cons_succ]
          generalize wr.drew = V at *
          refine wpAnyH_ready (rs := [0, 6]) (by kernel_rfl) (by simp) (AllReadyH.cons (o := ⟨_, _, _, _, _, _⟩) rfl (fun K hK => ?_) (AllReadyH.cons (o := ⟨_, _, _, _, _, _⟩) rfl (fun K hK => ?_) AllReadyH.nil))
          · go_simp
            have bV1 : Below wr.heap.size wr (V.alloc (.cells #[] 3)) := bV.more _
            have rV1 := (rowI_new V).mono bV.size
            refine hK.out _ _ (trivial) (fun hHeld => ?_)
            clear hK K
            try simp only [Act.put, List.setIfInBounds_toArray, List.set_cons_zero, List.set_cons_succ]
            have lV1 : V.heap.size < (V.alloc (.cells #[] 3)).heap.size := by simp
            have gV1 : V.grownBy (V.alloc (.cells #[] 3)) none := World.grownBy_alloc _ _ _
            generalize V.alloc (.cells #[] 3) = V1 at *
            refine wpAnyH_ready (rs := [4, 6]) (by kernel_rfl) (by simp) (AllReadyH.cons (o := ⟨_, _, _, _, _, _⟩) rfl (fun K hK => ?_) (AllReadyH.cons (o := ⟨_, _, _, _, _, _⟩) rfl (fun K hK => ?_) AllReadyH.nil))
            · refine step_append_i (by rfl) _ _ (by rfl) wr.heap.size (.slice (some ⟨V.heap.size, 0, none⟩) 0 0) [] (by rfl) rV1 ⟨g, 0, none⟩ E.length cap (E.take E.length) (by rfl) (by simp <;> omega) (news_take (hr.below bV1)) (by simp <;> omega) bV1.size ?_
              intro v4 V2 r4 k4
              have bV2 : Below wr.heap.size wr V2 := bV1.grown k4 bV1.size (fun j e => (World.ownsRow.lt rV1 j e).1)
              refine hK.out _ _ (trivial) (fun hHeld => ?_)
              clear hK K
              try simp only [Act.put, List.setIfInBounds_toArray, List.set_cons_zero, List.set_cons_succ]
              refine wpAnyH_ready (rs := [6]) (by kernel_rfl) (by simp) (AllReadyH.cons (o := ⟨_, _, _, _, _, _⟩) rfl (fun K hK => ?_) AllReadyH.nil)
              go_simp
              have bV3 : Below wr.heap.size wr (V2.alloc (.cells #[.int .i64 n] 3)) := bV2.more _
              have hN := news_one V2 n
              refine hK.out _ _ (trivial) (fun hHeld => ?_)
              clear hK K
              try simp only [Act.put, List.setIfInBounds_toArray, List.set_cons_zero, List.set_cons_succ]
              have lV3 : V2.heap.size < (V2.alloc (.cells #[.int .i64 n] 3)).heap.size := by simp
              have gV3 : V2.grownBy (V2.alloc (.cells #[.int .i64 n] 3)) none := World.grownBy_alloc _ _ _
              generalize V2.alloc (.cells #[.int .i64 n] 3) = V3 at *
              replace r4 := World.ownsRow.kept r4 gV3 (by cases h : Value.ownBlock v4 with | none => exact .inl rfl | some q => exact .inr (by simp))
              replace r4 : RowI V3 wr.heap.size v4 ([] ++ E.take E.length) := r4
              refine wpAnyH_ready (rs := [7]) (by kernel_rfl) (by simp) (AllReadyH.cons (o := ⟨_, _, _, _, _, _⟩) rfl (fun K hK => ?_) AllReadyH.nil)
              obtain ⟨p4, c4, rfl⟩ := r4.form
              refine step_append_i (by rfl) _ _ (by rfl) wr.heap.size (.slice p4 ([] ++ E.take E.length).length c4) ([] ++ E.take E.length) (by rfl) r4 ⟨V2.heap.size, 0, none⟩ 1 1 [n] (by rfl) rfl hN (by simp <;> omega) bV3.size ?_
              intro v5 U5 r5 k5
              have bU5 : Below wr.heap.size wr U5 := bV3.grown k5 bV3.size (fun j e => (World.ownsRow.lt r4 j e).1)
              refine hK.out _ _ (trivial) (fun hHeld => ?_)
              clear hK K
              try simp only [Act.put, List.setIfInBounds_toArray, List.set_cons_zero, List.set_cons_succ]
              refine wpAnyH_ready (rs := [11]) (by kernel_rfl) (by simp) (AllReadyH.cons (o := ⟨_, _, _, _, _, _⟩) rfl (fun K hK => ?_) AllReadyH.nil)
              obtain ⟨p5, c5, rfl⟩ := r5.form
              refine step_append_i (by rfl) _ _ (by rfl) wr.heap.size (.slice p5 ([] ++ E.take E.length ++ [n]).length c5) ([] ++ E.take E.length ++ [n]) (by rfl) r5 ⟨g, E.length, none⟩ 0 (cap - E.length) (E.drop E.length) (by rfl) (by simp) (by rw [hdr]; intro j y hj; simp at hj) (by simp <;> omega) bU5.size ?_
              intro v6 U6 r6 k6
              have bU6 : Below wr.heap.size wr U6 := bU5.grown k6 bU5.size (fun j e => (World.ownsRow.lt r5 j e).1)
              refine hK.out _ _ (trivial) (fun hHeld => ?_)
              clear hK K
              try simp only [Act.put, List.setIfInBounds_toArray, List.set_cons_zero, List.set_cons_succ]
              refine wpAnyH_take (i := 12) (oi := ⟨_, _, _, _, _, _⟩) (v := ?_) rfl (by kernel_rfl) (by kernel_rfl) (by kernel_rfl) (fun _ _ _ h => h) (Or.inl ⟨by rfl, ?_⟩) (by assumption) ?_
              rotate_left
              · (intro w hSw; (try dsimp only at hSw); go_simp; try with_reducible rfl)
              simp only [Act.put, List.setIfInBounds_toArray, List.set_cons_zero, List.set_cons_succ]
              refine wpAnyH_done (by kernel_rfl) ?_ _
              go_wp2_with fail
              go_ret
              exact ⟨_, rfl, _, r6.rd, by simpa using HE.out, bU6⟩
            · go_simp
              have bV2 : Below wr.heap.size wr (V1.alloc (.cells #[.int .i64 n] 3)) := bV1.more _
              have hN := news_one V1 n
              refine hK.out _ _ (trivial) (fun hHeld => ?_)
              clear hK K
              try simp only [Act.put, List.setIfInBounds_toArray, List.set_cons_zero, List.set_cons_succ]
              have lV2 : V1.heap.size < (V1.alloc (.cells #[.int .i64 n] 3)).heap.size := by simp
              have gV2 : V1.grownBy (V1.alloc (.cells #[.int .i64 n] 3)) none := World.grownBy_alloc _ _ _
              generalize V1.alloc (.cells #[.int .i64 n] 3) = V2 at *
              have rV2 : RowI V2 wr.heap.size (.slice (some ⟨V.heap.size, 0, none⟩) 0 0) [] := World.ownsRow.kept rV1 gV2 (.inr (by simp [Value.ownBlock]))
              refine wpAnyH_ready (rs := [4]) (by kernel_rfl) (by simp) (AllReadyH.cons (o := ⟨_, _, _, _, _, _⟩) rfl (fun K hK => ?_) AllReadyH.nil)
              refine step_append_i (by rfl) _ _ (by rfl) wr.heap.size (.slice (some ⟨V.heap.size, 0, none⟩) 0 0) [] (by rfl) rV2 ⟨g, 0, none⟩ E.length cap (E.take E.length) (by rfl) (by simp <;> omega) (news_take (hr.below bV2)) (by simp <;> omega) bV2.size ?_
              intro v4 V3 r4 k4
              have bV3 : Below wr.heap.size wr V3 := bV2.grown k4 bV2.size (fun j e => (World.ownsRow.lt rV2 j e).1)
              refine hK.out _ _ (trivial) (fun hHeld => ?_)
              clear hK K
              try simp only [Act.put, List.setIfInBounds_toArray, List.set_cons_zero, List.set_cons_succ]
              replace hN := news_keep hN k4 lV2 (by simp [Value.ownBlock]; omega)
              refine wpAnyH_ready (rs := [7]) (by kernel_rfl) (by simp) (AllReadyH.cons (o := ⟨_, _, _, _, _, _⟩) rfl (fun K hK => ?_) AllReadyH.nil)
              obtain ⟨p4, c4, rfl⟩ := r4.form
              refine step_append_i (by rfl) _ _ (by rfl) wr.heap.size (.slice p4 ([] ++ E.take E.length).length c4) ([] ++ E.take E.length) (by rfl) r4 ⟨V1.heap.size, 0, none⟩ 1 1 [n] (by rfl) rfl hN (by simp <;> omega) bV3.size ?_
              intro v5 U5 r5 k5
              have bU5 : Below wr.heap.size wr U5 := bV3.grown k5 bV3.size (fun j e => (World.ownsRow.lt r4 j e).1)
              refine hK.out _ _ (trivial) (fun hHeld => ?_)
              clear hK K
              try simp only [Act.put, List.setIfInBounds_toArray, List.set_cons_zero, List.set_cons_succ]
              refine wpAnyH_ready (rs := [11]) (by kernel_rfl) (by simp) (AllReadyH.cons (o := ⟨_, _, _, _, _, _⟩) rfl (fun K hK => ?_) AllReadyH.nil)
              obtain ⟨p5, c5, rfl⟩ := r5.form
              refine step_append_i (by rfl) _ _ (by rfl) wr.heap.size (.slice p5 ([] ++ E.take E.length ++ [n]).length c5) ([] ++ E.take E.length ++ [n]) (by rfl) r5 ⟨g, E.length, none⟩ 0 (cap - E.length) (E.drop E.length) (by rfl) (by simp) (by rw [hdr]; intro j y hj; simp at hj) (by simp <;> omega) bU5.size ?_
              intro v6 U6 r6 k6
              have bU6 : Below wr.heap.size wr U6 := bU5.grown k6 bU5.size (fun j e => (World.ownsRow.lt r5 j e).1)
              refine hK.out _ _ (trivial) (fun hHeld => ?_)
              clear hK K
              try simp only [Act.put, List.setIfInBounds_toArray, List.set_cons_zero, List.set_cons_succ]
              refine wpAnyH_take (i := 12) (oi := ⟨_, _, _, _, _, _⟩) (v := ?_) rfl (by kernel_rfl) (by kernel_rfl) (by kernel_rfl) (fun _ _ _ h => h) (Or.inl ⟨by rfl, ?_⟩) (by assumption) ?_
              rotate_left
              · (intro w hSw; (try dsimp only at hSw); go_simp; try with_reducible rfl)
              simp only [Act.put, List.setIfInBounds_toArray, List.set_cons_zero, List.set_cons_succ]
              refine wpAnyH_done (by kernel_rfl) ?_ _
              go_wp2_with fail
              go_ret
              exact ⟨_, rfl, _, r6.rd, by simpa using HE.out, bU6⟩
          · go_simp
            have bV1 : Below wr.heap.size wr (V.alloc (.cells #[.int .i64 n] 3)) := bV.more _
            have hN := news_one V n
            refine hK.out _ _ (trivial) (fun hHeld => ?_)
            clear hK K
            try simp only [Act.put, List.setIfInBounds_toArray, List.set_cons_zero, List.set_cons_succ]
            have lV1 : V.heap.size < (V.alloc (.cells #[.int .i64 n] 3)).heap.size := by simp
            have gV1 : V.grownBy (V.alloc (.cells #[.int .i64 n] 3)) none := World.grownBy_alloc _ _ _
            generalize V.alloc (.cells #[.int .i64 n] 3) = V1 at *
            refine wpAnyH_ready (rs := [0]) (by kernel_rfl) (by simp) (AllReadyH.cons (o := ⟨_, _, _, _, _, _⟩) rfl (fun K hK => ?_) AllReadyH.nil)
            go_simp
            have bV2 : Below wr.heap.size wr (V1.alloc (.cells #[] 3)) := bV1.more _
            have rV2 := (rowI_new V1).mono bV1.size
            refine hK.out _ _ (trivial) (fun hHeld => ?_)
            clear hK K
            try simp only [Act.put, List.setIfInBounds_toArray, List.set_cons_zero, List.set_cons_succ]
            have lV2 : V1.heap.size < (V1.alloc (.cells #[] 3)).heap.size := by simp
            have gV2 : V1.grownBy (V1.alloc (.cells #[] 3)) none := World.grownBy_alloc _ _ _
            generalize V1.alloc (.cells #[] 3) = V2 at *
            replace hN := news_keep hN gV2 lV1 (by simp)
            refine wpAnyH_ready (rs := [4]) (by kernel_rfl) (by simp) (AllReadyH.cons (o := ⟨_, _, _, _, _, _⟩) rfl (fun K hK => ?_) AllReadyH.nil)
            refine step_append_i (by rfl) _ _ (by rfl) wr.heap.size (.slice (some ⟨V1.heap.size, 0, none⟩) 0 0) [] (by rfl) rV2 ⟨g, 0, none⟩ E.length cap (E.take E.length) (by rfl) (by simp <;> omega) (news_take (hr.below bV2)) (by simp <;> omega) bV2.size ?_
            intro v4 V3 r4 k4
            have bV3 : Below wr.heap.size wr V3 := bV2.grown k4 bV2.size (fun j e => (World.ownsRow.lt rV2 j e).1)
            refine hK.out _ _ (trivial) (fun hHeld => ?_)
            clear hK K
            try simp only [Act.put, List.setIfInBounds_toArray, List.set_cons_zero, List.set_cons_succ]
            replace hN := news_keep hN k4 (Nat.lt_trans lV1 lV2) (by simp [Value.ownBlock]; omega)
            refine wpAnyH_ready (rs := [7]) (by kernel_rfl) (by simp) (AllReadyH.cons (o := ⟨_, _, _, _, _, _⟩) rfl (fun K hK => ?_) AllReadyH.nil)
            obtain ⟨p4, c4, rfl⟩ := r4.form
            refine step_append_i (by rfl) _ _ (by rfl) wr.heap.size (.slice p4 ([] ++ E.take E.length).length c4) ([] ++ E.take E.length) (by rfl) r4 ⟨V.heap.size, 0, none⟩ 1 1 [n] (by rfl) rfl hN (by simp <;> omega) bV3.size ?_
            intro v5 U5 r5 k5
            have bU5 : Below wr.heap.size wr U5 := bV3.grown k5 bV3.size (fun j e => (World.ownsRow.lt r4 j e).1)
            refine hK.out _ _ (trivial) (fun hHeld => ?_)
            clear hK K
            try simp only [Act.put, List.setIfInBounds_toArray, List.set_cons_zero, List.set_cons_succ]
            refine wpAnyH_ready (rs := [11]) (by kernel_rfl) (by simp) (AllReadyH.cons (o := ⟨_, _, _, _, _, _⟩) rfl (fun K hK => ?_) AllReadyH.nil)
            obtain ⟨p5, c5, rfl⟩ := r5.form
            refine step_append_i (by rfl) _ _ (by rfl) wr.heap.size (.slice p5 ([] ++ E.take E.length ++ [n]).length c5) ([] ++ E.take E.length ++ [n]) (by rfl) r5 ⟨g, E.length, none⟩ 0 (cap - E.length) (E.drop E.length) (by rfl) (by simp) (by rw [hdr]; intro j y hj; simp at hj) (by simp <;> omega) bU5.size ?_
            intro v6 U6 r6 k6
            have bU6 : Below wr.heap.size wr U6 := bU5.grown k6 bU5.size (fun j e => (World.ownsRow.lt r5 j e).1)
            refine hK.out _ _ (trivial) (fun hHeld => ?_)
            clear hK K
            try simp only [Act.put, List.setIfInBounds_toArray, List.set_cons_zero, List.set_cons_succ]
            refine wpAnyH_take (i := 12) (oi := ⟨_, _, _, _, _, _⟩) (v := ?_) rfl (by kernel_rfl) (by kernel_rfl) (by kernel_rfl) (fun _ _ _ h => h) (Or.inl ⟨by rfl, ?_⟩) (by assumption) ?_
            rotate_left
            · (intro w hSw; (try dsimp only at hSw); go_simp; try with_reducible rfl)
            simp only [Act.put, List.setIfInBounds_toArray, List.set_cons_zero, List.set_cons_succ]
            refine wpAnyH_done (by kernel_rfl) ?_ _
            go_wp2_with fail
            go_ret
            exact ⟨_, rfl, _, r6.rd, by simpa using HE.out, bU6⟩
end Go.Proofs.Ytaoahghfmlegbaa
