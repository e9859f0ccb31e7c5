/- The model's l4Least. -/
import Derived.Test.YtaoahghfmlegbaaSp4
namespace Go.Proofs.Ytaoahghfmlegbaa
open Go.RowKit Go.Lib

theorem flatR_one (L : List Ru) : ∀ u ∈ flatR L, u.oneCell' = true := by
  intro u hu
  unfold flatR at hu
  rw [List.mem_flatMap] at hu
  obtain ⟨r, _, hr⟩ := hu
  simp [ruC] at hr
  rcases hr with rfl | rfl | rfl | rfl | rfl | rfl <;> rfl
theorem news_rules {w : World} {g n cap : Nat} {L : List Ru} (h : RdR w (.slice (some ⟨g, 0, none⟩) n cap) L) : ∀ j u, (flatR L)[j]? = some u → w.cell? ((⟨g, 0, none⟩ : Addr).add j) = some u := by
  intro j u hu
  rw [add_zoff]
  have hj : j < L.length * 6 := by rw [← flatR_len]; exact (List.getElem?_eq_some_iff.1 hu).1
  have hi : j / 6 < L.length := by omega
  obtain ⟨g', e, _, _, hc⟩ := h.at hi
  cases e
  have h1 := flatR_at L (j / 6) L[j / 6] (List.getElem?_eq_getElem hi) (j % 6) (by omega)
  have e : j / 6 * 6 + j % 6 = j := by omega
  rw [e, hu] at h1
  generalize L[j / 6] = r at *
  obtain ⟨c0, c1, c2, c3, c4, c5⟩ := hc
  have : j % 6 = 0 ∨ j % 6 = 1 ∨ j % 6 = 2 ∨ j % 6 = 3 ∨ j % 6 = 4 ∨ j % 6 = 5 := by omega
  rcases this with q | q | q | q | q | q <;> (rw [q] at e h1; simp [ruC] at h1; subst h1; rw [← e]; assumption)
theorem rowR_nil (w : World) : RowR (w.alloc (.cells #[] 48)) w.heap.size (.slice (some ⟨w.heap.size, 0, none⟩) 0 0) [] := World.ownsRow_lit w #[] 0 (Nat.le_refl _) (by decide) rfl
theorem infoRS : (Try.prog.info? 48).map (fun i => (i.zero, i.size, i.bytes)) = some (some (.agg #[.bool false, .int .i64 0, .int .i64 0, .int .i64 0, .int .i64 0, .int .i64 0]), 6, 48) := by kernel_rfl
theorem box3n (w : World) (f t n : Int) (ty : TypeId) : (w.alloc (.cells #[.int .i64 f, .int .i64 t, .int .i64 n] ty)).cell? ⟨w.heap.size, 0, none⟩ = some (.int .i64 f) ∧ (w.alloc (.cells #[.int .i64 f, .int .i64 t, .int .i64 n] ty)).cell? ⟨w.heap.size, 1, none⟩ = some (.int .i64 t) ∧ (w.alloc (.cells #[.int .i64 f, .int .i64 t, .int .i64 n] ty)).cell? ⟨w.heap.size, 2, none⟩ = some (.int .i64 n) := by simp
theorem app_below {w W W' : World} {v : Value} {n : Nat} {xs : List Value} {e : TypeId} {size : Nat} (hb : Below w.heap.size w W) (hg : W.grownBy W' v.ownBlock) (hr : W.ownsRow w.heap.size e size v n xs) : Below w.heap.size w W' := hb.grown hg hb.size (fun j e => (World.ownsRow.lt hr j e).1)
theorem row_first {w : World} {b : Nat} {v : Value} {A : List Ru} (h : w.ownsRow b 48 6 v (0 + A.length) ([] ++ flatR A)) : RowR w b v A := by unfold RowR; simpa using h
theorem row_both {w : World} {b : Nat} {v : Value} {A B : List Ru} (h : w.ownsRow b 48 6 v (A.length + B.length) (flatR A ++ flatR B)) : RowR w b v (A ++ B) := by unfold RowR; rw [List.length_append, flatR_app]; exact h
/-- a packet told, or none -/
abbrev pkO (r : Option Pk) : Value := .tuple #[pkV (r.getD (0, 0, 0)), .bool r.isSome]

set_option maxRecDepth 100000 in
set_option maxHeartbeats 4000000 in
theorem least_any (A B : List Ru) (at' : Int) (gA cA gB cB : Nat) (w : World) (hA : RdR w (.slice (some ⟨gA, 0, none⟩) A.length cA) A) (hB : RdR w (.slice (some ⟨gB, 0, none⟩) B.length cB) B) (oA : ∀ r ∈ A, okR r = true) (oB : ∀ r ∈ B, okR r = true) (lA : A.length ≤ 100) (lB : B.length ≤ 100) :
    Calls Try.prog 62 #[.slice (some ⟨gA, 0, none⟩) A.length cA, .slice (some ⟨gB, 0, none⟩) B.length cB, .int .i64 at'] w fun e w' => ∃ r, e = .returned (pkO r) ∧ IsLeast (fun p => soB A B at' p = true) r ∧ Below w.heap.size w w' := by
  obtain ⟨i0, hi, hz0, hz1, hz2⟩ := info_parts infoRS
  have CS := fun W f t n h1 h2 => so_any A B at' f t n (.slice (some ⟨gA, 0, none⟩) A.length cA) (.slice (some ⟨gB, 0, none⟩) B.length cB) W h1 h2 oA oB (by omega) (by omega)
  have oAB : ∀ r ∈ A ++ B, okR r = true := fun r hr => by rcases List.mem_append.1 hr with h | h; exact oA r h; exact oB r h
  clear oA oB
  have HB : Below (w.alloc (.cells #[.int .i64 0, .int .i64 0, .int .i64 0] 42)).heap.size (w.alloc (.cells #[.int .i64 0, .int .i64 0, .int .i64 0] 42)) (w.alloc (.cells #[.int .i64 0, .int .i64 0, .int .i64 0] 42)) := Below.refl _ _
  have HX : Below w.heap.size w (w.alloc (.cells #[.int .i64 0, .int .i64 0, .int .i64 0] 42)) := (Below.refl _ _).more _
  have hX1 : w.heap.size < (w.alloc (.cells #[.int .i64 0, .int .i64 0, .int .i64 0] 42)).heap.size := by simp
  have hX2 := box3n w 0 0 0 42
  have hX3 : ∀ j, (w.alloc (.cells #[.int .i64 0, .int .i64 0, .int .i64 0] 42)).frozen? ⟨w.heap.size, j, none⟩ = false := fun j => fz_new _ _ _ _
  have HB2 := HB.more (.cells #[] 48)
  have q2 : ((w.alloc (.cells #[.int .i64 0, .int .i64 0, .int .i64 0] 42)).heap.size ≤ ((w.alloc (.cells #[.int .i64 0, .int .i64 0, .int .i64 0] 42)).alloc (.cells #[] 48)).heap.size) := by simp
  have hA1 := hA.below (HX.more (.cells #[] 48))
  have hB1 := hB.below (HX.more (.cells #[] 48))
  have r0 : RowR ((w.alloc (.cells #[.int .i64 0, .int .i64 0, .int .i64 0] 42)).alloc (.cells #[] 48)) (w.alloc (.cells #[.int .i64 0, .int .i64 0, .int .i64 0] 42)).heap.size (.slice (some ⟨w.heap.size + 1, 0, none⟩) 0 0) [] := by
    have := rowR_nil (w.alloc (.cells #[.int .i64 0, .int .i64 0, .int .i64 0] 42))
    rw [World.size_alloc] at this ⊢
    exact this
  go_enter Try.func62, Try.ntmps62
  go_wp2_with (first | (at_builtin; have hg0 := r0; clear hg0; refine wpList_append_own _ rfl _ _ 40 rfl (w.alloc (.cells #[.int .i64 0, .int .i64 0, .int .i64 0] 42)).heap.size 48 i0 (.agg #[.bool false, .int .i64 0, .int .i64 0, .int .i64 0, .int .i64 0, .int .i64 0]) 6 48 Try.underlying40 hi hz0 hz1 hz2 rfl (by decide) _ _ _ rfl r0 ⟨gA, 0, none⟩ A.length cA (flatR A) rfl (flatR_len A) (news_rules hA1) (flatR_one A) (by unfold maxLen; simp; omega) (by simp; omega) q2 ?_; intro v1 W1 hown1 hgrow1 _; have b1 := app_below HB2 hgrow1 r0; have r1 : RowR W1 (w.alloc (.cells #[.int .i64 0, .int .i64 0, .int .i64 0] 42)).heap.size v1 A := row_first hown1; obtain ⟨p1, c1, rfl⟩ := r1.rd.form; have hB2 := hB.below (below_then HX b1); have q3 := b1.size; clear hown1 hgrow1 hA1 hB1 q2 r0 HB2) | (at_builtin; have hg0 := r1; clear hg0; refine wpList_append_own _ rfl _ _ 40 rfl (w.alloc (.cells #[.int .i64 0, .int .i64 0, .int .i64 0] 42)).heap.size 48 i0 (.agg #[.bool false, .int .i64 0, .int .i64 0, .int .i64 0, .int .i64 0, .int .i64 0]) 6 48 Try.underlying40 hi hz0 hz1 hz2 rfl (by decide) _ _ _ rfl r1 ⟨gB, 0, none⟩ B.length cB (flatR B) rfl (flatR_len B) (news_rules hB2) (flatR_one B) (by unfold maxLen; omega) (by omega) q3 ?_; intro v2 W2 hown2 hgrow2 _; have b2 := app_below b1 hgrow2 r1; have r2 : RowR W2 (w.alloc (.cells #[.int .i64 0, .int .i64 0, .int .i64 0] 42)).heap.size v2 (A ++ B) := row_both hown2; obtain ⟨p2, c2, rfl⟩ := r2.rd.form; rw [List.length_append] at r2; clear hown2 hgrow2 r1 b1 hB2 q3))
  go_wp2_with (go_at_call 85; refine (fromsR_any (A ++ B) _ _ r2.rd (by simp; omega)).mono ?_; rintro e W3 ⟨v3, rfl, r3, hb3⟩; have b3 := below_then b2 hb3; replace r2 := r2.below hb3; clear b2 hb3)
  go_wp2_with (go_at_call 84; refine (firsts_any ((A ++ B).map fun r => r.2.1) _ _ r3.rd (fun q hq => by obtain ⟨r, hr, rfl⟩ := List.mem_map.1 hq; exact (okR_of (oAB r hr)).1) (by simp; omega)).mono ?_; rintro e W4 ⟨v4, rfl, F, rF, fF, hb4⟩; have b4 := below_then b3 hb4; replace r2 := r2.below hb4; clear r3 b3 hb4)
  go_wp2_with (go_at_call 86; refine (tosR_any (A ++ B) _ _ r2.rd (by simp; omega)).mono ?_; rintro e W5 ⟨v5, rfl, r5, hb5⟩; have b5 := below_then b4 hb5; replace rF := rF.below hb5; clear b4 hb5)
  go_wp2_with (go_at_call 84; refine (firsts_any ((A ++ B).map fun r => r.2.2.1) _ _ r5.rd (fun q hq => by obtain ⟨r, hr, rfl⟩ := List.mem_map.1 hq; exact (okR_of (oAB r hr)).2.1) (by simp; omega)).mono ?_; rintro e W6 ⟨v6, rfl, T, rT, fT, hb6⟩; have b6 := below_then b5 hb6; replace rF := rF.below hb6; clear r2 r5 b5 hb6)
  obtain ⟨pF, cF, rfl⟩ := rF.form
  obtain ⟨gF, rfl, _, hgF, zF⟩ := rF.at (firsts_pos fF)
  clear zF
  obtain ⟨pT, cT, rfl⟩ := rT.form
  obtain ⟨gT, rfl, _, hgT, zT⟩ := rT.at (firsts_pos fT)
  clear zT
  have hres : ∀ W, Below W6.heap.size W6 W → (W.cell? ⟨w.heap.size, 0, none⟩ = some (.int .i64 0) ∧ W.cell? ⟨w.heap.size, 1, none⟩ = some (.int .i64 0) ∧ W.cell? ⟨w.heap.size, 2, none⟩ = some (.int .i64 0)) ∧ ∀ j, W.frozen? ⟨w.heap.size, j, none⟩ = false := fun W h => by
    have hb := below_then b6 h
    refine ⟨⟨(hb.cell (p := ⟨w.heap.size, 0, none⟩) hX1).trans hX2.1, (hb.cell (p := ⟨w.heap.size, 1, none⟩) hX1).trans hX2.2.1, (hb.cell (p := ⟨w.heap.size, 2, none⟩) hX1).trans hX2.2.2⟩, fun j => (hb.frozen (p := ⟨w.heap.size, j, none⟩) hX1).trans (hX3 j)⟩
  have hbw : ∀ W, Below W6.heap.size W6 W → Below w.heap.size w W := fun W h => below_then HX (below_then b6 h)
  have hAll : Hid (∀ r, Found F T kinds (fun p => soB A B at' p = true) r → IsLeast (fun p => soB A B at' p = true) r) := fun r hr => found_least hr (edF_ok oAB fF) (edT_ok oAB fT) (kinds_cov _) (fun p q _ _ h => so_same h)
  have hFp : Hid (F.Pairwise (· < ·)) := fF.1
  have hTp : Hid (T.Pairwise (· < ·)) := fT.1
  have lF : F.length ≤ 1000 := by have := fF.2.2; simp at this; omega
  have lT : T.length ≤ 1000 := by have := fT.2.2; simp at this; omega
  have hwW : w.heap.size < W6.heap.size := cell_lt (hres W6 (Below.refl _ _)).1.1
  clear fF fT oAB hX2 hX3 hX1 HX b6 HB
  go_loopw [11] (fun i wr => ∃ x : Nat, x ≤ F.length ∧ i = .int .i64 x ∧ Hid (∀ i' (h : i' < F.length), i' < x → ∀ t ∈ T, ∀ c ∈ kinds, ¬ soB A B at' (F[i'], t, c) = true) ∧ Below W6.heap.size W6 wr) (fun i _ => F.length - (intOf i).toNat)
  case atStart => exact ⟨0, Nat.zero_le _, rfl, fun i' _ h => absurd h (Nat.not_lt_zero _), Below.refl _ _⟩
  case round =>
    obtain ⟨x, hx, rfl, n1, hB1⟩ := hrel
    by_cases hltx : x < F.length
    · go_wp2_with fail
      go_loopw [12] (fun i wr => ∃ y : Nat, y ≤ T.length ∧ i = .int .i64 y ∧ Hid (∀ j' (h : j' < T.length), j' < y → ∀ c ∈ kinds, ¬ soB A B at' (F[x], T[j'], c) = true) ∧ Below W6.heap.size W6 wr) (fun i _ => T.length - (intOf i).toNat)
      case atStart => exact ⟨0, Nat.zero_le _, rfl, fun i' _ h => absurd h (Nat.not_lt_zero _), hB1⟩
      case round =>
        obtain ⟨y, hy, rfl, n2, hB2⟩ := hrel
        by_cases hlty : y < T.length
        · go_wp2_with fail
          go_loopw [13] (fun i wr => ∃ d : Nat, 1 ≤ d ∧ d ≤ 8 ∧ i = .int .i64 d ∧ Hid (∀ c : Nat, 1 ≤ c → c < d → ¬ soB A B at' (F[x], T[y], (c : Int)) = true) ∧ Below W6.heap.size W6 wr) (fun i _ => 8 - (intOf i).toNat)
          case atStart => exact ⟨1, Nat.le_refl _, by omega, rfl, fun c h1 h2 => absurd h2 (by omega), hB2⟩
          case round =>
            obtain ⟨d, hd1, hd8, rfl, n3, hB3⟩ := hrel
            by_cases hltd : d ≤ 7
            · have hd7 : (d : Int) ≤ 7 := by omega
              obtain ⟨_, e1, _, _, cf⟩ := (rF.below hB3).at hltx
              cases e1
              obtain ⟨_, e2, _, _, ct⟩ := (rT.below hB3).at hlty
              cases e2
              have hgF3 := Nat.lt_of_lt_of_le hgF hB3.size
              have hgT3 := Nat.lt_of_lt_of_le hgT hB3.size
              obtain ⟨f, hFx⟩ : ∃ f, F[x] = f := ⟨_, rfl⟩
              obtain ⟨t, hTy⟩ : ∃ t, T[y] = t := ⟨_, rfl⟩
              rw [hFx] at cf
              rw [hTy] at ct
              have sc : ∀ w', Below wr.heap.size wr w' → (fun w' => w'.cell? ⟨gF, x, none⟩ = some (.int .i64 f) ∧ w'.cell? ⟨gT, y, none⟩ = some (.int .i64 t)) w' := fun w' h => ⟨(h.cell (p := ⟨gF, x, none⟩) hgF3).trans cf, (h.cell (p := ⟨gT, y, none⟩) hgT3).trans ct⟩
              have HFx : Hid (F[x] = f) := hFx
              have HTy : Hid (T[y] = t) := hTy
              clear hFx hTy
              go_wp2_with fail
              have b0 : Below wr.heap.size wr wr.drew := (Below.refl _ _).drew
              refine wp_region_held_drew (S := fun w' => w'.cell? ⟨gF, x, none⟩ = some (.int .i64 f) ∧ w'.cell? ⟨gT, y, none⟩ = some (.int .i64 t)) (by kernel_rfl) (sc _ b0) (fun hHeld => ?_)
              refine wpAnyH_take (i := 0) (oi := ⟨_, _, _, _, _, _⟩) (v := ?_) rfl (by kernel_rfl) (by kernel_rfl) (by kernel_rfl) (fun _ _ _ h => h) (Or.inl ⟨by rfl, ?_⟩) (by assumption) ?_
              rotate_left
              · (intro w hSw; (try dsimp only at hSw); go_simp; try with_reducible rfl)
              simp only [Act.put, List.setIfInBounds_toArray, List.set_cons_zero, List.set_cons_succ]
              refine wpAnyH_take (i := 1) (oi := ⟨_, _, _, _, _, _⟩) (v := ?_) rfl (by kernel_rfl) (by kernel_rfl) (by kernel_rfl) (fun _ _ _ h => h) (Or.inl ⟨by rfl, ?_⟩) (by assumption) ?_
              rotate_left
              · (intro w hSw; (try dsimp only at hSw); go_simp; try with_reducible rfl)
              simp only [Act.put, List.setIfInBounds_toArray, List.set_cons_zero, List.set_cons_succ]
              refine wpAnyH_take (i := 2) (oi := ⟨_, _, _, _, _, _⟩) (v := ?_) rfl (by kernel_rfl) (by kernel_rfl) (by kernel_rfl) (fun _ _ _ h => h) (Or.inl ⟨by rfl, ?_⟩) (by assumption) ?_
              rotate_left
              · (intro w hSw; (try dsimp only at hSw); go_simp; try with_reducible rfl)
              simp only [Act.put, List.setIfInBounds_toArray, List.set_cons_zero, List.set_cons_succ]
              refine wpAnyH_take (i := 3) (oi := ⟨_, _, _, _, _, _⟩) (v := ?_) rfl (by kernel_rfl) (by kernel_rfl) (by kernel_rfl) (fun _ _ _ h => h) (Or.inl ⟨by rfl, ?_⟩) (by assumption) ?_
              rotate_left
              · (intro w hSw; (try dsimp only at hSw); go_simp; try with_reducible rfl)
              simp only [Act.put, List.setIfInBounds_toArray, List.set_cons_zero, List.set_cons_succ]
              refine wpAnyH_take (i := 4) (oi := ⟨_, _, _, _, _, _⟩) (v := ?_) rfl (by kernel_rfl) (by kernel_rfl) (by kernel_rfl) (fun _ _ _ h => h) (Or.inl ⟨by rfl, ?_⟩) (by assumption) ?_
              rotate_left
              · (intro w hSw; (try dsimp only at hSw); go_simp; try with_reducible rfl)
              simp only [Act.put, List.setIfInBounds_toArray, List.set_cons_zero, List.set_cons_succ]
              refine wpAnyH_take (i := 5) (oi := ⟨_, _, _, _, _, _⟩) (v := ?_) rfl (by kernel_rfl) (by kernel_rfl) (by kernel_rfl) (fun _ _ _ h => h) (Or.inl ⟨by rfl, ?_⟩) (by assumption) ?_
              rotate_left
              · (intro w hSw; (try dsimp only at hSw); go_simp; try with_reducible rfl)
              simp only [Act.put, List.setIfInBounds_toArray, List.set_cons_zero, List.set_cons_succ]
              refine wpAnyH_take (i := 6) (oi := ⟨_, _, _, _, _, _⟩) (v := ?_) rfl (by kernel_rfl) (by kernel_rfl) (by kernel_rfl) (fun _ _ _ h => h) (Or.inl ⟨by rfl, ?_⟩) (by assumption) ?_
              rotate_left
              · (intro w hSw; (try dsimp only at hSw); go_simp; try with_reducible rfl)
              simp only [Act.put, List.setIfInBounds_toArray, List.set_cons_zero, List.set_cons_succ]
              refine wpAnyH_take (i := 7) (oi := ⟨_, _, _, _, _, _⟩) (v := ?_) rfl (by kernel_rfl) (by kernel_rfl) (by kernel_rfl) (fun _ _ _ h => h) (Or.inl ⟨by rfl, ?_⟩) (by assumption) ?_
              rotate_left
              · (intro w hSw; (try dsimp only at hSw); go_simp; try with_reducible rfl)
              simp only [Act.put, List.setIfInBounds_toArray, List.set_cons_zero, List.set_cons_succ]
              refine wpAnyH_take (i := 8) (oi := ⟨_, _, _, _, _, _⟩) (v := ?_) rfl (by kernel_rfl) (by kernel_rfl) (by kernel_rfl) (fun _ _ _ h => h) (Or.inl ⟨by rfl, ?_⟩) (by assumption) ?_
              rotate_left
              · (intro w hSw; (try dsimp only at hSw); go_simp; try with_reducible rfl)
              simp only [Act.put, List.setIfInBounds_toArray, List.set_cons_zero, List.set_cons_succ]
              refine wpAnyH_take (i := 9) (oi := ⟨_, _, _, _, _, _⟩) (v := ?_) rfl (by kernel_rfl) (by kernel_rfl) (by kernel_rfl) (fun _ _ _ h => h) (Or.inl ⟨by rfl, ?_⟩) (by assumption) ?_
              rotate_left
              · (intro w hSw; (try dsimp only at hSw); go_simp; try with_reducible rfl)
              simp only [Act.put, List.setIfInBounds_toArray, List.set_cons_zero, List.set_cons_succ]
              refine wpAnyH_ready (rs := [10]) (by kernel_rfl) (by simp) (AllReadyH.cons (o := ⟨_, _, _, _, _, _⟩) rfl (fun K hK => ?_) AllReadyH.nil)
              go_simp
              refine hK.out _ _ (sc _ (b0.more _)) (fun hHeld => ?_)
              clear hK K
              try simp only [Act.put, List.setIfInBounds_toArray, List.set_cons_zero, List.set_cons_succ]
              refine wpAnyH_ready (rs := [11]) (by kernel_rfl) (by simp) (AllReadyH.cons (o := ⟨_, _, _, _, _, _⟩) rfl (fun K hK => ?_) AllReadyH.nil)
              go_simp
              have bn : Below wr.heap.size wr (wr.alloc (.cells #[.int .i64 f, .int .i64 t, .int .i64 (d : Int)] 42)).drew := ((Below.refl _ _).more _).drew
              refine hK.out _ _ (sc _ bn) (fun hHeld => ?_)
              clear hK K
              try simp only [Act.put, List.setIfInBounds_toArray, List.set_cons_zero, List.set_cons_succ]
              refine wpAnyH_done (by kernel_rfl) ?_ _
              have bx : (wr.alloc (.cells #[.int .i64 f, .int .i64 t, .int .i64 (d : Int)] 42)).drew.cell? ⟨wr.heap.size, 0, none⟩ = some (.int .i64 f) ∧ (wr.alloc (.cells #[.int .i64 f, .int .i64 t, .int .i64 (d : Int)] 42)).drew.cell? ⟨wr.heap.size, 1, none⟩ = some (.int .i64 t) ∧ (wr.alloc (.cells #[.int .i64 f, .int .i64 t, .int .i64 (d : Int)] 42)).drew.cell? ⟨wr.heap.size, 2, none⟩ = some (.int .i64 (d : Int)) := by simp
              generalize (wr.alloc (.cells #[.int .i64 f, .int .i64 t, .int .i64 (d : Int)] 42)).drew = V3 at *
              obtain ⟨x0, x1, x2⟩ := bx
              have hV3 := below_then hB3 bn
              have hxl := cell_lt x0
              have C := CS V3 f t d (hA.below (hbw _ hV3)) (hB.below (hbw _ hV3))
              clear sc b0 hHeld bn cf ct hgF3 hgT3
              cases hso : soB A B at' (f, t, (d : Int)) with
              | false =>
                rw [hso] at C
                have N3 : Hid (∀ c : Nat, 1 ≤ c → c < d + 1 → ¬ soB A B at' (F[x], T[y], (c : Int)) = true) := fun c h1 h2 => by
                  by_cases e : c = d
                  · subst e; rw [HFx.out, HTy.out, hso]; simp
                  · exact n3.out c h1 (by omega)
                clear hso n3
                go_wp2_with (go_at_call 87; refine C.mono ?_; clear C; rintro e w4 ⟨rfl, hb4⟩)
                go_roundw
                case rel => exact ⟨d + 1, by omega, by omega, rfl, N3, below_then hV3 hb4⟩
                case measure => simp [intOf]; omega
              | true =>
                rw [hso] at C
                have hkl : d - 1 < kinds.length := by rw [kinds_len]; omega
                have hkd : kinds[d - 1] = (d : Int) := by rw [kinds_at]; omega
                have hFnd : Found F T kinds (fun p => soB A B at' p = true) (some (F[x], T[y], kinds[d - 1])) := found_at hFp.out hTp.out kinds_asc hltx hlty hkl (by show soB A B at' (F[x], T[y], kinds[d - 1]) = true; rw [hkd, HFx.out, HTy.out]; exact hso) n1.out n2.out (fun k' hk' hlt' => by
                  show ¬ soB A B at' (F[x], T[y], kinds[k']) = true
                  have := n3.out (k' + 1) (by omega) (by omega)
                  rw [kinds_at]
                  exact this)
                have hL := hAll.out _ hFnd
                rw [hkd, HFx.out, HTy.out] at hL
                have HL : Hid (IsLeast (fun p => soB A B at' p = true) (some (f, t, (d : Int)))) := hL
                clear hL hFnd hkd hkl hso n1 n2 n3 hAll HFx HTy
                go_wp2_with (go_at_call 87; refine C.mono ?_; clear C; rintro e w4 ⟨rfl, hb4⟩; have y0 := (hb4.cell (p := ⟨wr.heap.size, 0, none⟩) hxl).trans x0; have y1 := (hb4.cell (p := ⟨wr.heap.size, 1, none⟩) hxl).trans x1; have y2 := (hb4.cell (p := ⟨wr.heap.size, 2, none⟩) hxl).trans x2; have hV4 := below_then hV3 hb4; obtain ⟨⟨z0, z1, z2⟩, zf⟩ := hres _ hV4; clear x0 x1 x2)
                refine bodyPost_ret (v := pkO (some (f, t, (d : Int)))) (by simp [results, Try.results62, go_sem, z0, z1, z2]) rfl ⟨_, rfl, HL.out, ?_⟩
                exact (((hbw _ hV4).setCell (p := ⟨w.heap.size, 0, none⟩) (Nat.le_refl _) _).setCell (p := ⟨w.heap.size, 1, none⟩) (Nat.le_refl _) _).setCell (p := ⟨w.heap.size, 2, none⟩) (Nat.le_refl _) _
            · obtain rfl : d = 8 := by omega
              have N2 : Hid (∀ j' (h : j' < T.length), j' < y + 1 → ∀ c ∈ kinds, ¬ soB A B at' (F[x], T[j'], c) = true) := fun j' hj' hlt' c hc => by
                by_cases e : j' = y
                · subst e
                  have hc' := (kinds_mem c).1 hc
                  have h3 := n3.out c.toNat (by omega) (by omega)
                  rwa [show ((c.toNat : Nat) : Int) = c by omega] at h3
                · exact n2.out j' hj' (by omega) c hc
              clear n2 n3
              go_wp2
              go_roundw
              case rel => exact ⟨y + 1, hlty, rfl, N2, hB3⟩
              case measure => simp [intOf]; omega
        · obtain rfl : y = T.length := by omega
          have N1 : Hid (∀ i' (h : i' < F.length), i' < x + 1 → ∀ t ∈ T, ∀ c ∈ kinds, ¬ soB A B at' (F[i'], t, c) = true) := fun i' hi' hlt' t ht c hc => by
            by_cases e : i' = x
            · subst e
              obtain ⟨j', hj', rfl⟩ := List.getElem_of_mem ht
              exact n2.out j' hj' hj' c hc
            · exact n1.out i' hi' (by omega) t ht c hc
          clear n1 n2
          go_wp2
          go_roundw
          case rel => exact ⟨x + 1, hltx, rfl, N1, hB2⟩
          case measure => simp [intOf]; omega
    · obtain rfl : x = F.length := by omega
      have HL : Hid (IsLeast (fun p => soB A B at' p = true) none) := hAll.out _ (found_none fun i' hi' t ht c hc => n1.out i' hi' hi' t ht c hc)
      obtain ⟨⟨z0, z1, z2⟩, zf⟩ := hres _ hB1
      clear n1 hAll
      go_wp2
      refine bodyPost_ret (v := pkO none) (by simp [results, Try.results62, go_sem, z0, z1, z2]) rfl ⟨_, rfl, HL.out, ?_⟩
      exact (((hbw _ hB1).setCell (p := ⟨w.heap.size, 0, none⟩) (Nat.le_refl _) _).setCell (p := ⟨w.heap.size, 1, none⟩) (Nat.le_refl _) _).setCell (p := ⟨w.heap.size, 2, none⟩) (Nat.le_refl _) _
end Go.Proofs.Ytaoahghfmlegbaa
