/- The model's l3Part: the fewest prefixes, half by half. -/
import Derived.Test.YtaoahghfmlegbaaSome
import Derived.Test.YtaoahghfmlegbaaL1h
import Derived.Test.YtaoahghfmlegbaaToS
import Derived.BigQuiet
namespace Go.Proofs.Ytaoahghfmlegbaa
open Go.RowKit Go.Lib

/-- a list in a row of its own that is not nil -/
def RowS (w : World) (b g cap : Nat) (L : List (Int × Int)) : Prop := Row w b (.slice (some ⟨g, 0, none⟩) L.length cap) L
theorem rows_lit {W : World} {b : Nat} (hb : b ≤ W.heap.size) (a l : Int) : RowS (W.alloc (.cells #[.int .i64 a, .int .i64 l] 31)) b W.heap.size 1 [(a, l)] :=
  World.ownsRow_lit W #[.int .i64 a, .int .i64 l] 1 hb (by decide) rfl
theorem rows_none {W : World} {b : Nat} (hb : b ≤ W.heap.size) : RowS (W.alloc (.cells #[] 31)) b W.heap.size 0 [] :=
  World.ownsRow_lit W #[] 0 hb (by decide) rfl
theorem rows_ge {w : World} {b g cap : Nat} {L : List (Int × Int)} (h : RowS w b g cap L) : b ≤ g ∧ g < w.heap.size := World.ownsRow.lt h g rfl
theorem rows_one {w : World} {b g cap : Nat} {L : List (Int × Int)} (h : RowS w b g cap L) (hl : L.length = 1) : ∃ x y, L = [(x, y)] ∧ w.cell? ⟨g, 0, none⟩ = some (.int .i64 x) ∧ w.cell? ⟨g, 1, none⟩ = some (.int .i64 y) := by
  match L, hl with
  | [(x, y)], _ =>
    have h0 := World.ownsRow.cellAt h 0 (by simp)
    have h1 := World.ownsRow.cellAt h 1 (by simp)
    exact ⟨x, y, rfl, h0, h1⟩
/-- two rows put together -/
theorem rows_app {w' : World} {b : Nat} {X Y : List (Int × Int)} {v' : Value} (hown : w'.ownsRow b 31 2 v' (X.length + Y.length) (flat X ++ flat Y)) (hnil : ¬ v' = .slice none 0 0) :
    ∃ g' cap', v' = .slice (some ⟨g', 0, none⟩) (X ++ Y).length cap' ∧ RowS w' b g' cap' (X ++ Y) := by
  have hown' : w'.ownsRow b 31 2 v' (X ++ Y).length (flat (X ++ Y)) := by rw [List.length_append, flat_app]; exact hown
  rcases hown'.2 with ⟨hv, _⟩ | ⟨g', cap', cur, hv, _⟩
  · exact absurd hv hnil
  · exact ⟨g', cap', hv, by unfold RowS Row; rw [← hv]; exact hown'⟩
theorem flat_one {L : List (Int × Int)} : ∀ u ∈ flat L, u.oneCell' = true := by
  intro u hu
  unfold flat at hu
  rw [List.mem_flatMap] at hu
  obtain ⟨q, _, hq⟩ := hu
  simp at hq
  rcases hq with rfl | rfl <;> rfl
theorem agg_ne {x y a l : Int} (h : ¬ (x = a ∧ y = l)) : (x == a && y == l) = false := by
  cases e : (x == a && y == l) with
  | false => rfl
  | true => simp at e; exact absurd e h

set_option maxRecDepth 100000 in
set_option maxHeartbeats 4000000 in
/-- one step: its halves by their contracts -/
theorem part_go (L O : List (Int × Int)) (hL : allOk L = true) (hO : allOk O = true) (nL : L.length ≤ 40) (nO : O.length ≤ 40) (k : Nat) (a l : Int) (vL vO : Value) (w : World) (hp : okP a l = true) (hk : (16 - l).toNat = k) (rL : Rd w vL L) (rO : Rd w vO O)
    (ih : l < 16 → (∀ w, Rd w vL L → Rd w vO O → Calls Try.prog 47 #[.agg #[.int .i64 a, .int .i64 (l + 1)], vL, vO] w fun e w' => ∃ g cap, e = .returned (.slice (some ⟨g, 0, none⟩) (few (setOf L O) (16 - (l + 1)).toNat a).length cap) ∧ RowS w' w.heap.size g cap (few (setOf L O) (16 - (l + 1)).toNat a) ∧ Below w.heap.size w w') ∧
      (∀ w, Rd w vL L → Rd w vO O → Calls Try.prog 47 #[.agg #[.int .i64 (a + sz (l + 1)), .int .i64 (l + 1)], vL, vO] w fun e w' => ∃ g cap, e = .returned (.slice (some ⟨g, 0, none⟩) (few (setOf L O) (16 - (l + 1)).toNat (a + sz (l + 1))).length cap) ∧ RowS w' w.heap.size g cap (few (setOf L O) (16 - (l + 1)).toNat (a + sz (l + 1))) ∧ Below w.heap.size w w')) :
    Calls Try.prog 47 #[.agg #[.int .i64 a, .int .i64 l], vL, vO] w fun e w' => ∃ g cap, e = .returned (.slice (some ⟨g, 0, none⟩) (few (setOf L O) k a).length cap) ∧ RowS w' w.heap.size g cap (few (setOf L O) k a) ∧ Below w.heap.size w w' := by
  subst hk
  obtain ⟨pL, cL, rfl⟩ := rL.form
  obtain ⟨pO, cO, rfl⟩ := rO.form
  have b0 : Below w.heap.size w (w.alloc (.cells #[.int .i64 a, .int .i64 l] 31)) := (Below.refl _ _).more _
  have sL : ∀ w', Below (w.alloc (.cells #[.int .i64 a, .int .i64 l] 31)).heap.size (w.alloc (.cells #[.int .i64 a, .int .i64 l] 31)) w' → Calls Try.prog 73 #[.slice pL L.length cL, .agg #[.int .i64 a, .int .i64 l]] w' fun e w'' => e = .returned (.tuple #[.bool (around L a l), .bool (inside L a l)]) ∧ Below w'.heap.size w' w'' :=
    fun w' h => l3some_any L a l _ w' ((rL.below b0).below h) hL hp nL
  have sO : ∀ w', Below (w.alloc (.cells #[.int .i64 a, .int .i64 l] 31)).heap.size (w.alloc (.cells #[.int .i64 a, .int .i64 l] 31)) w' → Calls Try.prog 73 #[.slice pO O.length cO, .agg #[.int .i64 a, .int .i64 l]] w' fun e w'' => e = .returned (.tuple #[.bool (around O a l), .bool (inside O a l)]) ∧ Below w'.heap.size w' w'' :=
    fun w' h => l3some_any O a l _ w' ((rO.below b0).below h) hO hp nO
  have F1 : Hid ((around O a l = true ∨ (around L a l = false ∧ inside L a l = false)) → few (setOf L O) (16 - l).toNat a = []) := part_none hL hO hp
  have F2 : Hid (around L a l = true → around O a l = false → inside O a l = false → few (setOf L O) (16 - l).toNat a = [(a, l)]) := part_all hL hO hp
  have F3 : Hid (¬ (around O a l = true ∨ (around L a l = false ∧ inside L a l = false)) → ¬ (around L a l = true ∧ inside O a l = false) → l < 16) := part_deep hL hO hp
  have HP : Hid (0 ≤ l ∧ l ≤ 16 ∧ 0 ≤ a ∧ a ≤ 65535 ∧ a % sz l = 0) := okP_of hp
  have IH : Hid _ := ih
  have HB := Below.refl (w.alloc (.cells #[.int .i64 a, .int .i64 l] 31)).heap.size (w.alloc (.cells #[.int .i64 a, .int .i64 l] 31))
  have RL : Hid (Rd w (.slice pL L.length cL) L) := rL
  have RO : Hid (Rd w (.slice pO O.length cO) O) := rO
  obtain ⟨i0, hi, hz0, hz1, hz2⟩ := info_parts infoP
  clear hp ih rL rO
  generalize around L a l = iL at *
  generalize inside L a l = sm at *
  generalize around O a l = gn at *
  generalize inside O a l = ho at *
  cases gn with
  | true =>
    have E : Hid (few (setOf L O) (16 - l).toNat a = []) := F1.out (by simp)
    clear F1 F2 F3 IH RL RO
    go_enter Try.func47, Try.ntmps47
    go_wp2_with (first
          | (go_at_call_of 73 cL; refine (sL _ HB).mono ?_; rintro e w1 ⟨rfl, hb⟩; replace HB := below_then HB hb; obtain ⟨hc, hf⟩ := bcell HB; clear sL)
          | (go_at_call_of 73 cO; refine (sO _ HB).mono ?_; rintro e w2 ⟨rfl, hb⟩; replace HB := below_then HB hb; obtain ⟨hc, hf⟩ := bcell HB; clear sO))
    go_ret
    rw [E.out]
    exact ⟨_, _, rfl, rows_none (below_then b0 HB).size, (below_then b0 HB).more _⟩
  | false =>
    cases iL with
    | false =>
      cases sm with
      | false =>
        have E : Hid (few (setOf L O) (16 - l).toNat a = []) := F1.out (by simp)
        clear F1 F2 F3 IH RL RO
        go_enter Try.func47, Try.ntmps47
        go_wp2_with (first
              | (go_at_call_of 73 cL; refine (sL _ HB).mono ?_; rintro e w1 ⟨rfl, hb⟩; replace HB := below_then HB hb; obtain ⟨hc, hf⟩ := bcell HB; clear sL)
              | (go_at_call_of 73 cO; refine (sO _ HB).mono ?_; rintro e w2 ⟨rfl, hb⟩; replace HB := below_then HB hb; obtain ⟨hc, hf⟩ := bcell HB; clear sO))
        go_ret
        rw [E.out]
        exact ⟨_, _, rfl, rows_none (below_then b0 HB).size, (below_then b0 HB).more _⟩
      | true =>
        have hl : l < 16 := F3.out (by simp) (by simp)
        have E : Hid _ := part_step (L := L) (O := O) (a := a) HP.out.1 hl
        obtain ⟨ih1, ih2⟩ := IH.out hl
        have sx := few_small (setOf L O) (l := l + 1) a (by have := HP.out.1; omega)
        have sy := few_small (setOf L O) (l := l + 1) (a + sz (l + 1)) (by have := HP.out.1; omega)
        generalize few (setOf L O) (16 - (l + 1)).toNat a = X at *
        generalize few (setOf L O) (16 - (l + 1)).toNat (a + sz (l + 1)) = Y at *
        have hh := fun w => halves_any a l w HP.out.1 (by omega) HP.out.2.2.1 HP.out.2.2.2.1
        generalize sz (l + 1) = z at *
        clear F1 F2 F3 IH
        go_enter Try.func47, Try.ntmps47
        go_wp2_with (first
              | (go_at_call_of 73 cL; refine (sL _ HB).mono ?_; rintro e w1 ⟨rfl, hb⟩; replace HB := below_then HB hb; obtain ⟨hc, hf⟩ := bcell HB; clear sL)
              | (go_at_call_of 73 cO; refine (sO _ HB).mono ?_; rintro e w2 ⟨rfl, hb⟩; replace HB := below_then HB hb; obtain ⟨hc, hf⟩ := bcell HB; clear sO))
        go_wp2_with (go_at_call 42; refine (hh _).mono ?_; rintro e w3 ⟨rfl, hb⟩; replace HB := below_then HB hb; clear hh)
        have Q := two_new w3 (.int .i64 a) (.int .i64 (l + 1)) (.int .i64 (a + z)) (.int .i64 (l + 1)) 31
        have HB4 := (HB.more (.cells #[.int .i64 a, .int .i64 (l + 1)] 31)).more (.cells #[.int .i64 (a + z), .int .i64 (l + 1)] 31)
        have hz4 : w3.heap.size + 1 < ((w3.alloc (.cells #[.int .i64 a, .int .i64 (l + 1)] 31)).alloc (.cells #[.int .i64 (a + z), .int .i64 (l + 1)] 31)).heap.size := by simp
        generalize (w3.alloc (.cells #[.int .i64 a, .int .i64 (l + 1)] 31)).alloc (.cells #[.int .i64 (a + z), .int .i64 (l + 1)] 31) = W4 at *
        obtain ⟨g1, g2, g3, g4, _⟩ := Q
        have hz3 := Nat.lt_of_succ_lt hz4
        clear hc hf HB
        go_wp2_with (go_at_call 47; refine (ih1 _ ((RL.out.below b0).below HB4) ((RO.out.below b0).below HB4)).mono ?_; clear ih1; rintro e w5 ⟨gx, cx, rfl, rX, hb5⟩; obtain ⟨hc5, _⟩ := bcell hb5)
        go_wp2_with (go_at_call 47; refine (ih2 _ ((RL.out.below b0).below (below_then HB4 hb5)) ((RO.out.below b0).below (below_then HB4 hb5))).mono ?_; clear ih2; rintro e w6 ⟨gy, cy, rfl, rY, hb6⟩)
        have HB6 : Below w.heap.size w w6 := below_then (below_then (below_then b0 HB4) hb5) hb6
        have rX6 : RowS w6 w.heap.size gx cx X := (Row.below (Row.mono rX (below_then b0 HB4).size) hb6)
        have rY6 : RowS w6 w.heap.size gy cy Y := Row.mono rY (below_then (below_then b0 HB4) hb5).size
        have B6 := below_then hb5 hb6
        have q1 : w6.cell? ⟨w3.heap.size, 0, none⟩ = some (.int .i64 a) := by rw [B6.cell (p := ⟨w3.heap.size, 0, none⟩) hz3]; exact g1
        have q2 : w6.cell? ⟨w3.heap.size, 1, none⟩ = some (.int .i64 (l + 1)) := by rw [B6.cell (p := ⟨w3.heap.size, 1, none⟩) hz3]; exact g2
        have q3 : w6.cell? ⟨w3.heap.size + 1, 0, none⟩ = some (.int .i64 (a + z)) := by rw [B6.cell (p := ⟨w3.heap.size + 1, 0, none⟩) hz4]; exact g3
        have q4 : w6.cell? ⟨w3.heap.size + 1, 1, none⟩ = some (.int .i64 (l + 1)) := by rw [B6.cell (p := ⟨w3.heap.size + 1, 1, none⟩) hz4]; exact g4
        have q5 : w6.cell? ⟨w.heap.size, 0, none⟩ = some (.int .i64 a) := by rw [(below_then HB4 B6).cell (p := ⟨w.heap.size, 0, none⟩) (by simp)]; simp
        have q6 : w6.cell? ⟨w.heap.size, 1, none⟩ = some (.int .i64 l) := by rw [(below_then HB4 B6).cell (p := ⟨w.heap.size, 1, none⟩) (by simp)]; simp
        have nq0 : ∀ n : Nat, ((n : Int) == 1) = decide (n = 1) := fun n => by
          by_cases h : n = 1
          · subst h; rfl
          · rw [decide_eq_false h, beq_eq_false_iff_ne]; omega
        clear rX rY hb5 hb6 B6 hc5 HB4 g1 g2 g3 g4 RL RO b0 hz3 hz4
        generalize w3.heap.size = B3 at *
        by_cases lx : X.length = 1
        · by_cases ly : Y.length = 1
          · obtain ⟨x1, x2, ex, x3, x4⟩ := rows_one rX6 lx
            obtain ⟨y1, y2, ey, y3, y4⟩ := rows_one rY6 ly
            by_cases hx : x1 = a ∧ x2 = l + 1
            · by_cases hy : y1 = a + z ∧ y2 = l + 1
              · have E1 : Hid (few (setOf L O) (16 - l).toNat a = [(a, l)]) := by
                  unfold Hid; rw [E.out, if_pos ⟨by rw [ex, hx.1, hx.2], by rw [ey, hy.1, hy.2]⟩]
                obtain ⟨hx1, hx2⟩ := hx
                obtain ⟨hy1, hy2⟩ := hy
                rw [lx, ly]
                subst hx1 hx2 hy1 hy2
                have lx0 : ((1 : Nat) : Int) = 1 := rfl
                clear E ex ey
                go_quiet (fail)
                go_wp2
                go_ret
                rw [E1.out]
                exact ⟨_, _, rfl, rows_lit (below_drewN HB6 _).size _ _, (below_drewN HB6 _).more _⟩
              · have E1 : Hid (few (setOf L O) (16 - l).toNat a = X ++ Y) := by
                  unfold Hid; rw [E.out, if_neg (fun h => hy (by have := h.2; rw [ey] at this; simpa using this))]
                have lx0 : ((X.length : Int) == 1) = true := by rw [nq0]; exact decide_eq_true lx
                have ly0 : ((Y.length : Int) == 1) = true := by rw [nq0]; exact decide_eq_true ly
                have px : (0 : Int) < (X.length : Int) := by omega
                have py : (0 : Int) < (Y.length : Int) := by omega
                obtain ⟨hx1, hx2⟩ := hx
                clear lx ly nq0
                clear ex ey
                clear E
                by_cases h1 : y1 = a + z
                · have h2 : (y2 == l + 1) = false := by rw [beq_eq_false_iff_ne]; exact fun e => hy ⟨h1, e⟩
                  subst h1
                  clear hy
                  go_quiet (fail)
                  go_wp2_with (at_builtin; refine wpList_append_own _ rfl _ _ 23 rfl w.heap.size 31 i0 (.agg #[.int .i64 0, .int .i64 0]) 2 16 Try.underlying23 hi hz0 hz1 hz2 rfl (by decide) _ _ _ rfl rX6 ⟨gy, 0, none⟩ Y.length cy (flat Y) rfl (flat_len Y) (World.ownsRow.cells rY6 rfl) flat_one ?c3 ?c4 ?c5 ?_)
                  case c3 => unfold maxLen; omega
                  case c4 => omega
                  case c5 => exact (below_drewN HB6 _).size
                  intro v' w7 hown' hgrow hnil
                  obtain ⟨g', cap', rfl, hrow'⟩ := rows_app hown' hnil
                  have hB7 : Below w.heap.size w w7 := (below_drewN HB6 _).grown hgrow (below_drewN HB6 _).size (fun k e => by cases e; exact (rows_ge rX6).1)
                  clear hown' hgrow hnil
                  go_wp2
                  go_ret
                  rw [E1.out]
                  exact ⟨_, _, rfl, hrow', hB7⟩
                · have h2 : (y1 == a + z) = false := by rw [beq_eq_false_iff_ne]; exact h1
                  clear hy
                  go_quiet (fail)
                  go_wp2_with (at_builtin; refine wpList_append_own _ rfl _ _ 23 rfl w.heap.size 31 i0 (.agg #[.int .i64 0, .int .i64 0]) 2 16 Try.underlying23 hi hz0 hz1 hz2 rfl (by decide) _ _ _ rfl rX6 ⟨gy, 0, none⟩ Y.length cy (flat Y) rfl (flat_len Y) (World.ownsRow.cells rY6 rfl) flat_one ?c3 ?c4 ?c5 ?_)
                  case c3 => unfold maxLen; omega
                  case c4 => omega
                  case c5 => exact (below_drewN HB6 _).size
                  intro v' w7 hown' hgrow hnil
                  obtain ⟨g', cap', rfl, hrow'⟩ := rows_app hown' hnil
                  have hB7 : Below w.heap.size w w7 := (below_drewN HB6 _).grown hgrow (below_drewN HB6 _).size (fun k e => by cases e; exact (rows_ge rX6).1)
                  clear hown' hgrow hnil
                  go_wp2
                  go_ret
                  rw [E1.out]
                  exact ⟨_, _, rfl, hrow', hB7⟩
            · have E1 : Hid (few (setOf L O) (16 - l).toNat a = X ++ Y) := by
                unfold Hid; rw [E.out, if_neg (fun h => hx (by have := h.1; rw [ex] at this; simpa using this))]
              have lx0 : ((X.length : Int) == 1) = true := by rw [nq0]; exact decide_eq_true lx
              have ly0 : ((Y.length : Int) == 1) = true := by rw [nq0]; exact decide_eq_true ly
              have px : (0 : Int) < (X.length : Int) := by omega
              have py : (0 : Int) < (Y.length : Int) := by omega
              clear lx ly nq0
              clear ex ey
              clear E
              by_cases h1 : x1 = a
              · have h2 : (x2 == l + 1) = false := by rw [beq_eq_false_iff_ne]; exact fun e => hx ⟨h1, e⟩
                subst h1
                clear hx
                go_quiet (fail)
                go_wp2_with (at_builtin; refine wpList_append_own _ rfl _ _ 23 rfl w.heap.size 31 i0 (.agg #[.int .i64 0, .int .i64 0]) 2 16 Try.underlying23 hi hz0 hz1 hz2 rfl (by decide) _ _ _ rfl rX6 ⟨gy, 0, none⟩ Y.length cy (flat Y) rfl (flat_len Y) (World.ownsRow.cells rY6 rfl) flat_one ?c3 ?c4 ?c5 ?_)
                case c3 => unfold maxLen; omega
                case c4 => omega
                case c5 => exact (below_drewN HB6 _).size
                intro v' w7 hown' hgrow hnil
                obtain ⟨g', cap', rfl, hrow'⟩ := rows_app hown' hnil
                have hB7 : Below w.heap.size w w7 := (below_drewN HB6 _).grown hgrow (below_drewN HB6 _).size (fun k e => by cases e; exact (rows_ge rX6).1)
                clear hown' hgrow hnil
                go_wp2
                go_ret
                rw [E1.out]
                exact ⟨_, _, rfl, hrow', hB7⟩
              · have h2 : (x1 == a) = false := by rw [beq_eq_false_iff_ne]; exact h1
                clear hx
                go_quiet (fail)
                go_wp2_with (at_builtin; refine wpList_append_own _ rfl _ _ 23 rfl w.heap.size 31 i0 (.agg #[.int .i64 0, .int .i64 0]) 2 16 Try.underlying23 hi hz0 hz1 hz2 rfl (by decide) _ _ _ rfl rX6 ⟨gy, 0, none⟩ Y.length cy (flat Y) rfl (flat_len Y) (World.ownsRow.cells rY6 rfl) flat_one ?c3 ?c4 ?c5 ?_)
                case c3 => unfold maxLen; omega
                case c4 => omega
                case c5 => exact (below_drewN HB6 _).size
                intro v' w7 hown' hgrow hnil
                obtain ⟨g', cap', rfl, hrow'⟩ := rows_app hown' hnil
                have hB7 : Below w.heap.size w w7 := (below_drewN HB6 _).grown hgrow (below_drewN HB6 _).size (fun k e => by cases e; exact (rows_ge rX6).1)
                clear hown' hgrow hnil
                go_wp2
                go_ret
                rw [E1.out]
                exact ⟨_, _, rfl, hrow', hB7⟩
          · have E1 : Hid (few (setOf L O) (16 - l).toNat a = X ++ Y) := by
              unfold Hid; rw [E.out, if_neg (fun h => ly (by rw [h.2]; rfl))]
            have lx0 : ((X.length : Int) == 1) = true := by rw [nq0]; exact decide_eq_true lx
            have ly0 : ((Y.length : Int) == 1) = false := by rw [nq0]; exact decide_eq_false ly
            clear lx ly nq0
            clear E
            go_quiet (fail)
            go_wp2_with (at_builtin; refine wpList_append_own _ rfl _ _ 23 rfl w.heap.size 31 i0 (.agg #[.int .i64 0, .int .i64 0]) 2 16 Try.underlying23 hi hz0 hz1 hz2 rfl (by decide) _ _ _ rfl rX6 ⟨gy, 0, none⟩ Y.length cy (flat Y) rfl (flat_len Y) (World.ownsRow.cells rY6 rfl) flat_one ?c3 ?c4 ?c5 ?_)
            case c3 => unfold maxLen; omega
            case c4 => omega
            case c5 => exact (below_drewN HB6 _).size
            intro v' w7 hown' hgrow hnil
            obtain ⟨g', cap', rfl, hrow'⟩ := rows_app hown' hnil
            have hB7 : Below w.heap.size w w7 := (below_drewN HB6 _).grown hgrow (below_drewN HB6 _).size (fun k e => by cases e; exact (rows_ge rX6).1)
            clear hown' hgrow hnil
            go_wp2
            go_ret
            rw [E1.out]
            exact ⟨_, _, rfl, hrow', hB7⟩
        · have E1 : Hid (few (setOf L O) (16 - l).toNat a = X ++ Y) := by
            unfold Hid; rw [E.out, if_neg (fun h => lx (by rw [h.1]; rfl))]
          have lx0 : ((X.length : Int) == 1) = false := by rw [nq0]; exact decide_eq_false lx
          clear lx nq0
          clear E
          go_quiet (fail)
          go_wp2_with (at_builtin; refine wpList_append_own _ rfl _ _ 23 rfl w.heap.size 31 i0 (.agg #[.int .i64 0, .int .i64 0]) 2 16 Try.underlying23 hi hz0 hz1 hz2 rfl (by decide) _ _ _ rfl rX6 ⟨gy, 0, none⟩ Y.length cy (flat Y) rfl (flat_len Y) (World.ownsRow.cells rY6 rfl) flat_one ?c3 ?c4 ?c5 ?_)
          case c3 => unfold maxLen; omega
          case c4 => omega
          case c5 => exact (below_drewN HB6 _).size
          intro v' w7 hown' hgrow hnil
          obtain ⟨g', cap', rfl, hrow'⟩ := rows_app hown' hnil
          have hB7 : Below w.heap.size w w7 := (below_drewN HB6 _).grown hgrow (below_drewN HB6 _).size (fun k e => by cases e; exact (rows_ge rX6).1)
          clear hown' hgrow hnil
          go_wp2
          go_ret
          rw [E1.out]
          exact ⟨_, _, rfl, hrow', hB7⟩
    | true =>
      cases ho with
      | false =>
        have E : Hid (few (setOf L O) (16 - l).toNat a = [(a, l)]) := F2.out rfl rfl rfl
        clear F1 F2 F3 IH RL RO
        go_enter Try.func47, Try.ntmps47
        go_wp2_with (first
              | (go_at_call_of 73 cL; refine (sL _ HB).mono ?_; rintro e w1 ⟨rfl, hb⟩; replace HB := below_then HB hb; obtain ⟨hc, hf⟩ := bcell HB; clear sL)
              | (go_at_call_of 73 cO; refine (sO _ HB).mono ?_; rintro e w2 ⟨rfl, hb⟩; replace HB := below_then HB hb; obtain ⟨hc, hf⟩ := bcell HB; clear sO))
        go_ret
        rw [E.out]
        exact ⟨_, _, rfl, rows_lit (below_then b0 HB).size a l, (below_then b0 HB).more _⟩
      | true =>
        have hl : l < 16 := F3.out (by simp) (by simp)
        have E : Hid _ := part_step (L := L) (O := O) (a := a) HP.out.1 hl
        obtain ⟨ih1, ih2⟩ := IH.out hl
        have sx := few_small (setOf L O) (l := l + 1) a (by have := HP.out.1; omega)
        have sy := few_small (setOf L O) (l := l + 1) (a + sz (l + 1)) (by have := HP.out.1; omega)
        generalize few (setOf L O) (16 - (l + 1)).toNat a = X at *
        generalize few (setOf L O) (16 - (l + 1)).toNat (a + sz (l + 1)) = Y at *
        have hh := fun w => halves_any a l w HP.out.1 (by omega) HP.out.2.2.1 HP.out.2.2.2.1
        generalize sz (l + 1) = z at *
        clear F1 F2 F3 IH
        go_enter Try.func47, Try.ntmps47
        go_wp2_with (first
              | (go_at_call_of 73 cL; refine (sL _ HB).mono ?_; rintro e w1 ⟨rfl, hb⟩; replace HB := below_then HB hb; obtain ⟨hc, hf⟩ := bcell HB; clear sL)
              | (go_at_call_of 73 cO; refine (sO _ HB).mono ?_; rintro e w2 ⟨rfl, hb⟩; replace HB := below_then HB hb; obtain ⟨hc, hf⟩ := bcell HB; clear sO))
        go_wp2_with (go_at_call 42; refine (hh _).mono ?_; rintro e w3 ⟨rfl, hb⟩; replace HB := below_then HB hb; clear hh)
        have Q := two_new w3 (.int .i64 a) (.int .i64 (l + 1)) (.int .i64 (a + z)) (.int .i64 (l + 1)) 31
        have HB4 := (HB.more (.cells #[.int .i64 a, .int .i64 (l + 1)] 31)).more (.cells #[.int .i64 (a + z), .int .i64 (l + 1)] 31)
        have hz4 : w3.heap.size + 1 < ((w3.alloc (.cells #[.int .i64 a, .int .i64 (l + 1)] 31)).alloc (.cells #[.int .i64 (a + z), .int .i64 (l + 1)] 31)).heap.size := by simp
        generalize (w3.alloc (.cells #[.int .i64 a, .int .i64 (l + 1)] 31)).alloc (.cells #[.int .i64 (a + z), .int .i64 (l + 1)] 31) = W4 at *
        obtain ⟨g1, g2, g3, g4, _⟩ := Q
        have hz3 := Nat.lt_of_succ_lt hz4
        clear hc hf HB
        go_wp2_with (go_at_call 47; refine (ih1 _ ((RL.out.below b0).below HB4) ((RO.out.below b0).below HB4)).mono ?_; clear ih1; rintro e w5 ⟨gx, cx, rfl, rX, hb5⟩; obtain ⟨hc5, _⟩ := bcell hb5)
        go_wp2_with (go_at_call 47; refine (ih2 _ ((RL.out.below b0).below (below_then HB4 hb5)) ((RO.out.below b0).below (below_then HB4 hb5))).mono ?_; clear ih2; rintro e w6 ⟨gy, cy, rfl, rY, hb6⟩)
        have HB6 : Below w.heap.size w w6 := below_then (below_then (below_then b0 HB4) hb5) hb6
        have rX6 : RowS w6 w.heap.size gx cx X := (Row.below (Row.mono rX (below_then b0 HB4).size) hb6)
        have rY6 : RowS w6 w.heap.size gy cy Y := Row.mono rY (below_then (below_then b0 HB4) hb5).size
        have B6 := below_then hb5 hb6
        have q1 : w6.cell? ⟨w3.heap.size, 0, none⟩ = some (.int .i64 a) := by rw [B6.cell (p := ⟨w3.heap.size, 0, none⟩) hz3]; exact g1
        have q2 : w6.cell? ⟨w3.heap.size, 1, none⟩ = some (.int .i64 (l + 1)) := by rw [B6.cell (p := ⟨w3.heap.size, 1, none⟩) hz3]; exact g2
        have q3 : w6.cell? ⟨w3.heap.size + 1, 0, none⟩ = some (.int .i64 (a + z)) := by rw [B6.cell (p := ⟨w3.heap.size + 1, 0, none⟩) hz4]; exact g3
        have q4 : w6.cell? ⟨w3.heap.size + 1, 1, none⟩ = some (.int .i64 (l + 1)) := by rw [B6.cell (p := ⟨w3.heap.size + 1, 1, none⟩) hz4]; exact g4
        have q5 : w6.cell? ⟨w.heap.size, 0, none⟩ = some (.int .i64 a) := by rw [(below_then HB4 B6).cell (p := ⟨w.heap.size, 0, none⟩) (by simp)]; simp
        have q6 : w6.cell? ⟨w.heap.size, 1, none⟩ = some (.int .i64 l) := by rw [(below_then HB4 B6).cell (p := ⟨w.heap.size, 1, none⟩) (by simp)]; simp
        have nq0 : ∀ n : Nat, ((n : Int) == 1) = decide (n = 1) := fun n => by
          by_cases h : n = 1
          · subst h; rfl
          · rw [decide_eq_false h, beq_eq_false_iff_ne]; omega
        clear rX rY hb5 hb6 B6 hc5 HB4 g1 g2 g3 g4 RL RO b0 hz3 hz4
        generalize w3.heap.size = B3 at *
        by_cases lx : X.length = 1
        · by_cases ly : Y.length = 1
          · obtain ⟨x1, x2, ex, x3, x4⟩ := rows_one rX6 lx
            obtain ⟨y1, y2, ey, y3, y4⟩ := rows_one rY6 ly
            by_cases hx : x1 = a ∧ x2 = l + 1
            · by_cases hy : y1 = a + z ∧ y2 = l + 1
              · have E1 : Hid (few (setOf L O) (16 - l).toNat a = [(a, l)]) := by
                  unfold Hid; rw [E.out, if_pos ⟨by rw [ex, hx.1, hx.2], by rw [ey, hy.1, hy.2]⟩]
                obtain ⟨hx1, hx2⟩ := hx
                obtain ⟨hy1, hy2⟩ := hy
                rw [lx, ly]
                subst hx1 hx2 hy1 hy2
                have lx0 : ((1 : Nat) : Int) = 1 := rfl
                clear E ex ey
                go_quiet (fail)
                go_wp2
                go_ret
                rw [E1.out]
                exact ⟨_, _, rfl, rows_lit (below_drewN HB6 _).size _ _, (below_drewN HB6 _).more _⟩
              · have E1 : Hid (few (setOf L O) (16 - l).toNat a = X ++ Y) := by
                  unfold Hid; rw [E.out, if_neg (fun h => hy (by have := h.2; rw [ey] at this; simpa using this))]
                have lx0 : ((X.length : Int) == 1) = true := by rw [nq0]; exact decide_eq_true lx
                have ly0 : ((Y.length : Int) == 1) = true := by rw [nq0]; exact decide_eq_true ly
                have px : (0 : Int) < (X.length : Int) := by omega
                have py : (0 : Int) < (Y.length : Int) := by omega
                obtain ⟨hx1, hx2⟩ := hx
                clear lx ly nq0
                clear ex ey
                clear E
                by_cases h1 : y1 = a + z
                · have h2 : (y2 == l + 1) = false := by rw [beq_eq_false_iff_ne]; exact fun e => hy ⟨h1, e⟩
                  subst h1
                  clear hy
                  go_quiet (fail)
                  go_wp2_with (at_builtin; refine wpList_append_own _ rfl _ _ 23 rfl w.heap.size 31 i0 (.agg #[.int .i64 0, .int .i64 0]) 2 16 Try.underlying23 hi hz0 hz1 hz2 rfl (by decide) _ _ _ rfl rX6 ⟨gy, 0, none⟩ Y.length cy (flat Y) rfl (flat_len Y) (World.ownsRow.cells rY6 rfl) flat_one ?c3 ?c4 ?c5 ?_)
                  case c3 => unfold maxLen; omega
                  case c4 => omega
                  case c5 => exact (below_drewN HB6 _).size
                  intro v' w7 hown' hgrow hnil
                  obtain ⟨g', cap', rfl, hrow'⟩ := rows_app hown' hnil
                  have hB7 : Below w.heap.size w w7 := (below_drewN HB6 _).grown hgrow (below_drewN HB6 _).size (fun k e => by cases e; exact (rows_ge rX6).1)
                  clear hown' hgrow hnil
                  go_wp2
                  go_ret
                  rw [E1.out]
                  exact ⟨_, _, rfl, hrow', hB7⟩
                · have h2 : (y1 == a + z) = false := by rw [beq_eq_false_iff_ne]; exact h1
                  clear hy
                  go_quiet (fail)
                  go_wp2_with (at_builtin; refine wpList_append_own _ rfl _ _ 23 rfl w.heap.size 31 i0 (.agg #[.int .i64 0, .int .i64 0]) 2 16 Try.underlying23 hi hz0 hz1 hz2 rfl (by decide) _ _ _ rfl rX6 ⟨gy, 0, none⟩ Y.length cy (flat Y) rfl (flat_len Y) (World.ownsRow.cells rY6 rfl) flat_one ?c3 ?c4 ?c5 ?_)
                  case c3 => unfold maxLen; omega
                  case c4 => omega
                  case c5 => exact (below_drewN HB6 _).size
                  intro v' w7 hown' hgrow hnil
                  obtain ⟨g', cap', rfl, hrow'⟩ := rows_app hown' hnil
                  have hB7 : Below w.heap.size w w7 := (below_drewN HB6 _).grown hgrow (below_drewN HB6 _).size (fun k e => by cases e; exact (rows_ge rX6).1)
                  clear hown' hgrow hnil
                  go_wp2
                  go_ret
                  rw [E1.out]
                  exact ⟨_, _, rfl, hrow', hB7⟩
            · have E1 : Hid (few (setOf L O) (16 - l).toNat a = X ++ Y) := by
                unfold Hid; rw [E.out, if_neg (fun h => hx (by have := h.1; rw [ex] at this; simpa using this))]
              have lx0 : ((X.length : Int) == 1) = true := by rw [nq0]; exact decide_eq_true lx
              have ly0 : ((Y.length : Int) == 1) = true := by rw [nq0]; exact decide_eq_true ly
              have px : (0 : Int) < (X.length : Int) := by omega
              have py : (0 : Int) < (Y.length : Int) := by omega
              clear lx ly nq0
              clear ex ey
              clear E
              by_cases h1 : x1 = a
              · have h2 : (x2 == l + 1) = false := by rw [beq_eq_false_iff_ne]; exact fun e => hx ⟨h1, e⟩
                subst h1
                clear hx
                go_quiet (fail)
                go_wp2_with (at_builtin; refine wpList_append_own _ rfl _ _ 23 rfl w.heap.size 31 i0 (.agg #[.int .i64 0, .int .i64 0]) 2 16 Try.underlying23 hi hz0 hz1 hz2 rfl (by decide) _ _ _ rfl rX6 ⟨gy, 0, none⟩ Y.length cy (flat Y) rfl (flat_len Y) (World.ownsRow.cells rY6 rfl) flat_one ?c3 ?c4 ?c5 ?_)
                case c3 => unfold maxLen; omega
                case c4 => omega
                case c5 => exact (below_drewN HB6 _).size
                intro v' w7 hown' hgrow hnil
                obtain ⟨g', cap', rfl, hrow'⟩ := rows_app hown' hnil
                have hB7 : Below w.heap.size w w7 := (below_drewN HB6 _).grown hgrow (below_drewN HB6 _).size (fun k e => by cases e; exact (rows_ge rX6).1)
                clear hown' hgrow hnil
                go_wp2
                go_ret
                rw [E1.out]
                exact ⟨_, _, rfl, hrow', hB7⟩
              · have h2 : (x1 == a) = false := by rw [beq_eq_false_iff_ne]; exact h1
                clear hx
                go_quiet (fail)
                go_wp2_with (at_builtin; refine wpList_append_own _ rfl _ _ 23 rfl w.heap.size 31 i0 (.agg #[.int .i64 0, .int .i64 0]) 2 16 Try.underlying23 hi hz0 hz1 hz2 rfl (by decide) _ _ _ rfl rX6 ⟨gy, 0, none⟩ Y.length cy (flat Y) rfl (flat_len Y) (World.ownsRow.cells rY6 rfl) flat_one ?c3 ?c4 ?c5 ?_)
                case c3 => unfold maxLen; omega
                case c4 => omega
                case c5 => exact (below_drewN HB6 _).size
                intro v' w7 hown' hgrow hnil
                obtain ⟨g', cap', rfl, hrow'⟩ := rows_app hown' hnil
                have hB7 : Below w.heap.size w w7 := (below_drewN HB6 _).grown hgrow (below_drewN HB6 _).size (fun k e => by cases e; exact (rows_ge rX6).1)
                clear hown' hgrow hnil
                go_wp2
                go_ret
                rw [E1.out]
                exact ⟨_, _, rfl, hrow', hB7⟩
          · have E1 : Hid (few (setOf L O) (16 - l).toNat a = X ++ Y) := by
              unfold Hid; rw [E.out, if_neg (fun h => ly (by rw [h.2]; rfl))]
            have lx0 : ((X.length : Int) == 1) = true := by rw [nq0]; exact decide_eq_true lx
            have ly0 : ((Y.length : Int) == 1) = false := by rw [nq0]; exact decide_eq_false ly
            clear lx ly nq0
            clear E
            go_quiet (fail)
            go_wp2_with (at_builtin; refine wpList_append_own _ rfl _ _ 23 rfl w.heap.size 31 i0 (.agg #[.int .i64 0, .int .i64 0]) 2 16 Try.underlying23 hi hz0 hz1 hz2 rfl (by decide) _ _ _ rfl rX6 ⟨gy, 0, none⟩ Y.length cy (flat Y) rfl (flat_len Y) (World.ownsRow.cells rY6 rfl) flat_one ?c3 ?c4 ?c5 ?_)
            case c3 => unfold maxLen; omega
            case c4 => omega
            case c5 => exact (below_drewN HB6 _).size
            intro v' w7 hown' hgrow hnil
            obtain ⟨g', cap', rfl, hrow'⟩ := rows_app hown' hnil
            have hB7 : Below w.heap.size w w7 := (below_drewN HB6 _).grown hgrow (below_drewN HB6 _).size (fun k e => by cases e; exact (rows_ge rX6).1)
            clear hown' hgrow hnil
            go_wp2
            go_ret
            rw [E1.out]
            exact ⟨_, _, rfl, hrow', hB7⟩
        · have E1 : Hid (few (setOf L O) (16 - l).toNat a = X ++ Y) := by
            unfold Hid; rw [E.out, if_neg (fun h => lx (by rw [h.1]; rfl))]
          have lx0 : ((X.length : Int) == 1) = false := by rw [nq0]; exact decide_eq_false lx
          clear lx nq0
          clear E
          go_quiet (fail)
          go_wp2_with (at_builtin; refine wpList_append_own _ rfl _ _ 23 rfl w.heap.size 31 i0 (.agg #[.int .i64 0, .int .i64 0]) 2 16 Try.underlying23 hi hz0 hz1 hz2 rfl (by decide) _ _ _ rfl rX6 ⟨gy, 0, none⟩ Y.length cy (flat Y) rfl (flat_len Y) (World.ownsRow.cells rY6 rfl) flat_one ?c3 ?c4 ?c5 ?_)
          case c3 => unfold maxLen; omega
          case c4 => omega
          case c5 => exact (below_drewN HB6 _).size
          intro v' w7 hown' hgrow hnil
          obtain ⟨g', cap', rfl, hrow'⟩ := rows_app hown' hnil
          have hB7 : Below w.heap.size w w7 := (below_drewN HB6 _).grown hgrow (below_drewN HB6 _).size (fun k e => by cases e; exact (rows_ge rX6).1)
          clear hown' hgrow hnil
          go_wp2
          go_ret
          rw [E1.out]
          exact ⟨_, _, rfl, hrow', hB7⟩

set_option maxRecDepth 100000 in
set_option maxHeartbeats 4000000 in
theorem part_any (L O : List (Int × Int)) (hL : allOk L = true) (hO : allOk O = true) (nL : L.length ≤ 40) (nO : O.length ≤ 40) : ∀ (k : Nat) (a l : Int) (vL vO : Value) (w : World), okP a l = true → (16 - l).toNat = k → Rd w vL L → Rd w vO O →
    Calls Try.prog 47 #[.agg #[.int .i64 a, .int .i64 l], vL, vO] w fun e w' => ∃ g cap, e = .returned (.slice (some ⟨g, 0, none⟩) (few (setOf L O) k a).length cap) ∧ RowS w' w.heap.size g cap (few (setOf L O) k a) ∧ Below w.heap.size w w' := by
  intro k
  induction k with
  | zero =>
    intro a l vL vO w hp hk rL rO
    exact part_go L O hL hO nL nO 0 a l vL vO w hp hk rL rO (fun h => by omega)
  | succ k ih =>
    intro a l vL vO w hp hk rL rO
    refine part_go L O hL hO nL nO (k + 1) a l vL vO w hp hk rL rO (fun h => ?_)
    have hq := half_ok hp h
    refine ⟨fun w rL rO => ?_, fun w rL rO => ?_⟩
    · have := ih a (l + 1) vL vO w hq.1 (by omega) rL rO
      have e : (16 - (l + 1)).toNat = k := by omega
      rw [e]; exact this
    · have := ih (a + sz (l + 1)) (l + 1) vL vO w hq.2 (by omega) rL rO
      have e : (16 - (l + 1)).toNat = k := by omega
      rw [e]; exact this
end Go.Proofs.Ytaoahghfmlegbaa
