/- The law that holds NetWithout against the model's, walked: it returns true. -/
import Derived.Test.YtaoahghfmlegbabMark
import Derived.Test.YtaoahghfmlegbabWithout
namespace Go.Proofs.Ytaoahghfmlegbab
open Go.RowKit Go.Lib

theorem own_ne2 {v : Value} {b c : Nat} {w : World} (h : ∀ k, v.ownBlock = some k → b ≤ k ∧ k < w.heap.size) (hc : c < b) : v.ownBlock = none ∨ v.ownBlock ≠ some c := by
  cases e : v.ownBlock with
  | none => exact .inl rfl
  | some k => refine .inr ?_; intro he; cases he; have := h c e; omega

set_option maxRecDepth 100000 in
set_option maxHeartbeats 2000000 in
theorem law_without (L : List (Int × Int)) (v : Value) (O : List (Int × Int)) (u : Value) (w : World) (hr : RdA w v L) (hn : (L.length : Int) ≤ 9223372036854775807) (hr2 : RdA w u O) (hn2 : (O.length : Int) ≤ 9223372036854775807) :
    Calls Try.prog 6 #[v, u] w fun e w' => e = .returned (.bool true) ∧ Below w.heap.size w w' := by
  obtain ⟨p, cap, rfl⟩ := hr.form
  obtain ⟨q, cap2, rfl⟩ := hr2.form
  have hs := fun w => szs_any L.length p cap 1048576 w (by decide) (by decide) hn
  by_cases hlen : L.length ≤ 1048576
  · have z1 : (1048576 : Int) - (L.length : Int) ≥ 0 := by omega
    simp only [if_neg (show ¬ (1048576 : Int) < (L.length : Int) by omega)] at hs
    have hs2 := fun w => szs_any O.length q cap2 (1048576 - (L.length : Int)) w (by omega) (by omega) hn2
    by_cases hlen2 : (O.length : Int) ≤ 1048576 - (L.length : Int)
    · have z2 : (1048576 : Int) - (L.length : Int) - (O.length : Int) ≥ 0 := by omega
      simp only [if_neg (show ¬ (1048576 : Int) - (L.length : Int) < (O.length : Int) by omega)] at hs2
      have hlen3 : O.length ≤ 1048576 := by omega
      have fs : (fewOf L O).length ≤ 65536 := fewOf_small _ _
      have HR : Hid (RdA w (.slice p L.length cap) L) := hr
      have HR2 : Hid (RdA w (.slice q O.length cap2) O) := hr2
      clear hr hr2
      have fs : Hid ((fewOf L O).length ≤ 65536) := fs
      generalize hF : (fewOf L O) = F at *
      go_enter Try.func6, Try.ntmps6
      go_wp2_with (first | (go_at_call_of 14 cap; refine (hs _).mono ?_; clear hs; rintro e w1 ⟨rfl, hw⟩; obtain rfl := hw.symm) | (go_at_call_of 14 cap2; refine (hs2 _).mono ?_; clear hs2; rintro e w1 ⟨rfl, hw⟩; obtain rfl := hw.symm))
      have B : Below w.heap.size w w := Below.refl _ _
      have C := tos_any L (.slice p L.length cap) w (HR.out.below B) hlen
      go_wp2_with (go_at_call 16; refine C.mono ?_; clear C; rintro e W1 ⟨rfl, r1, hb⟩)
      replace B := below_then B hb
      have sW1 : w.heap.size < W1.heap.size := (World.ownsRow.lt r1 _ rfl).2
      clear hb
      have C := tos_any O (.slice q O.length cap2) W1 (HR2.out.below B) hlen3
      go_wp2_with (go_at_call 16; refine C.mono ?_; clear C; rintro e W2 ⟨rfl, r2, hb⟩)
      replace B := below_then B hb
      replace r1 := r1.below hb
      have sW2 : W1.heap.size < W2.heap.size := (World.ownsRow.lt r2 _ rfl).2
      clear hb
      have C := without_any L O _ _ W2 r1.rd r2.rd
      rw [hF] at C
      go_wp2_with (go_at_call 23; refine C.mono ?_; clear C; rintro e W3 ⟨gw, cw, rfl, rw0, hb⟩)
      replace B := below_then B hb
      have lw := rows_ge rw0
      replace rw0 : Row W3 W2.heap.size (.slice (some ⟨gw, 0, none⟩) F.length cw) F := rw0
      have sW3 := hb.size
      clear hb r1 r2
      have C := tos_any L (.slice p L.length cap) W3 (HR.out.below B) hlen
      go_wp2_with (go_at_call 16; refine C.mono ?_; clear C; rintro e W4 ⟨rfl, x0, hb⟩)
      replace B := below_then B hb
      replace rw0 := rw0.below hb
      have sW4 : W3.heap.size < W4.heap.size := (World.ownsRow.lt x0 _ rfl).2
      clear hb
      have C := tos_any O (.slice q O.length cap2) W4 (HR2.out.below B) hlen3
      go_wp2_with (go_at_call 16; refine C.mono ?_; clear C; rintro e W5 ⟨rfl, x1, hb⟩)
      replace B := below_then B hb
      replace rw0 := rw0.below hb
      replace x0 := x0.below hb
      have sW5 : W4.heap.size < W5.heap.size := (World.ownsRow.lt x1 _ rfl).2
      clear hb
      have C := iwithout_any L O _ _ W5 x0.rd x1.rd
      rw [hF] at C
      go_wp2_with (go_at_call 24; refine C.mono ?_; clear C; rintro e W6 ⟨g, rfl, rg, hb⟩; obtain ⟨pg, cg, rfl⟩ := rg.form)
      replace B := below_then B hb
      replace rw0 := rw0.below hb
      replace x0 := x0.below hb
      replace x1 := x1.below hb
      have sW6 := hb.size
      clear hb
      have C := eqs_any F _ _ W6 rg.rd rw0.rd (by have := fs.out; omega)
      go_wp2_with (go_at_call 18; refine C.mono ?_; clear C; rintro e W7 ⟨rfl, hb⟩)
      replace B := below_then B hb
      replace rw0 := rw0.below hb
      replace x0 := x0.below hb
      replace x1 := x1.below hb
      replace rg := rg.below hb
      have sW7 := hb.size
      clear hb
      have C := tos_any L (.slice p L.length cap) W7 (HR.out.below B) hlen
      go_wp2_with (go_at_call 16; refine C.mono ?_; clear C; rintro e W8 ⟨rfl, r6, hb⟩)
      replace B := below_then B hb
      replace rw0 := rw0.below hb
      replace x0 := x0.below hb
      replace x1 := x1.below hb
      replace rg := rg.below hb
      have sW8 : W7.heap.size < W8.heap.size := (World.ownsRow.lt r6 _ rfl).2
      clear hb
      have C := eqs_any L _ _ W8 x0.rd r6.rd hlen
      go_wp2_with (go_at_call 18; refine C.mono ?_; clear C; rintro e W9 ⟨rfl, hb⟩)
      replace B := below_then B hb
      replace rw0 := rw0.below hb
      replace x0 := x0.below hb
      replace x1 := x1.below hb
      replace rg := rg.below hb
      replace r6 := r6.below hb
      have sW9 := hb.size
      clear hb
      clear r6
      have C := tos_any O (.slice q O.length cap2) W9 (HR2.out.below B) hlen3
      go_wp2_with (go_at_call 16; refine C.mono ?_; clear C; rintro e W10 ⟨rfl, r6, hb⟩)
      replace B := below_then B hb
      replace rw0 := rw0.below hb
      replace x0 := x0.below hb
      replace x1 := x1.below hb
      replace rg := rg.below hb
      have sW10 : W9.heap.size < W10.heap.size := (World.ownsRow.lt r6 _ rfl).2
      clear hb
      have C := eqs_any O _ _ W10 x1.rd r6.rd hlen3
      go_wp2_with (go_at_call 18; refine C.mono ?_; clear C; rintro e W11 ⟨rfl, hb⟩)
      replace B := below_then B hb
      replace rw0 := rw0.below hb
      replace x0 := x0.below hb
      replace x1 := x1.below hb
      replace rg := rg.below hb
      replace r6 := r6.below hb
      have sW11 := hb.size
      clear hb
      clear r6
      have gge := World.ownsRow.lt rg
      have C := mark_any L _ W3.heap.size 1 W11 x0 hlen (by omega) (by omega)
      go_wp2_with (go_at_call 21; refine C.mono ?_; clear C; rintro e W12 ⟨rfl, xm, hg⟩)
      replace B : Below w.heap.size w W12 := B.grown hg B.size (fun k e => by simp [Value.ownBlock] at e; omega)
      replace rw0 := rw0.grown hg (by refine .inr ?_; simp [Value.ownBlock]; omega)
      replace rg := rg.grown hg (by exact own_ne2 (c := W3.heap.size) gge (by omega))
      replace x1 := x1.grown hg (by refine .inr ?_; simp [Value.ownBlock]; omega)
      have sW12 := hg.size
      clear hg
      clear xm
      have C := mark_any O _ W4.heap.size (1 + 2 * (L.length : Int)) W12 x1 hlen3 (by omega) (by omega)
      go_wp2_with (go_at_call 21; refine C.mono ?_; clear C; rintro e W13 ⟨rfl, xm, hg⟩)
      replace B : Below w.heap.size w W13 := B.grown hg B.size (fun k e => by simp [Value.ownBlock] at e; omega)
      replace rw0 := rw0.grown hg (by refine .inr ?_; simp [Value.ownBlock]; omega)
      replace rg := rg.grown hg (by exact own_ne2 (c := W4.heap.size) gge (by omega))
      have sW13 := hg.size
      clear hg
      clear xm
      have kneg : decide (1 + 2 * (L.length : Int) + 2 * (O.length : Int) < 0) = false := decide_eq_false (by omega)
      have C := eqs_any F _ _ W13 rg.rd rw0.rd (by have := fs.out; omega)
      go_wp2_with (go_at_call 18; refine C.mono ?_; clear C; rintro e W14 ⟨rfl, hb⟩)
      replace B := below_then B hb
      replace rw0 := rw0.below hb
      replace rg := rg.below hb
      have sW14 := hb.size
      clear hb
      have gge2 := World.ownsRow.lt rg
      have C := mark_any F _ W5.heap.size 1 W14 rg (by have := fs.out; omega) (by omega) (by omega)
      go_wp2_with (go_at_call 21; refine C.mono ?_; clear C; rintro e W15 ⟨rfl, rm, hg⟩)
      replace B : Below w.heap.size w W15 := B.grown hg B.size (fun k e => by have := gge k e; omega)
      replace rw0 := rw0.grown hg (by refine .inr ?_; exact fun e => by have := gge gw e.symm; omega)
      have sW15 := hg.size
      clear hg gge2 kneg
      have mneg : decide (1 + 2 * (F.length : Int) < 0) = false := decide_eq_false (by omega)
      have C := held_any F.length (.slice pg F.length cg) 1 W15 rm.rd (by have := fs.out; omega) (by omega) (by omega)
      go_wp2_with (go_at_call 22; refine C.mono ?_; clear C; rintro e wh ⟨rfl, hw⟩; obtain rfl := hw.symm)
      have C := tos_any L (.slice p L.length cap) W15 (HR.out.below B) hlen
      go_wp2_with (go_at_call 16; refine C.mono ?_; clear C; rintro e W16 ⟨rfl, r1, hb⟩)
      replace B := below_then B hb
      replace rw0 := rw0.below hb
      replace rm := rm.below hb
      have sW16 : W15.heap.size < W16.heap.size := (World.ownsRow.lt r1 _ rfl).2
      clear hb
      have C := tos_any O (.slice q O.length cap2) W16 (HR2.out.below B) hlen3
      go_wp2_with (go_at_call 16; refine C.mono ?_; clear C; rintro e W17 ⟨rfl, r2, hb⟩)
      replace B := below_then B hb
      replace rw0 := rw0.below hb
      replace rm := rm.below hb
      replace r1 := r1.below hb
      have sW17 : W16.heap.size < W17.heap.size := (World.ownsRow.lt r2 _ rfl).2
      clear hb
      have C := iwithout_any L O _ _ W17 r1.rd r2.rd
      rw [hF] at C
      go_wp2_with (go_at_call 24; refine C.mono ?_; clear C; rintro e W18 ⟨h, rfl, rh, hb⟩; obtain ⟨ph, ch, rfl⟩ := rh.form)
      replace B := below_then B hb
      replace rw0 := rw0.below hb
      replace rm := rm.below hb
      replace r1 := r1.below hb
      replace r2 := r2.below hb
      have sW18 := hb.size
      clear hb
      clear r1
      clear r2
      have C := eqs_any F _ _ W18 rh.rd rw0.rd (by have := fs.out; omega)
      go_wp2_with (go_at_call 18; refine C.mono ?_; clear C; rintro e W19 ⟨rfl, hb⟩)
      replace B := below_then B hb
      replace rw0 := rw0.below hb
      replace rm := rm.below hb
      replace rh := rh.below hb
      have sW19 := hb.size
      clear hb
      have C := held_any F.length (.slice pg F.length cg) 1 W19 rm.rd (by have := fs.out; omega) (by omega) (by omega)
      go_wp2_with (go_at_call 22; refine C.mono ?_; clear C; rintro e wh ⟨rfl, hw⟩; obtain rfl := hw.symm)
      go_ret
      exact ⟨rfl, B⟩
    · simp only [if_pos (show (1048576 : Int) - (L.length : Int) < (O.length : Int) by omega)] at hs2
      go_enter Try.func6, Try.ntmps6
      go_wp2_with (first | (go_at_call_of 14 cap; refine (hs _).mono ?_; clear hs; rintro e w1 ⟨rfl, hw⟩; obtain rfl := hw.symm) | (go_at_call_of 14 cap2; refine (hs2 _).mono ?_; clear hs2; rintro e w1 ⟨rfl, hw⟩; obtain rfl := hw.symm))
      go_ret
      exact ⟨rfl, Below.refl _ _⟩
  · simp only [if_pos (show (1048576 : Int) < (L.length : Int) by omega)] at hs
    go_enter Try.func6, Try.ntmps6
    go_wp2_with (go_at_call 14; refine (hs _).mono ?_; clear hs; rintro e w1 ⟨rfl, hw⟩; obtain rfl := hw.symm)
    go_ret
    exact ⟨rfl, Below.refl _ _⟩
end Go.Proofs.Ytaoahghfmlegbab
