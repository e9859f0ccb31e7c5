/- The law that holds NetCover against the model's, walked: it returns true. -/
import Derived.Test.YtaoahghfmlegbabMark
import Derived.Test.YtaoahghfmlegbabWithout
namespace Go.Proofs.Ytaoahghfmlegbab
open Go.RowKit Go.Lib

theorem own_ne {v : Value} {b c : Nat} {w : World} (h : ∀ k, v.ownBlock = some k → b ≤ k ∧ k < w.heap.size) (hc : c < b) : v.ownBlock = none ∨ v.ownBlock ≠ some c := by
  cases e : v.ownBlock with
  | none => exact .inl rfl
  | some k => refine .inr ?_; intro he; cases he; have := h c e; omega

set_option maxRecDepth 100000 in
set_option maxHeartbeats 2000000 in
theorem law_cover (L : List (Int × Int)) (v : Value) (w : World) (hr : RdA w v L) (hn : (L.length : Int) ≤ 9223372036854775807) :
    Calls Try.prog 5 #[v] w fun e w' => e = .returned (.bool true) ∧ Below w.heap.size w w' := by
  obtain ⟨p, cap, rfl⟩ := hr.form
  have hs := fun w => szs_any L.length p cap 1048576 w (by decide) (by decide) hn
  by_cases hlen : L.length ≤ 1048576
  · have z1 : (1048576 : Int) - (L.length : Int) ≥ 0 := by omega
    simp only [if_neg (show ¬ (1048576 : Int) < (L.length : Int) by omega)] at hs
    have fs : (fewOf L []).length ≤ 65536 := fewOf_small _ _
    have HR : Hid (RdA w (.slice p L.length cap) L) := hr
    clear hr
    have fs : Hid ((fewOf L []).length ≤ 65536) := fs
    generalize hF : (fewOf L []) = F at *
    go_enter Try.func5, Try.ntmps5
    go_wp2_with (go_at_call 14; refine (hs _).mono ?_; clear hs; rintro e w1 ⟨rfl, hw⟩; obtain rfl := hw.symm)
    have B : Below w.heap.size w w := Below.refl _ _
    have C := tos_any L (.slice p L.length cap) w (HR.out.below B) hlen
    go_wp2_with (go_at_call 16; refine C.mono ?_; clear C; rintro e W1 ⟨rfl, r1, hb⟩)
    replace B := below_then B hb
    have sW1 : w.heap.size < W1.heap.size := (World.ownsRow.lt r1 _ rfl).2
    clear hb
    have C := cover_any L _ W1 r1.rd
    rw [hF] at C
    go_wp2_with (go_at_call 19; refine C.mono ?_; clear C; rintro e W2 ⟨gw, cw, rfl, rw0, hb⟩)
    replace B := below_then B hb
    have lw := rows_ge rw0
    replace rw0 : Row W2 W1.heap.size (.slice (some ⟨gw, 0, none⟩) F.length cw) F := rw0
    have sW2 := hb.size
    clear hb r1
    have C := tos_any L (.slice p L.length cap) W2 (HR.out.below B) hlen
    go_wp2_with (go_at_call 16; refine C.mono ?_; clear C; rintro e W3 ⟨rfl, x0, hb⟩)
    replace B := below_then B hb
    replace rw0 := rw0.below hb
    have sW3 : W2.heap.size < W3.heap.size := (World.ownsRow.lt x0 _ rfl).2
    clear hb
    have C := icover_any L _ W3 x0.rd
    rw [hF] at C
    go_wp2_with (go_at_call 20; refine C.mono ?_; clear C; rintro e W4 ⟨g, rfl, rg, hb⟩; obtain ⟨pg, cg, rfl⟩ := rg.form)
    replace B := below_then B hb
    replace rw0 := rw0.below hb
    replace x0 := x0.below hb
    have sW4 := hb.size
    clear hb
    have C := eqs_any F _ _ W4 rg.rd rw0.rd (by have := fs.out; omega)
    go_wp2_with (go_at_call 18; refine C.mono ?_; clear C; rintro e W5 ⟨rfl, hb⟩)
    replace B := below_then B hb
    replace rw0 := rw0.below hb
    replace x0 := x0.below hb
    replace rg := rg.below hb
    have sW5 := hb.size
    clear hb
    have C := tos_any L (.slice p L.length cap) W5 (HR.out.below B) hlen
    go_wp2_with (go_at_call 16; refine C.mono ?_; clear C; rintro e W6 ⟨rfl, r6, hb⟩)
    replace B := below_then B hb
    replace rw0 := rw0.below hb
    replace x0 := x0.below hb
    replace rg := rg.below hb
    have sW6 : W5.heap.size < W6.heap.size := (World.ownsRow.lt r6 _ rfl).2
    clear hb
    have C := eqs_any L _ _ W6 x0.rd r6.rd hlen
    go_wp2_with (go_at_call 18; refine C.mono ?_; clear C; rintro e W7 ⟨rfl, hb⟩)
    replace B := below_then B hb
    replace rw0 := rw0.below hb
    replace x0 := x0.below hb
    replace rg := rg.below hb
    replace r6 := r6.below hb
    have sW7 := hb.size
    clear hb
    clear r6
    have gge := World.ownsRow.lt rg
    have C := mark_any L _ W2.heap.size 1 W7 x0 hlen (by omega) (by omega)
    go_wp2_with (go_at_call 21; refine C.mono ?_; clear C; rintro e W8 ⟨rfl, xm, hg⟩)
    replace B : Below w.heap.size w W8 := B.grown hg B.size (fun k e => by simp [Value.ownBlock] at e; omega)
    replace rw0 := rw0.grown hg (by refine .inr ?_; simp [Value.ownBlock]; omega)
    replace rg := rg.grown hg (by exact own_ne (c := W2.heap.size) gge (by omega))
    have sW8 := hg.size
    clear hg
    clear xm
    have kneg : decide (1 + 2 * (L.length : Int) < 0) = false := decide_eq_false (by omega)
    have C := eqs_any F _ _ W8 rg.rd rw0.rd (by have := fs.out; omega)
    go_wp2_with (go_at_call 18; refine C.mono ?_; clear C; rintro e W9 ⟨rfl, hb⟩)
    replace B := below_then B hb
    replace rw0 := rw0.below hb
    replace rg := rg.below hb
    have sW9 := hb.size
    clear hb
    have gge2 := World.ownsRow.lt rg
    have C := mark_any F _ W3.heap.size 1 W9 rg (by have := fs.out; omega) (by omega) (by omega)
    go_wp2_with (go_at_call 21; refine C.mono ?_; clear C; rintro e W10 ⟨rfl, rm, hg⟩)
    replace B : Below w.heap.size w W10 := B.grown hg B.size (fun k e => by have := gge k e; omega)
    replace rw0 := rw0.grown hg (by refine .inr ?_; exact fun e => by have := gge gw e.symm; omega)
    have sW10 := hg.size
    clear hg gge2 kneg
    have mneg : decide (1 + 2 * (F.length : Int) < 0) = false := decide_eq_false (by omega)
    have C := held_any F.length (.slice pg F.length cg) 1 W10 rm.rd (by have := fs.out; omega) (by omega) (by omega)
    go_wp2_with (go_at_call 22; refine C.mono ?_; clear C; rintro e wh ⟨rfl, hw⟩; obtain rfl := hw.symm)
    have C := tos_any L (.slice p L.length cap) W10 (HR.out.below B) hlen
    go_wp2_with (go_at_call 16; refine C.mono ?_; clear C; rintro e W11 ⟨rfl, r1, hb⟩)
    replace B := below_then B hb
    replace rw0 := rw0.below hb
    replace rm := rm.below hb
    have sW11 : W10.heap.size < W11.heap.size := (World.ownsRow.lt r1 _ rfl).2
    clear hb
    have C := icover_any L _ W11 r1.rd
    rw [hF] at C
    go_wp2_with (go_at_call 20; refine C.mono ?_; clear C; rintro e W12 ⟨h, rfl, rh, hb⟩; obtain ⟨ph, ch, rfl⟩ := rh.form)
    replace B := below_then B hb
    replace rw0 := rw0.below hb
    replace rm := rm.below hb
    replace r1 := r1.below hb
    have sW12 := hb.size
    clear hb
    clear r1
    have C := eqs_any F _ _ W12 rh.rd rw0.rd (by have := fs.out; omega)
    go_wp2_with (go_at_call 18; refine C.mono ?_; clear C; rintro e W13 ⟨rfl, hb⟩)
    replace B := below_then B hb
    replace rw0 := rw0.below hb
    replace rm := rm.below hb
    replace rh := rh.below hb
    have sW13 := hb.size
    clear hb
    have C := held_any F.length (.slice pg F.length cg) 1 W13 rm.rd (by have := fs.out; omega) (by omega) (by omega)
    go_wp2_with (go_at_call 22; refine C.mono ?_; clear C; rintro e wh ⟨rfl, hw⟩; obtain rfl := hw.symm)
    go_ret
    exact ⟨rfl, B⟩
  · simp only [if_pos (show (1048576 : Int) < (L.length : Int) by omega)] at hs
    go_enter Try.func5, Try.ntmps5
    go_wp2_with (go_at_call 14; refine (hs _).mono ?_; clear hs; rintro e w1 ⟨rfl, hw⟩; obtain rfl := hw.symm)
    go_ret
    exact ⟨rfl, Below.refl _ _⟩
end Go.Proofs.Ytaoahghfmlegbab
