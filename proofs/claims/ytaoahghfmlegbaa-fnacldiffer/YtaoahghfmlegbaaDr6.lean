/- The draws: DrawAclSays, DrawAclWitness. -/
import Derived.Test.YtaoahghfmlegbaaDr5
namespace Go.Proofs.Ytaoahghfmlegbaa
open Go.RowKit Go.Lib

theorem BytA.below {w w' : World} {v : Value} (h : BytA w v) (hb : Below w.heap.size w w') : BytA w' v := by
  obtain ⟨q, n, cap, hv, h1, h2, h3⟩ := h
  refine ⟨q, n, cap, hv, h1, h2, ?_⟩
  rcases h3 with h | ⟨g, o, hq, hl, hc⟩
  · exact .inl h
  · refine .inr ⟨g, o, hq, Nat.lt_of_lt_of_le hl hb.size, fun i hi => ?_⟩
    obtain ⟨y, hy, k⟩ := hc i hi
    exact ⟨y, (hb.cell (p := ⟨g, o + i, none⟩) hl).trans hy, k⟩

set_option maxRecDepth 100000 in
set_option maxHeartbeats 2000000 in
theorem drawSays_any (v : Value) (w : World) (h : BytA w v) :
    Calls Try.prog 25 #[v] w fun e w' => ∃ g c L x, e = .returned (.tuple #[.slice (some ⟨g, 0, none⟩) (List.length L) c, pkV x]) ∧ RowR w' w.heap.size (.slice (some ⟨g, 0, none⟩) L.length c) L ∧ L.length ≤ 13 ∧ Below w.heap.size w w' := by
  have ZX := B3.new w 0 0 0 42
  have hb0 : Below w.heap.size w (w.alloc (.cells #[.int .i64 0, .int .i64 0, .int .i64 0] 42)) := (Below.refl _ _).more _
  have C := open_any v _ (h.below hb0)
  have hs0 : w.heap.size < (w.alloc (.cells #[.int .i64 0, .int .i64 0, .int .i64 0] 42)).heap.size := by simp
  go_enter Try.func25, Try.ntmps25
  generalize hw0 : w.alloc (.cells #[.int .i64 0, .int .i64 0, .int .i64 0] 42) = w0 at *
  go_wp2_with (first
    | (go_at_call 39; refine C.mono ?_; clear C; rintro e W1 ⟨rfl, ⟨q, n, cap, hr⟩, hb⟩; have hRs := hr.lt; replace ZX := ZX.below hb; replace hb0 := below_then hb0 hb; clear hb)
    | (go_at_call 54; refine (anyR_any _ q n cap 0 W1 hr (by omega)).mono ?_; rintro e W2 ⟨g, c, L, rfl, HX, l13, HD⟩; replace ZX := ZX.grown HD.1 (Nat.ne_of_lt hs0); replace hb0 := drew_below hb0 HD (by omega); have hsz := HD.1.size; obtain ⟨gw, p3, p31, p32, hr3⟩ := HD)
    | (go_at_call 55; refine (packet_any _ q n cap p3 _ g c L W2 hr3 (by omega) HX hRs l13).mono ?_; rintro e W3 ⟨⟨xf, xt, xk⟩, rfl, HD3⟩; replace ZX := ZX.grown HD3.1 (Nat.ne_of_lt hs0); replace hb0 := drew_below hb0 HD3 (by omega); replace HX := rowR_drew HX HD3.1 hRs; obtain ⟨⟨z0, z1, z2⟩, zf⟩ := ZX))
  have HM : RowR (((W3.setCell ⟨w.heap.size, 0, none⟩ (.int .i64 xf)).setCell ⟨w.heap.size, 1, none⟩ (.int .i64 xt)).setCell ⟨w.heap.size, 2, none⟩ (.int .i64 xk)) W1.heap.size (.slice (some ⟨g, 0, none⟩) L.length c) L := by
    have hne : (Value.slice (some ⟨g, 0, none⟩) L.length c).ownBlock ≠ some w.heap.size := fun e => by have := (World.ownsRow.lt HX _ e).1; omega
    exact rowR_set (rowR_set (rowR_set HX hne _) hne _) hne _
  refine bodyPost_ret (v := .tuple #[.slice (some ⟨g, 0, none⟩) L.length c, pkV (xf, xt, xk)]) (by simp [results, Try.results25, go_sem, z0, z1, z2]) rfl ⟨g, c, L, (xf, xt, xk), rfl, HM.mono (by omega), l13, ?_⟩
  exact ((hb0.setCell (p := ⟨w.heap.size, 0, none⟩) (Nat.le_refl _) _).setCell (p := ⟨w.heap.size, 1, none⟩) (Nat.le_refl _) _).setCell (p := ⟨w.heap.size, 2, none⟩) (Nat.le_refl _) _

set_option maxRecDepth 100000 in
set_option maxHeartbeats 2000000 in
theorem drawWitness_any (v : Value) (w : World) (h : BytA w v) :
    Calls Try.prog 28 #[v] w fun e w' => ∃ g c L x, e = .returned (.tuple #[.slice (some ⟨g, 0, none⟩) (List.length L) c, .int .i64 x]) ∧ RowR w' w.heap.size (.slice (some ⟨g, 0, none⟩) L.length c) L ∧ L.length ≤ 13 ∧ -1 ≤ x ∧ x ≤ 15 ∧ Below w.heap.size w w' := by
  have C := open_any v _ h
  have T1 : Hid True := trivial
  go_enter Try.func28, Try.ntmps28
  go_wp2_with (first
    | (go_at_call 39; refine C.mono ?_; clear C; rintro e W1 ⟨rfl, ⟨q, n, cap, hr⟩, hb⟩; have hRs := hr.lt)
    | (go_at_call 54; refine (anyR_any _ q n cap 0 W1 hr (by omega)).mono ?_; rintro e W2 ⟨g, c, L, rfl, HX, l13, HD⟩)
    | (go_at_call 41; clear T1; refine (pick_more HD ((L.length : Int) + 2) (by omega) (by omega) (by omega)).mono ?_; clear HD; rintro e W3 ⟨r3, rfl, b3, HD, g3⟩; replace HX := rowR_drew HX g3 hRs; clear g3)
    | (go_at_call 41; refine (pick_more HD 2 (by omega) (by omega) (by omega)).mono ?_; clear HD; rintro e W4 ⟨r4, rfl, b4, HD, g4⟩; replace HX := rowR_drew HX g4 hRs; clear g4))
  refine bodyPost_ret (v := .tuple #[.slice (some ⟨g, 0, none⟩) L.length c, .int .i64 ((r3 : Int) - (r4 : Int))]) (by simp [results, Try.results28, go_sem]) rfl ⟨g, c, L, _, rfl, HX.mono hb.size, l13, by omega, by omega, drew_below hb HD (Nat.le_refl _)⟩
end Go.Proofs.Ytaoahghfmlegbaa
