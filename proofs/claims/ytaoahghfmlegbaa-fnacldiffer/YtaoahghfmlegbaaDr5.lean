/- The draws of packets: l5Packet; DrawAclSays, DrawAclWitness. -/
import Derived.Test.YtaoahghfmlegbaaDr4
namespace Go.Proofs.Ytaoahghfmlegbaa
open Go.RowKit Go.Lib

/-- a packet in a box of its own -/
def B3 (W : World) (K : Nat) (f t k : Int) : Prop :=
  (W.cell? ⟨K, 0, none⟩ = some (.int .i64 f) ∧ W.cell? ⟨K, 1, none⟩ = some (.int .i64 t) ∧ W.cell? ⟨K, 2, none⟩ = some (.int .i64 k)) ∧ ∀ j, W.frozen? ⟨K, j, none⟩ = false
theorem B3.same {w W : World} {K : Nat} {f t k : Int} (h : B3 w K f t k) (hb : W.heap[K]? = w.heap[K]?) : B3 W K f t k := by
  have c : ∀ j, W.cell? ⟨K, j, none⟩ = w.cell? ⟨K, j, none⟩ := fun j => World.cell?_of_block hb
  have f : ∀ j, W.frozen? ⟨K, j, none⟩ = w.frozen? ⟨K, j, none⟩ := fun j => World.frozen?_of_block hb
  unfold B3 at *
  simp only [c, f]
  exact h
theorem B3.lt {w : World} {K : Nat} {f t k : Int} (h : B3 w K f t k) : K < w.heap.size := cell_lt h.1.1
theorem B3.grown {w W : World} {R K : Nat} {f t k : Int} (h : B3 w K f t k) (hg : w.grownBy W (some R)) (hK : K ≠ R) : B3 W K f t k := h.same (hg.block K h.lt (by simp [hK]))
theorem B3.below {w W : World} {K : Nat} {f t k : Int} (h : B3 w K f t k) (hb : Below w.heap.size w W) : B3 W K f t k := h.same (hb.block K h.lt)
theorem B3.alloc {w : World} {K : Nat} {f t k : Int} (h : B3 w K f t k) (o : Obj) : B3 (w.alloc o) K f t k := h.below ((Below.refl _ _).more _)
theorem B3.new (w : World) (f t k : Int) (ty : TypeId) : B3 (w.alloc (.cells #[.int .i64 f, .int .i64 t, .int .i64 k] ty)) w.heap.size f t k := ⟨by simp, fun j => fz_new _ _ _ _⟩
theorem B3.keep {W : World} {K K2 j : Nat} {f t k : Int} (h : B3 W K2 f t k) (hK : K2 ≠ K) (u : Value) : B3 (W.setCell ⟨K, j, none⟩ u) K2 f t k := h.same (Below.heap_setCell _ _ _ _ (fun e => hK e))
theorem B3.set0 {W : World} {K : Nat} {f t k : Int} (h : B3 W K f t k) (x : Int) : B3 (W.setCell ⟨K, 0, none⟩ (.int .i64 x)) K x t k := by
  obtain ⟨⟨c0, c1, c2⟩, hf⟩ := h
  refine ⟨⟨World.cell?_setCell_same' _ _ _ (by rw [c0]; rfl), ?_, ?_⟩, fun j => by rw [World.frozen?_setCell]; exact hf j⟩
  · rw [World.cell?_setCell_other _ _ _ _ (fun e => by cases e)]; exact c1
  · rw [World.cell?_setCell_other _ _ _ _ (fun e => by cases e)]; exact c2
theorem B3.set1 {W : World} {K : Nat} {f t k : Int} (h : B3 W K f t k) (x : Int) : B3 (W.setCell ⟨K, 1, none⟩ (.int .i64 x)) K f x k := by
  obtain ⟨⟨c0, c1, c2⟩, hf⟩ := h
  refine ⟨⟨?_, World.cell?_setCell_same' _ _ _ (by rw [c1]; rfl), ?_⟩, fun j => by rw [World.frozen?_setCell]; exact hf j⟩
  · rw [World.cell?_setCell_other _ _ _ _ (fun e => by cases e)]; exact c0
  · rw [World.cell?_setCell_other _ _ _ _ (fun e => by cases e)]; exact c2
theorem B3.set2 {W : World} {K : Nat} {f t k : Int} (h : B3 W K f t k) (x : Int) : B3 (W.setCell ⟨K, 2, none⟩ (.int .i64 x)) K f t x := by
  obtain ⟨⟨c0, c1, c2⟩, hf⟩ := h
  refine ⟨⟨?_, ?_, World.cell?_setCell_same' _ _ _ (by rw [c2]; rfl)⟩, fun j => by rw [World.frozen?_setCell]; exact hf j⟩
  · rw [World.cell?_setCell_other _ _ _ _ (fun e => by cases e)]; exact c0
  · rw [World.cell?_setCell_other _ _ _ _ (fun e => by cases e)]; exact c1

set_option maxRecDepth 100000 in
set_option maxHeartbeats 8000000 in
theorem packet_any (R : Nat) (q : Option Addr) (n cap : Nat) (p : Int) (b gv cv : Nat) (L : List Ru) (w : World) (h : Rdr w R q n cap p) (hp : p ≤ 1073740000) (hL : RowR w b (.slice (some ⟨gv, 0, none⟩) L.length cv) L) (hb : R < b) (l13 : L.length ≤ 13) :
    Calls Try.prog 55 #[.pointer (some ⟨R, 0, none⟩), .slice (some ⟨gv, 0, none⟩) L.length cv] w fun e w' => ∃ x : Pk, e = .returned (pkV x) ∧ Drew w R q n cap p 100 w' := by
  have hR := h.lt
  have HD := (Drew.refl h).alloc (.cells #[.int .i64 0, .int .i64 0, .int .i64 0] 42)
  have HX := hL.alloc (.cells #[.int .i64 0, .int .i64 0, .int .i64 0] 42)
  have ZX := B3.new w 0 0 0 42
  have H0 : Hid (Rdr w R q n cap p) := h
  have hK4 : w.heap.size ≠ R := by omega
  have LT0 : ∀ j, (Value.slice (some ⟨gv, 0, none⟩) L.length cv).ownBlock = some j → j < w.heap.size := fun j e => (World.ownsRow.lt hL j e).2
  have T1 : Hid True := trivial
  have T2 : Hid True := trivial
  clear h hL
  go_enter Try.func55, Try.ntmps55
  generalize hw0 : w.alloc (.cells #[.int .i64 0, .int .i64 0, .int .i64 0] 42) = w0 at *
  go_upto_region 2 with (first
    | (go_at_call 41; clear T1; refine (pick_more HD 65536 (by omega) (by omega) (by omega)).mono ?_; clear HD; rintro e W2 ⟨r2, rfl, b2, HD, g2⟩; replace HX := rowR_drew HX g2 hb; replace ZX := ZX.grown g2 hK4; clear g2)
    | (go_at_call 41; clear T2; refine (pick_more HD 65536 (by omega) (by omega) (by omega)).mono ?_; clear HD; rintro e W3 ⟨r3, rfl, b3, HD, g3⟩; replace HX := rowR_drew HX g3 hb; replace ZX := ZX.grown g3 hK4; clear g3)
    | (go_at_call 41; refine (pick_more HD 7 (by omega) (by omega) (by omega)).mono ?_; clear HD; rintro e W4 ⟨r4, rfl, b4, HD, g4⟩; replace HX := rowR_drew HX g4 hb; replace ZX := ZX.grown g4 hK4; clear g4))
  obtain ⟨k0, hk0⟩ : ∃ k0 : Int, (1 + (r4 : Int)) = k0 := ⟨_, rfl⟩
  rw [hk0]
  have BX := B3.new W4 (r2 : Int) (r3 : Int) k0 42
  have hs4 := HD.1.size
  have hw5 : w.heap.size ≤ W4.heap.size := by have h1 : w.heap.size < w0.heap.size := (by rw [← hw0]; simp); have := ZX.lt; omega
  have hK5 : W4.heap.size ≠ R := by omega
  have hK45 : w.heap.size ≠ W4.heap.size := Nat.ne_of_lt ZX.lt
  replace HD := HD.alloc (.cells #[.int .i64 (r2 : Int), .int .i64 (r3 : Int), .int .i64 k0] 42)
  replace HX := HX.alloc (.cells #[.int .i64 (r2 : Int), .int .i64 (r3 : Int), .int .i64 k0] 42)
  replace ZX := ZX.alloc (.cells #[.int .i64 (r2 : Int), .int .i64 (r3 : Int), .int .i64 k0] 42)
  generalize W4.alloc (.cells #[.int .i64 (r2 : Int), .int .i64 (r3 : Int), .int .i64 k0] 42) = W5 at *
  generalize W4.heap.size = K5 at *
  generalize (r2 : Int) = f0 at *
  generalize (r3 : Int) = t0 at *
  clear hs4 hk0
  go_cut [22] (fun c W => ∃ bb : Bool, c = .bool bb ∧ (bb = true → 0 < L.length) ∧ B3 W K5 f0 t0 k0 ∧ B3 W w.heap.size 0 0 0 ∧ RowR W b (.slice (some ⟨gv, 0, none⟩) L.length cv) L ∧ Drew w R q n cap p 4 W)
  case first =>
    by_cases hl : L.length = 0
    · have hl0 : decide (0 < (L.length : Int)) = false := decide_eq_false (by omega)
      go_wp2_with fail
      go_meet
      case rel => exact ⟨false, rfl, by simp, BX, ZX, HX, HD.weak (by omega)⟩
    · have hl1 : decide (0 < (L.length : Int)) = true := decide_eq_true (by omega)
      go_wp2_with (go_at_call 41; refine (pick_more HD 5 (by omega) (by omega) (by omega)).mono ?_; clear HD; rintro e W8 ⟨r8, rfl, b8, HD, g8⟩; replace HX := rowR_drew HX g8 hb; replace BX := BX.grown g8 hK5; replace ZX := ZX.grown g8 hK4; clear g8)
      go_meet
      case rel => exact ⟨_, rfl, fun _ => by omega, BX, ZX, HX, HD.weak (by omega)⟩
  case rest =>
    clear BX ZX HX HD
    obtain ⟨bb, rfl, hbb, BX, ZX, HX, HD⟩ := hcut
    go_upto_if 22 with fail
    go_cut [6] (fun _ W => ∃ (f t k : Int), B3 W K5 f t k ∧ B3 W w.heap.size 0 0 0 ∧ Drew w R q n cap p 50 W)
    case first =>
      cases bb with
      | false =>
        go_wp2_with fail
        go_meet
        case rel => exact ⟨f0, t0, k0, BX, ZX, HD.weak (by omega)⟩
      | true =>
        have hl := hbb rfl
        clear hbb
        go_upto_region 4 with (go_at_call 41; refine (pick_more HD (L.length : Int) (by omega) (by omega) (by omega)).mono ?_; clear HD; rintro e W8 ⟨r8, rfl, b8, HD, g8⟩; replace HX := rowR_drew HX g8 hb; replace BX := BX.grown g8 hK5; replace ZX := ZX.grown g8 hK4; obtain ⟨gr, hpv, hgr, hgl, dA⟩ := HX.rd.at (i := r8) (by omega); obtain ⟨⟨yb, ⟨ya, yl⟩, ⟨yc, ym⟩, yk⟩, hy⟩ : ∃ y : Ru, L[r8] = y := ⟨_, rfl⟩; rw [hy] at dA; obtain ⟨d0, d1, d2, d3, d4, d5⟩ := dA; cases hpv; clear g8 hy)
        have BQ := B6.new W8 yb ya yl yc ym yk 48
        have hs8 := HD.1.size
        have hK8 : W8.heap.size ≠ R := by omega
        have hK58 : W8.heap.size ≠ K5 := fun e => Nat.ne_of_lt BX.lt e.symm
        replace HD := HD.alloc (.cells #[.bool yb, .int .i64 ya, .int .i64 yl, .int .i64 yc, .int .i64 ym, .int .i64 yk] 48)
        replace BX := BX.alloc (.cells #[.bool yb, .int .i64 ya, .int .i64 yl, .int .i64 yc, .int .i64 ym, .int .i64 yk] 48)
        replace ZX := ZX.alloc (.cells #[.bool yb, .int .i64 ya, .int .i64 yl, .int .i64 yc, .int .i64 ym, .int .i64 yk] 48)
        clear d0 d1 d2 d3 d4 d5 HX hgl hgr hs8
        generalize W8.alloc (.cells #[.bool yb, .int .i64 ya, .int .i64 yl, .int .i64 yc, .int .i64 ym, .int .i64 yk] 48) = W9 at *
        generalize W8.heap.size = K8 at *
        have ⟨⟨y0, y1, y2, y3, y4, y5⟩, yf⟩ := BQ
        go_upto_region 5 with (go_at_call 50; refine (addr_more HD (by omega)).mono ?_; clear HD; rintro e W10 ⟨x10, rfl, _, HD, g10⟩; replace BX := BX.grown g10 hK5; replace ZX := ZX.grown g10 hK4; replace BQ := BQ.grown g10 hK8; clear y0 y1 y2 y3 y4 y5 yf; have ⟨⟨x0, x1, x2⟩, xf⟩ := BX; clear g10)
        replace HD := drew_set H0.out HD hw5 (j := 0) (.int .i64 x10)
        replace BX := BX.set0 x10
        replace ZX := ZX.keep (j := 0) hK45 (.int .i64 x10)
        replace BQ := BQ.keep (j := 0) hK58 (.int .i64 x10)
        clear x0 x1 x2 xf
        generalize W10.setCell ⟨K5, 0, none⟩ (.int .i64 x10) = W11 at *
        have ⟨⟨y0, y1, y2, y3, y4, y5⟩, yf⟩ := BQ
        go_upto_region 6 with (go_at_call 50; refine (addr_more HD (by omega)).mono ?_; clear HD; rintro e W12 ⟨x12, rfl, _, HD, g12⟩; replace BX := BX.grown g12 hK5; replace ZX := ZX.grown g12 hK4; replace BQ := BQ.grown g12 hK8; clear y0 y1 y2 y3 y4 y5 yf; have ⟨⟨x0, x1, x2⟩, xf⟩ := BX; clear g12)
        replace HD := drew_set H0.out HD hw5 (j := 1) (.int .i64 x12)
        replace BX := BX.set1 x12
        replace ZX := ZX.keep (j := 1) hK45 (.int .i64 x12)
        replace BQ := BQ.keep (j := 1) hK58 (.int .i64 x12)
        clear x0 x1 x2 xf
        generalize W12.setCell ⟨K5, 1, none⟩ (.int .i64 x12) = W13 at *
        have ⟨⟨y0, y1, y2, y3, y4, y5⟩, yf⟩ := BQ
        by_cases hyk : 0 < yk
        · have hyk1 : decide (0 < yk) = true := decide_eq_true hyk
          go_wp2_with (go_at_call 41; refine (pick_more HD 3 (by omega) (by omega) (by omega)).mono ?_; clear HD; rintro e W14 ⟨r14, rfl, b14, HD, g14⟩; replace BX := BX.grown g14 hK5; replace ZX := ZX.grown g14 hK4; replace BQ := BQ.grown g14 hK8; clear y0 y1 y2 y3 y4 y5 yf; have ⟨⟨y0, y1, y2, y3, y4, y5⟩, yf⟩ := BQ; have ⟨⟨x0, x1, x2⟩, xf⟩ := BX; clear g14)
          all_goals
            go_meet
            case rel =>
              first
              | exact ⟨_, _, _, BX, ZX, HD.weak (by omega)⟩
              | exact ⟨_, _, _, BX.set2 yk, ZX.keep hK45 _, drew_set H0.out (HD.weak (by omega)) hw5 _⟩
        · have hyk1 : decide (0 < yk) = false := decide_eq_false hyk
          go_wp2_with fail
          go_meet
          case rel => exact ⟨_, _, _, BX, ZX, HD.weak (by omega)⟩
    case rest =>
      clear BX ZX HD HX hbb
      obtain ⟨f, t, k, BX, ZX, HD⟩ := hcut
      have T3 : Hid True := trivial
      go_upto_if 53 with (go_at_call 41; refine (pick_more HD 24 (by omega) (by omega) (by omega)).mono ?_; clear HD; rintro e W15 ⟨r15, rfl, b15, HD, g15⟩; replace BX := BX.grown g15 hK5; replace ZX := ZX.grown g15 hK4; clear g15)
      have hR15 : R < W15.heap.size := (by have := HD.1.size; omega)
      by_cases hr : r15 = 0
      · have hrb : ((r15 : Int) == 0) = true := by subst hr; rfl
        replace BX := BX.alloc (.cells #[.int .i64 0, .int .i64 8, .int .i64 (-1)] 3)
        replace ZX := ZX.alloc (.cells #[.int .i64 0, .int .i64 8, .int .i64 (-1)] 3)
        replace HD := HD.alloc (.cells #[.int .i64 0, .int .i64 8, .int .i64 (-1)] 3)
        go_wp2_with (go_at_call 41; refine (pick_more HD 3 (by omega) (by omega) (by omega)).mono ?_; clear HD; rintro e W16 ⟨r16, rfl, b16, HD, g16⟩; replace BX := BX.grown g16 hK5; replace ZX := ZX.grown g16 hK4; obtain ⟨z, hz⟩ := tab3m (a := 0) (b := 8) (c := -1) b16; have x6 := tab_cell g16 hR15 hz; have ⟨⟨x0, x1, x2⟩, xf⟩ := BX; have ⟨⟨z0, z1, z2⟩, zf⟩ := ZX; clear g16)
        refine bodyPost_ret (v := pkV (f, t, z)) (by simp [results, Try.results55, go_sem, z0, z1, z2]) rfl ⟨_, rfl, ?_⟩
        repeat (refine drew_set H0.out ?_ (by omega) _)
        exact HD.weak (by omega)
      · have hrb : ((r15 : Int) == 0) = false := by rw [beq_eq_false_iff_ne]; omega
        have ⟨⟨x0, x1, x2⟩, xf⟩ := BX
        have ⟨⟨z0, z1, z2⟩, zf⟩ := ZX
        go_wp2_with fail
        refine bodyPost_ret (v := pkV (f, t, k)) (by simp [results, Try.results55, go_sem, z0, z1, z2]) rfl ⟨_, rfl, ?_⟩
        repeat (refine drew_set H0.out ?_ (by omega) _)
        exact HD.weak (by omega)
end Go.Proofs.Ytaoahghfmlegbaa
