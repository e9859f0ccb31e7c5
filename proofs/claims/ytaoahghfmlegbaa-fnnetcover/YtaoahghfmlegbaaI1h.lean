/- The contracts of the program's halves, and the law that holds NetHalves against the model's. -/
import Derived.Test.YtaoahghfmlegbaaI1
import Derived.Deep.DeepCutAuto
namespace Go.Proofs.Ytaoahghfmlegbaa
open Go.RowKit Go.Lib

/-- four new blocks of two cells each -/
theorem four_new (w : World) (x0 x1 y0 y1 z0 z1 u0 u1 : Value) (t : TypeId) (W : World) (hW : ((((w.alloc (.cells #[x0, x1] t)).alloc (.cells #[y0, y1] t)).alloc (.cells #[z0, z1] t)).alloc (.cells #[u0, u1] t)) = W) :
    (W.cell? ⟨w.heap.size, 0, none⟩ = some x0 ∧ W.cell? ⟨w.heap.size, 1, none⟩ = some x1) ∧
    (W.cell? ⟨w.heap.size + 1, 0, none⟩ = some y0 ∧ W.cell? ⟨w.heap.size + 1, 1, none⟩ = some y1 ∧ W.frozen? ⟨w.heap.size + 1, 0, none⟩ = false ∧ W.frozen? ⟨w.heap.size + 1, 1, none⟩ = false) ∧
    (W.cell? ⟨w.heap.size + 1 + 1, 0, none⟩ = some z0 ∧ W.cell? ⟨w.heap.size + 1 + 1, 1, none⟩ = some z1 ∧ W.frozen? ⟨w.heap.size + 1 + 1, 0, none⟩ = false ∧ W.frozen? ⟨w.heap.size + 1 + 1, 1, none⟩ = false) ∧
    (W.cell? ⟨w.heap.size + 1 + 1 + 1, 0, none⟩ = some u0 ∧ W.cell? ⟨w.heap.size + 1 + 1 + 1, 1, none⟩ = some u1) ∧ W.heap.size = w.heap.size + 1 + 1 + 1 + 1 ∧ Below w.heap.size w W := by
  have e2 : w.heap.size + 1 + 1 = ((w.alloc (.cells #[x0, x1] t)).alloc (.cells #[y0, y1] t)).heap.size := by simp
  have e1 : w.heap.size + 1 = (w.alloc (.cells #[x0, x1] t)).heap.size := by simp
  subst hW
  refine ⟨⟨?_, ?_⟩, ⟨?_, ?_, ?_, ?_⟩, ⟨?_, ?_, ?_, ?_⟩, ⟨?_, ?_⟩, by simp, ((((Below.refl _ _).more _).more _).more _).more _⟩
  · rw [World.cell?_alloc_lt _ _ _ (by first | (simp; done) | (simp; omega)), World.cell?_alloc_lt _ _ _ (by first | (simp; done) | (simp; omega)), World.cell?_alloc_lt _ _ _ (by simp)]; simp
  · rw [World.cell?_alloc_lt _ _ _ (by first | (simp; done) | (simp; omega)), World.cell?_alloc_lt _ _ _ (by first | (simp; done) | (simp; omega)), World.cell?_alloc_lt _ _ _ (by simp)]; simp
  · rw [World.cell?_alloc_lt _ _ _ (by first | (simp; done) | (simp; omega)), World.cell?_alloc_lt _ _ _ (by simp), World.cell?_alloc_at _ _ _ _ (by simp)]; rfl
  · rw [World.cell?_alloc_lt _ _ _ (by first | (simp; done) | (simp; omega)), World.cell?_alloc_lt _ _ _ (by simp), World.cell?_alloc_at _ _ _ _ (by simp)]; rfl
  · rw [World.frozen?_alloc_old _ _ _ (by simp), World.frozen?_alloc_old _ _ _ (by simp), e1]; exact fz_new _ _ _ _
  · rw [World.frozen?_alloc_old _ _ _ (by simp), World.frozen?_alloc_old _ _ _ (by simp), e1]; exact fz_new _ _ _ _
  · rw [World.cell?_alloc_lt _ _ _ (by simp), World.cell?_alloc_at _ _ _ _ (by simp)]; rfl
  · rw [World.cell?_alloc_lt _ _ _ (by simp), World.cell?_alloc_at _ _ _ _ (by simp)]; rfl
  · rw [World.frozen?_alloc_old _ _ _ (by simp), e2]; exact fz_new _ _ _ _
  · rw [World.frozen?_alloc_old _ _ _ (by simp), e2]; exact fz_new _ _ _ _
  · rw [World.cell?_alloc_at _ _ _ _ (by simp)]; rfl
  · rw [World.cell?_alloc_at _ _ _ _ (by simp)]; rfl

theorem s3_of {W0 w' : World} {B C : Nat} {x y z : Value} (h1 : W0.cell? ⟨B, 0, none⟩ = some x) (h2 : W0.cell? ⟨C, 0, none⟩ = some y) (h3 : W0.cell? ⟨C, 1, none⟩ = some z) (hB : B < W0.heap.size) (hC : C < W0.heap.size) (hb : Below W0.heap.size W0 w') :
    w'.cell? ⟨B, 0, none⟩ = some x ∧ w'.cell? ⟨C, 0, none⟩ = some y ∧ w'.cell? ⟨C, 1, none⟩ = some z ∧ Below W0.heap.size W0 w' :=
  ⟨by rw [hb.cell (p := ⟨B, 0, none⟩) hB]; exact h1, by rw [hb.cell (p := ⟨C, 0, none⟩) hC]; exact h2, by rw [hb.cell (p := ⟨C, 1, none⟩) hC]; exact h3, hb⟩

set_option maxRecDepth 100000 in
set_option maxHeartbeats 1000000 in
theorem ihalves_any (a l : Int) (w : World) (l1 : 0 ≤ l) (l2 : l ≤ 15) (a1 : 0 ≤ a) (a2 : a ≤ 65535) :
    Calls Try.prog 93 #[.agg #[.int .i64 a, .int .i64 l]] w fun e w' => e = .returned (.tuple #[.agg #[.int .i64 a, .int .i64 (l + 1)], .agg #[.int .i64 (a + sz (l + 1)), .int .i64 (l + 1)]]) ∧ Below w.heap.size w w' := by
  obtain ⟨z, hz⟩ : ∃ z, z = sz (l + 1) := ⟨_, rfl⟩
  have hb := sz_bd (l + 1) (by omega)
  rw [← hz] at hb ⊢
  obtain ⟨b1, b2⟩ := hb
  have hs := fun w => isz_any a (l + 1) w (by omega) (by omega)
  rw [← hz] at hs
  clear hz
  go_enter Try.func93, Try.ntmps93
  go_wp2_with fail
  generalize hW : ((((w.alloc (.cells #[.int .i64 a, .int .i64 l] 31)).alloc (.cells #[.int .i64 0, .int .i64 0] 31)).alloc (.cells #[.int .i64 0, .int .i64 0] 31)).alloc (.cells #[.int .i64 a, .int .i64 (l + 1)] 31)) = W0
  obtain ⟨⟨x0, _⟩, ⟨y0, y1, y2, y3⟩, ⟨z0, z1, z2, z3⟩, ⟨u0, u1⟩, hsz, hbW⟩ := four_new w _ _ _ _ _ _ _ _ _ W0 hW
  have HB : Hid (Below w.heap.size w W0) := hbW
  have q0 : w.heap.size < W0.heap.size := by omega
  have q1 : w.heap.size + 1 < W0.heap.size := by omega
  have q2 : w.heap.size + 1 + 1 < W0.heap.size := by omega
  have q3 : w.heap.size + 1 + 1 + 1 < W0.heap.size := by omega
  have HW : Hid (W0.heap.size = w.heap.size + 1 + 1 + 1 + 1) := hsz
  clear hW hbW hsz
  go_cut [5] (fun v W => ∃ K, v = .pointer (some ⟨K, 0, none⟩) ∧ Boxed2 W0 K (a + z) (l + 1) W)
  case first =>
    go_region_held3 (fun w' => w'.cell? ⟨w.heap.size, 0, none⟩ = some (.int .i64 a) ∧ w'.cell? ⟨w.heap.size + 1 + 1 + 1, 0, none⟩ = some (.int .i64 a) ∧ w'.cell? ⟨w.heap.size + 1 + 1 + 1, 1, none⟩ = some (.int .i64 (l + 1)) ∧ Below W0.heap.size W0 w') (first | exact s3_of x0 u0 u1 q0 q3 (Below.refl _ _).drew | assumption | exact s3_of x0 u0 u1 q0 q3 (below_then (Below.refl _ _).drew hb3) | exact s3_of x0 u0 u1 q0 q3 ((below_then (Below.refl _ _).drew hb3).more _) | exact s3_of x0 u0 u1 q0 q3 ((Below.refl _ _).drew.more _) | exact s3_of x0 u0 u1 q0 q3 (below_then ((Below.refl _ _).drew.more _) hb3) | exact s3_of x0 u0 u1 q0 q3 (((below_then ((Below.refl _ _).drew.more _) hb3).setCell (by simp) _).setCell (by simp) _)) (first
      | (go_at_call 75; refine (hs _).mono ?_; rintro e w2 ⟨rfl, hb3⟩; obtain ⟨hc3, hf3⟩ := bcell hb3))
    all_goals
      go_wp2_with fail
      go_meet
      case rel => first | exact ⟨_, rfl, box_new hb3 _ _ _⟩ | exact ⟨_, rfl, box_set hb3 _ _⟩ | (have e := waddz a1 a2 b1 b2; rw [e]; first | exact ⟨_, rfl, box_new hb3 _ _ _⟩ | exact ⟨_, rfl, box_set hb3 _ _⟩)
  case rest =>
    obtain ⟨K, rfl, hbox⟩ := hcut
    have H1 := hbox.1
    have H2 := hbox.2.1
    have HK : W0.heap.size ≤ K := hbox.2.2.1
    have HBx := hbox.2.2.2.2
    obtain ⟨hcx, hfx⟩ := bcell HBx
    have e1 := hcx (w.heap.size + 1) 0 q1
    have e2 := hcx (w.heap.size + 1) 1 q1
    have e3 := hcx (w.heap.size + 1 + 1) 0 q2
    have e4 := hcx (w.heap.size + 1 + 1) 1 q2
    have e5 := hcx (w.heap.size + 1 + 1 + 1) 0 q3
    have e6 := hcx (w.heap.size + 1 + 1 + 1) 1 q3
    have f1 := hfx (w.heap.size + 1) 0 q1
    have f2 := hfx (w.heap.size + 1) 1 q1
    have f3 := hfx (w.heap.size + 1 + 1) 0 q2
    have f4 := hfx (w.heap.size + 1 + 1) 1 q2
    rw [y0] at e1
    rw [y1] at e2
    rw [z0] at e3
    rw [z1] at e4
    rw [u0] at e5
    rw [u1] at e6
    rw [y2] at f1
    rw [y3] at f2
    rw [z2] at f3
    rw [z3] at f4
    have n1 : ¬ w.heap.size + 1 = K := by omega
    have n2 : ¬ w.heap.size + 1 + 1 = K := by omega
    have B2 : Hid (Below w.heap.size w wc) := below_then HB.out HBx
    clear hbox HBx hcx hfx x0 y0 y1 y2 y3 z0 z1 z2 z3 u0 u1 q0 q1 q2 q3 HK HW HB hs
    go_wp2_with fail
    go_region
    go_wp2
    refine bodyPost_ret (v := .tuple #[.agg #[.int .i64 a, .int .i64 (l + 1)], .agg #[.int .i64 (a + z), .int .i64 (l + 1)]]) (by simp [results, Try.results93, go_sem, *]) rfl ⟨rfl, ?_⟩
    refine Below.drew ?_
    repeat (refine Below.setCell ?_ (by first | (simp; done) | (simp; omega) | omega) _)
    exact B2.out
end Go.Proofs.Ytaoahghfmlegbaa
