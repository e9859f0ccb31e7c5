/- The model's AclWitness. -/
import Derived.Test.YtaoahghfmlegbaaEd9
namespace Go.Proofs.Ytaoahghfmlegbaa
open Go.RowKit Go.Lib Go.Maps

theorem rdR_none {w : World} (t : TypeId) : RdR (w.alloc (.cells #[] t)) (.slice (some ⟨w.heap.size, 0, none⟩) ([] : List Ru).length 0) [] := .inr ⟨w.heap.size, 0, rfl, Nat.le_refl _, by simp, fun i r hr => by simp at hr⟩

set_option maxRecDepth 100000 in
set_option maxHeartbeats 1600000 in
theorem aclwit_any (g cap : Nat) (L : List Ru) (a : Int) (w : World) (hr : RdR w (.slice (some ⟨g, 0, none⟩) L.length cap) L) (hlen : L.length ≤ 1048576) :
    Calls Try.prog 30 #[.slice (some ⟨g, 0, none⟩) L.length cap, .int .i64 a] w fun e w' => ∃ r, e = .returned (pkO r) ∧ WitS L a r ∧ Below w.heap.size w w' := by
  have bX : Below w.heap.size w (w.alloc (.cells #[.int .i64 0, .int .i64 0, .int .i64 0] 42)) := (Below.refl _ _).more _
  have C1 := aclok_any L _ _ (hr.below bX) hlen
  have fin : ∀ W, Below (w.alloc (.cells #[.int .i64 0, .int .i64 0, .int .i64 0] 42)).heap.size (w.alloc (.cells #[.int .i64 0, .int .i64 0, .int .i64 0] 42)) W → (W.cell? ⟨w.heap.size, 0, none⟩ = some (.int .i64 0) ∧ W.cell? ⟨w.heap.size, 1, none⟩ = some (.int .i64 0) ∧ W.cell? ⟨w.heap.size, 2, none⟩ = some (.int .i64 0) ∧ w.heap.size < W.heap.size) ∧ ∀ j, W.frozen? ⟨w.heap.size, j, none⟩ = false := fun W h => ⟨box3 h, fun j => (h.frozen (p := ⟨w.heap.size, j, none⟩) (by simp)).trans (fz_new _ _ _ _)⟩
  have hwl : IntKind.i64.wrap ((L.length : Int) - 1) = (L.length : Int) - 1 := by rw [IntKind.wrap_i64]; omega
  by_cases hgood : okRs L = true ∧ 0 ≤ a ∧ a < L.length
  · obtain ⟨hok, a0, a1⟩ := hgood
    rw [hok] at C1
    have hin : inB a 0 ((L.length : Int) - 1) = true := inB_yes (by omega)
    obtain ⟨h12, hall⟩ := okRs_of hok
    have C2 := fun gB W h1 h2 => least_any L [] a g cap gB 0 W h1 h2 hall (by simp) (by omega) (by simp)
    have HWT : Hid (∀ r, IsLeast (fun p => soB L [] a p = true) r → WitS L a r) := fun r h => ⟨fun _ => h.congr (fun p _ => by
        unfold soB
        rw [if_pos a0, decide_eq_true_iff]
        have := saysN_iff (L := L) (p := p) (i := a.toNat) (by omega)
        rwa [show ((a.toNat : Nat) : Int) = a by omega] at this), fun hn => absurd ⟨hok, a0, a1⟩ hn⟩
    go_enter Try.func30, Try.ntmps30
    go_wp2_with (first | (go_at_call 34; refine C1.mono ?_; clear C1; rintro e W1 ⟨rfl, hb1⟩) | (go_at_call 48; refine (in_any _ _ _ _).mono ?_; rintro e W3 ⟨rfl, hw⟩; obtain rfl := hw.symm) | (go_at_call 62; refine (C2 W1.heap.size _ ((hr.below (below_then bX hb1)).below ((Below.refl _ _).more _)) (rdR_none _)).mono ?_; clear C2; rintro e W2 ⟨r, rfl, hw2, hb2⟩; have b2 := below_then (hb1.more _) hb2; obtain ⟨⟨z0, z1, z2, zl⟩, zf⟩ := fin _ b2))
    refine bodyPost_ret (v := pkO r) (by simp [results, Try.results30, go_sem, z0, z1, z2]) rfl ⟨_, rfl, HWT.out _ hw2, ?_⟩
    exact (((below_then bX b2).setCell (p := ⟨w.heap.size, 0, none⟩) (Nat.le_refl _) _).setCell (p := ⟨w.heap.size, 1, none⟩) (Nat.le_refl _) _).setCell (p := ⟨w.heap.size, 2, none⟩) (Nat.le_refl _) _
  · have HN : Hid (WitS L a none) := witS_no hgood
    cases hok : okRs L with
    | false =>
      rw [hok] at C1
      go_enter Try.func30, Try.ntmps30
      go_wp2_with (go_at_call 34; refine C1.mono ?_; clear C1; rintro e W1 ⟨rfl, hb1⟩; obtain ⟨⟨z0, z1, z2, zl⟩, zf⟩ := fin _ hb1)
      refine bodyPost_ret (v := pkO none) (by simp [results, Try.results30, go_sem, z0, z1, z2]) rfl ⟨_, rfl, HN.out, ?_⟩
      exact (((below_then bX hb1).setCell (p := ⟨w.heap.size, 0, none⟩) (Nat.le_refl _) _).setCell (p := ⟨w.heap.size, 1, none⟩) (Nat.le_refl _) _).setCell (p := ⟨w.heap.size, 2, none⟩) (Nat.le_refl _) _
    | true =>
      rw [hok] at C1
      have hin : inB a 0 ((L.length : Int) - 1) = false := inB_no (by simp only [hok, true_and] at hgood; omega)
      go_enter Try.func30, Try.ntmps30
      go_wp2_with (first | (go_at_call 34; refine C1.mono ?_; clear C1; rintro e W1 ⟨rfl, hb1⟩; obtain ⟨⟨z0, z1, z2, zl⟩, zf⟩ := fin _ hb1) | (go_at_call 48; refine (in_any _ _ _ _).mono ?_; rintro e W3 ⟨rfl, hw⟩; obtain rfl := hw.symm))
      refine bodyPost_ret (v := pkO none) (by simp [results, Try.results30, go_sem, z0, z1, z2]) rfl ⟨_, rfl, HN.out, ?_⟩
      exact (((below_then bX hb1).setCell (p := ⟨w.heap.size, 0, none⟩) (Nat.le_refl _) _).setCell (p := ⟨w.heap.size, 1, none⟩) (Nat.le_refl _) _).setCell (p := ⟨w.heap.size, 2, none⟩) (Nat.le_refl _) _
end Go.Proofs.Ytaoahghfmlegbaa
