/- The program's and the model's AclDiffer. -/
import Derived.Test.YtaoahghfmlegbaaEd10
namespace Go.Proofs.Ytaoahghfmlegbaa
open Go.RowKit Go.Lib Go.Maps

def InvD (la lb : Nat) (u v : Value) (A B : List Ru) (W : World) : Prop := Lst W la u A ∧ Lst W lb v B
theorem InvD.below {la lb : Nat} {u v : Value} {A B : List Ru} {W W' : World} (h : InvD la lb u v A B W) (hb : Below W.heap.size W W') : InvD la lb u v A B W' := ⟨h.1.below hb, h.2.below hb⟩

set_option maxRecDepth 100000 in
set_option maxHeartbeats 1000000 in
theorem closD_any (la lb : Nat) (u v : Value) (A B : List Ru) (W : World) (f t n : Int) (h : InvD la lb u v A B W) (hne : la ≠ lb) (oA : okRs A = true) (oB : okRs B = true) (f2 : f ≤ 65535) (t2 : t ≤ 65535) :
    Calls Try.prog 65 #[pkV (f, t, n), .pointer (some ⟨la, 0, none⟩), .pointer (some ⟨lb, 0, none⟩)] W fun e W' => e = .returned (.bool (saysB A (f, t, n) != saysB B (f, t, n))) ∧ InvD la lb u v A B W' ∧ KeepZ (fun k => k = la ∨ k = lb) W W' := by
  obtain ⟨hA, hB⟩ := h
  have hb0 : Below W.heap.size W (W.alloc (.cells #[.int .i64 f, .int .i64 t, .int .i64 n] 42)) := (Below.refl _ _).more _
  have hA0 := hA.below hb0
  have hB0 := hB.below hb0
  obtain ⟨pA, cA, rfl⟩ := hA0.rd.form
  obtain ⟨pB, cB, rfl⟩ := hB0.rd.form
  have CA := isays_any la _ A f t n _ hA0 oA (by omega) (by omega)
  have CB := fun W h => isays_any lb (.slice pB B.length cB) B f t n W h oB (by omega) (by omega)
  have x0 := box3n W f t n 42
  have xl : W.heap.size < (W.alloc (.cells #[.int .i64 f, .int .i64 t, .int .i64 n] 42)).heap.size := by simp
  have hwa : W.heap.size ≠ la := by have := cell_lt hA.cell; omega
  generalize saysB A (f, t, n) = bA at *
  generalize saysB B (f, t, n) = bB at *
  have HB0 : Hid (Below W.heap.size W (W.alloc (.cells #[.int .i64 f, .int .i64 t, .int .i64 n] 42))) := hb0
  clear hb0 hA hB
  go_enter Try.func65, Try.ntmps65
  go_wp2_with (go_at_call 58; have hg0 := hA0; refine CA.mono ?_; clear CA; rintro e W2 ⟨rfl, hA2, hg2⟩; have hB2 := hB0.beside hg2 hA0.cell (fun e => hne e.symm); have y0 := (hg2.cell_far ⟨W.heap.size, 0, none⟩ xl (by simpa using hwa)).trans x0.1; have y1 := (hg2.cell_far ⟨W.heap.size, 1, none⟩ xl (by simpa using hwa)).trans x0.2.1; have y2 := (hg2.cell_far ⟨W.heap.size, 2, none⟩ xl (by simpa using hwa)).trans x0.2.2; have k2 : KeepZ (fun k => k = la ∨ k = lb) W W2 := (KeepZ.of_below HB0.out).trans (.of_grown hg2 (.inl rfl) (hA2.cell.trans hA0.cell.symm)); clear hA0 hB0 hg2 hg0)
  go_wp2_with (go_at_call 58; refine (CB _ hB2).mono ?_; clear CB; rintro e W3 ⟨rfl, hB3, hg3⟩; have hA3 := hA2.beside hg3 hB2.cell hne; have k3 : KeepZ (fun k => k = la ∨ k = lb) W W3 := k2.trans (.of_grown hg3 (.inr rfl) (hB3.cell.trans hB2.cell.symm)))
  go_ret
  exact ⟨rfl, ⟨hA3, hB3⟩, k3⟩

/-- what AclDiffer tells -/
def DifS (A B : List Ru) (r : Option Pk) : Prop := (okRs A = true ∧ okRs B = true → Dif A B r) ∧ (¬ (okRs A = true ∧ okRs B = true) → r = none)
theorem DifS.uniq {A B : List Ru} {r s : Option Pk} (h : DifS A B r) (k : DifS A B s) : r = s := by
  by_cases c : okRs A = true ∧ okRs B = true
  · exact (h.1 c).uniq (k.1 c)
  · rw [h.2 c, k.2 c]
theorem DifS.swap {A B : List Ru} {r : Option Pk} (h : DifS A B r) : DifS B A r :=
  ⟨fun c => (h.1 ⟨c.2, c.1⟩).congr (fun _ _ => ⟨Ne.symm, Ne.symm⟩), fun c => h.2 (fun k => c ⟨k.2, k.1⟩)⟩
theorem difS_no {A B : List Ru} (h : ¬ (okRs A = true ∧ okRs B = true)) : DifS A B none := ⟨fun k => absurd k h, fun _ => rfl⟩
theorem rdL_two {w : World} {u v : Value} {A B : List Ru} (h : RdR w u A) (k : RdR w v B) (t : TypeId) : RdL (w.alloc (.cells #[u, v] t)) (.slice (some ⟨w.heap.size, 0, none⟩) 2 2) [A, B] := by
  refine ⟨w.heap.size, 2, rfl, by simp, fun i M hM => ?_⟩
  match i, hM with
  | 0, hM => simp at hM; subst hM; exact ⟨u, by simp, h.below ((Below.refl _ _).more _)⟩
  | 1, hM => simp at hM; subst hM; exact ⟨v, by simp, k.below ((Below.refl _ _).more _)⟩
  | i + 2, hM => simp at hM

set_option maxRecDepth 100000 in
set_option maxHeartbeats 1600000 in
theorem acldif_any (gA cA gB cB : Nat) (A B : List Ru) (w : World) (hA : RdR w (.slice (some ⟨gA, 0, none⟩) A.length cA) A) (hB : RdR w (.slice (some ⟨gB, 0, none⟩) B.length cB) B) (lA : A.length ≤ 1048576) (lB : B.length ≤ 1048576) :
    Calls Try.prog 33 #[.slice (some ⟨gA, 0, none⟩) A.length cA, .slice (some ⟨gB, 0, none⟩) B.length cB] w fun e w' => ∃ r, e = .returned (pkO r) ∧ DifS A B r ∧ Below w.heap.size w w' := by
  have bX : Below w.heap.size w (w.alloc (.cells #[.int .i64 0, .int .i64 0, .int .i64 0] 42)) := (Below.refl _ _).more _
  have C1 := aclok_any A _ _ (hA.below bX) lA
  have C1b := fun W h => aclok_any B (.slice (some ⟨gB, 0, none⟩) B.length cB) W h lB
  have fin : ∀ W, Below (w.alloc (.cells #[.int .i64 0, .int .i64 0, .int .i64 0] 42)).heap.size (w.alloc (.cells #[.int .i64 0, .int .i64 0, .int .i64 0] 42)) W → (W.cell? ⟨w.heap.size, 0, none⟩ = some (.int .i64 0) ∧ W.cell? ⟨w.heap.size, 1, none⟩ = some (.int .i64 0) ∧ W.cell? ⟨w.heap.size, 2, none⟩ = some (.int .i64 0) ∧ w.heap.size < W.heap.size) ∧ ∀ j, W.frozen? ⟨w.heap.size, j, none⟩ = false := fun W h => ⟨box3 h, fun j => (h.frozen (p := ⟨w.heap.size, j, none⟩) (by simp)).trans (fz_new _ _ _ _)⟩
  have T1 : Hid True := trivial
  by_cases hgood : okRs A = true ∧ okRs B = true
  · obtain ⟨oA, oB⟩ := hgood
    rw [oA] at C1
    simp only [oB] at C1b
    have C2 := fun W h1 h2 => least_any A B (-1) gA cA gB cB W h1 h2 (okRs_of oA).2 (okRs_of oB).2 (by have := (okRs_of oA).1; omega) (by have := (okRs_of oB).1; omega)
    have HWT : Hid (∀ r, IsLeast (fun p => soB A B (-1) p = true) r → DifS A B r) := fun r h => ⟨fun _ => h.congr (fun p _ => by unfold soB; rw [if_neg (by omega)]; simp), fun hn => absurd ⟨oA, oB⟩ hn⟩
    go_enter Try.func33, Try.ntmps33
    go_wp2_with (first | (go_at_call 34; clear T1; refine C1.mono ?_; clear C1; rintro e W1 ⟨rfl, hb1⟩) | (go_at_call 34; refine (C1b _ (hB.below (below_then bX hb1))).mono ?_; clear C1b; rintro e W3 ⟨rfl, hb3⟩; have b3 := below_then hb1 hb3) | (go_at_call 62; refine (C2 _ (hA.below (below_then bX b3)) (hB.below (below_then bX b3))).mono ?_; clear C2; rintro e W2 ⟨r, rfl, hw2, hb2⟩; have b2 := below_then b3 hb2; obtain ⟨⟨z0, z1, z2, zl⟩, zf⟩ := fin _ b2))
    refine bodyPost_ret (v := pkO r) (by simp [results, Try.results33, go_sem, z0, z1, z2]) rfl ⟨_, rfl, HWT.out _ hw2, ?_⟩
    exact (((below_then bX b2).setCell (p := ⟨w.heap.size, 0, none⟩) (Nat.le_refl _) _).setCell (p := ⟨w.heap.size, 1, none⟩) (Nat.le_refl _) _).setCell (p := ⟨w.heap.size, 2, none⟩) (Nat.le_refl _) _
  · have HN : Hid (DifS A B none) := difS_no hgood
    cases oA : okRs A with
    | false =>
      rw [oA] at C1
      go_enter Try.func33, Try.ntmps33
      go_wp2_with (go_at_call 34; refine C1.mono ?_; clear C1; rintro e W1 ⟨rfl, hb1⟩; obtain ⟨⟨z0, z1, z2, zl⟩, zf⟩ := fin _ hb1)
      refine bodyPost_ret (v := pkO none) (by simp [results, Try.results33, go_sem, z0, z1, z2]) rfl ⟨_, rfl, HN.out, ?_⟩
      exact (((below_then bX hb1).setCell (p := ⟨w.heap.size, 0, none⟩) (Nat.le_refl _) _).setCell (p := ⟨w.heap.size, 1, none⟩) (Nat.le_refl _) _).setCell (p := ⟨w.heap.size, 2, none⟩) (Nat.le_refl _) _
    | true =>
      rw [oA] at C1
      have oB : okRs B = false := by cases h : okRs B with | false => rfl | true => exact absurd ⟨oA, h⟩ hgood
      simp only [oB] at C1b
      go_enter Try.func33, Try.ntmps33
      go_wp2_with (first | (go_at_call 34; clear T1; refine C1.mono ?_; clear C1; rintro e W1 ⟨rfl, hb1⟩) | (go_at_call 34; refine (C1b _ (hB.below (below_then bX hb1))).mono ?_; clear C1b; rintro e W3 ⟨rfl, hb3⟩; have b3 := below_then hb1 hb3; obtain ⟨⟨z0, z1, z2, zl⟩, zf⟩ := fin _ b3))
      refine bodyPost_ret (v := pkO none) (by simp [results, Try.results33, go_sem, z0, z1, z2]) rfl ⟨_, rfl, HN.out, ?_⟩
      exact (((below_then bX b3).setCell (p := ⟨w.heap.size, 0, none⟩) (Nat.le_refl _) _).setCell (p := ⟨w.heap.size, 1, none⟩) (Nat.le_refl _) _).setCell (p := ⟨w.heap.size, 2, none⟩) (Nat.le_refl _) _
end Go.Proofs.Ytaoahghfmlegbaa
