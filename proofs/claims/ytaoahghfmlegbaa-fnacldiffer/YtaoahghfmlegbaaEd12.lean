/- The program's AclDiffer. -/
import Derived.Test.YtaoahghfmlegbaaEd11
namespace Go.Proofs.Ytaoahghfmlegbaa
open Go.RowKit Go.Lib Go.Maps

theorem dif_set {W : World} {u v : Value} {A B : List Ru} (hA : RdR W u A) (hB : RdR W v B) :
    InvD W.heap.size (W.heap.size + 1) u v A B (((W.alloc (newL u)).alloc (newL v)).alloc (.cells #[u, v] 40)) ∧ RdL (((W.alloc (newL u)).alloc (newL v)).alloc (.cells #[u, v] 40)) (.slice (some ⟨W.heap.size + 1 + 1, 0, none⟩) 2 2) [A, B] ∧ Below W.heap.size W (((W.alloc (newL u)).alloc (newL v)).alloc (.cells #[u, v] 40)) ∧ W.heap.size + 1 < (((W.alloc (newL u)).alloc (newL v)).alloc (.cells #[u, v] 40)).heap.size := by
  have b1 : Below W.heap.size W (W.alloc (newL u)) := (Below.refl _ _).more _
  have b2 : Below (W.alloc (newL u)).heap.size (W.alloc (newL u)) ((W.alloc (newL u)).alloc (newL v)) := (Below.refl _ _).more _
  have b3 : Below ((W.alloc (newL u)).alloc (newL v)).heap.size ((W.alloc (newL u)).alloc (newL v)) (((W.alloc (newL u)).alloc (newL v)).alloc (.cells #[u, v] 40)) := (Below.refl _ _).more _
  have l1 := ((new_list hA).below b2).below b3
  have l2 := (new_list (hB.below b1)).below b3
  have l3 := rdL_two ((hA.below b1).below b2) ((hB.below b1).below b2) 40
  rw [World.size_alloc] at l2
  rw [World.size_alloc, World.size_alloc] at l3
  exact ⟨⟨l1, l2⟩, l3, below_then (below_then b1 b2) b3, by simp⟩

set_option maxRecDepth 100000 in
set_option maxHeartbeats 1600000 in
theorem iacldif_any (A B : List Ru) (u v : Value) (w : World) (hA : RdR w u A) (hB : RdR w v B) (lA : A.length ≤ 1048576) (lB : B.length ≤ 1048576) :
    Calls Try.prog 32 #[u, v] w fun e w' => ∃ r, e = .returned (pkO r) ∧ DifS A B r ∧ Below w.heap.size w w' := by
  obtain ⟨pA, cA, rfl⟩ := hA.form
  obtain ⟨pB, cB, rfl⟩ := hB.form
  have hmf : ∀ (fn : Fn) (first cap : Array Value) (w : World), (Instr.makeFunc fn first cap).run Try.prog w = .ok (.func fn first cap) w := fun _ _ _ _ => rfl
  have bX : Below w.heap.size w (w.alloc (.cells #[.int .i64 0, .int .i64 0, .int .i64 0] 42)) := (Below.refl _ _).more _
  have C1 := iaclok_any A _ _ (hA.below bX) lA
  have C1b := fun W h => iaclok_any B (.slice pB B.length cB) W h lB
  have fin : ∀ W, Below (w.alloc (.cells #[.int .i64 0, .int .i64 0, .int .i64 0] 42)).heap.size (w.alloc (.cells #[.int .i64 0, .int .i64 0, .int .i64 0] 42)) W → (W.cell? ⟨w.heap.size, 0, none⟩ = some (.int .i64 0) ∧ W.cell? ⟨w.heap.size, 1, none⟩ = some (.int .i64 0) ∧ W.cell? ⟨w.heap.size, 2, none⟩ = some (.int .i64 0) ∧ w.heap.size < W.heap.size) ∧ ∀ j, W.frozen? ⟨w.heap.size, j, none⟩ = false := fun W h => ⟨box3 h, fun j => (h.frozen (p := ⟨w.heap.size, j, none⟩) (by simp)).trans (fz_new _ _ _ _)⟩
  have T1 : Hid True := trivial
  by_cases hgood : okRs A = true ∧ okRs B = true
  · obtain ⟨oA, oB⟩ := hgood
    rw [oA] at C1
    simp only [oB] at C1b
    have hall : ∀ r ∈ A ++ B, okR r = true := fun r hr => by rcases List.mem_append.1 hr with h | h; exact (okRs_of oA).2 r h; exact (okRs_of oB).2 r h
    have l12 := (okRs_of oA).1
    have l13 := (okRs_of oB).1
    go_enter Try.func32, Try.ntmps32
    go_wp2_with (first | (go_at_call 56; clear T1; refine C1.mono ?_; clear C1; rintro e W1 ⟨rfl, hb1⟩) | (go_at_call 56; refine (C1b _ (hB.below (below_then bX hb1))).mono ?_; clear C1b; rintro e W3 ⟨rfl, hb3⟩; have b3 := below_then hb1 hb3))
    obtain ⟨hI, hL, hBV, hsV⟩ := dif_set (hA.below (below_then bX b3)) (hB.below (below_then bX b3))
    generalize ((W3.alloc (newL (.slice pA A.length cA))).alloc (newL (.slice pB B.length cB))).alloc (.cells #[.slice pA A.length cA, .slice pB B.length cB] 40) = V at *
    have C8 := edges_any [A, B] _ V hL (fun M hM r hr => by simp at hM; rcases hM with rfl | rfl; exact hall r (by simp [hr]); exact hall r (by simp [hr])) (by simp; omega) (by simp)
    rw [show [A, B].flatten = A ++ B by simp] at C8
    have b4 := below_then b3 hBV
    have hd3 := b3.size
    go_wp2_with (first | (go_at_call 63; refine C8.mono ?_; clear C8; rintro e W5 ⟨rfl, mE, hb5⟩; have hI5 := hI.below hb5; have b5 := below_then b4 hb5; have hs5 := hb5.size; clear hI hL) | (go_at_call 64; refine (leastD W3.heap.size (W3.heap.size + 1) (fun p => saysB A p != saysB B p) (InvD W3.heap.size (W3.heap.size + 1) (.slice pA A.length cA) (.slice pB B.length cB) A B) (fun k => k = W3.heap.size ∨ k = W3.heap.size + 1) _ (rulesE (A ++ B)) W5 mE ((mem_rulesE _ _ _).2 (.inl (by simp [E0]))) ((mem_rulesE _ _ _).2 (.inl (by simp [E0]))) ((mem_rulesE _ _ _).2 (.inl (by simp [E0]))) (fun p a h => rulesE_bd hall h) hI5 (fun W W' h hb => h.below hb) (fun k h => by rcases h with rfl | rfl <;> omega) (fun W f t n hI _ f2 _ t2 => closD_any W3.heap.size (W3.heap.size + 1) _ _ A B W f t n hI (by omega) oA oB f2 t2)).mono ?_; rintro e W6 ⟨r, rfl, ⟨F, T, KL, qF, qT, qK, hFd⟩, hK6⟩; have b6 := hK6.2.2.1 _ (fun k h => by rcases h with rfl | rfl <;> omega) b5; obtain ⟨⟨z0, z1, z2, zl⟩, zf⟩ := fin _ b6))
    have hD : DifS A B r := ⟨fun _ => dif_all (by
        rcases hFd with ⟨h1, h2⟩ | ⟨f, t, k, h1, h2, h3, h4, h5, h6⟩
        · exact .inl ⟨h1, fun f hf t ht k hk h => h2 f hf t ht k hk (by simpa using h)⟩
        · exact .inr ⟨f, t, k, h1, h2, h3, h4, by simpa using h5, fun f' hf' t' ht' k' hk' h => h6 f' hf' t' ht' k' hk' (by simpa using h)⟩) (partF hall qF) (partT hall qT) (partK hall qK), fun hn => absurd ⟨oA, oB⟩ hn⟩
    refine bodyPost_ret (v := pkO r) (by simp [results, Try.results32, go_sem, z0, z1, z2]) rfl ⟨_, rfl, hD, ?_⟩
    exact (((below_then bX b6).setCell (p := ⟨w.heap.size, 0, none⟩) (Nat.le_refl _) _).setCell (p := ⟨w.heap.size, 1, none⟩) (Nat.le_refl _) _).setCell (p := ⟨w.heap.size, 2, none⟩) (Nat.le_refl _) _
  · have HN : Hid (DifS A B none) := difS_no hgood
    cases oA : okRs A with
    | false =>
      rw [oA] at C1
      go_enter Try.func32, Try.ntmps32
      go_wp2_with (go_at_call 56; refine C1.mono ?_; clear C1; rintro e W1 ⟨rfl, hb1⟩; obtain ⟨⟨z0, z1, z2, zl⟩, zf⟩ := fin _ hb1)
      refine bodyPost_ret (v := pkO none) (by simp [results, Try.results32, go_sem, z0, z1, z2]) rfl ⟨_, rfl, HN.out, ?_⟩
      exact (((below_then bX hb1).setCell (p := ⟨w.heap.size, 0, none⟩) (Nat.le_refl _) _).setCell (p := ⟨w.heap.size, 1, none⟩) (Nat.le_refl _) _).setCell (p := ⟨w.heap.size, 2, none⟩) (Nat.le_refl _) _
    | true =>
      rw [oA] at C1
      have oB : okRs B = false := by cases h : okRs B with | false => rfl | true => exact absurd ⟨oA, h⟩ hgood
      simp only [oB] at C1b
      go_enter Try.func32, Try.ntmps32
      go_wp2_with (first | (go_at_call 56; clear T1; refine C1.mono ?_; clear C1; rintro e W1 ⟨rfl, hb1⟩) | (go_at_call 56; refine (C1b _ (hB.below (below_then bX hb1))).mono ?_; clear C1b; rintro e W3 ⟨rfl, hb3⟩; have b3 := below_then hb1 hb3; obtain ⟨⟨z0, z1, z2, zl⟩, zf⟩ := fin _ b3))
      refine bodyPost_ret (v := pkO none) (by simp [results, Try.results32, go_sem, z0, z1, z2]) rfl ⟨_, rfl, HN.out, ?_⟩
      exact (((below_then bX b3).setCell (p := ⟨w.heap.size, 0, none⟩) (Nat.le_refl _) _).setCell (p := ⟨w.heap.size, 1, none⟩) (Nat.le_refl _) _).setCell (p := ⟨w.heap.size, 2, none⟩) (Nat.le_refl _) _
end Go.Proofs.Ytaoahghfmlegbaa
