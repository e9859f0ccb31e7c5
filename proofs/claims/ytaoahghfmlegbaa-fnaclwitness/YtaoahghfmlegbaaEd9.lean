/- The program's witness and AclWitness. -/
import Derived.Test.YtaoahghfmlegbaaEd8
namespace Go.Proofs.Ytaoahghfmlegbaa
open Go.RowKit Go.Lib Go.Maps

theorem rdL_one {w : World} {u : Value} {L : List Ru} (h : RdR w u L) (t : TypeId) : RdL (w.alloc (.cells #[u] t)) (.slice (some ⟨w.heap.size, 0, none⟩) 1 1) [L] := by
  refine ⟨w.heap.size, 1, rfl, by simp, fun i M hM => ?_⟩
  match i, hM with
  | 0, hM => simp at hM; subst hM; exact ⟨u, by simp, h.below ((Below.refl _ _).more _)⟩
  | i + 1, hM => simp at hM

theorem set3_far (W : World) (x y z : Value) (b n j : Nat) (h : b ≠ n) : (((W.setCell ⟨n, 0, none⟩ x).setCell ⟨n, 1, none⟩ y).setCell ⟨n, 2, none⟩ z).cell? ⟨b, j, none⟩ = W.cell? ⟨b, j, none⟩ := by
  rw [World.cell?_setCell_far _ _ _ _ (fun e => h e.symm), World.cell?_setCell_far _ _ _ _ (fun e => h e.symm), World.cell?_setCell_far _ _ _ _ (fun e => h e.symm)]
theorem three_bx (w : World) (p q x y z : Value) (tp tq t : TypeId) :
    (((w.alloc (.cells #[p] tp)).alloc (.cells #[q] tq)).alloc (.cells #[x, y, z] t)).cell? ⟨w.heap.size, 0, none⟩ = some p ∧ (((w.alloc (.cells #[p] tp)).alloc (.cells #[q] tq)).alloc (.cells #[x, y, z] t)).cell? ⟨w.heap.size + 1, 0, none⟩ = some q ∧
    ((((w.alloc (.cells #[p] tp)).alloc (.cells #[q] tq)).alloc (.cells #[x, y, z] t)).cell? ⟨w.heap.size + 1 + 1, 0, none⟩ = some x ∧ (((w.alloc (.cells #[p] tp)).alloc (.cells #[q] tq)).alloc (.cells #[x, y, z] t)).cell? ⟨w.heap.size + 1 + 1, 1, none⟩ = some y ∧ (((w.alloc (.cells #[p] tp)).alloc (.cells #[q] tq)).alloc (.cells #[x, y, z] t)).cell? ⟨w.heap.size + 1 + 1, 2, none⟩ = some z) ∧
    (((w.alloc (.cells #[p] tp)).alloc (.cells #[q] tq)).alloc (.cells #[x, y, z] t)).heap.size = w.heap.size + 3 ∧ ∀ j, (((w.alloc (.cells #[p] tp)).alloc (.cells #[q] tq)).alloc (.cells #[x, y, z] t)).frozen? ⟨w.heap.size + 1 + 1, j, none⟩ = false := by
  have e : w.heap.size + 1 + 1 = ((w.alloc (.cells #[p] tp)).alloc (.cells #[q] tq)).heap.size := by simp
  refine ⟨?_, ?_, ⟨?_, ?_, ?_⟩, by simp, fun j => ?_⟩
  · rw [World.cell?_alloc_lt _ _ _ (by simp; omega), World.cell?_alloc_lt _ _ _ (by simp)]; simp
  · rw [World.cell?_alloc_lt _ _ _ (by simp), World.cell?_alloc_at _ _ _ _ (by simp)]; rfl
  · rw [World.cell?_alloc_at _ _ _ _ (by simp)]; rfl
  · rw [World.cell?_alloc_at _ _ _ _ (by simp)]; rfl
  · rw [World.cell?_alloc_at _ _ _ _ (by simp)]; rfl
  · rw [e]; exact fz_new _ _ _ _

set_option maxRecDepth 100000 in
set_option maxHeartbeats 800000 in
theorem iwit_any (lb g cap i : Nat) (L : List Ru) (w : World) (hl : Lst w lb (.slice (some ⟨g, 0, none⟩) L.length cap) L) (hi : i < L.length) (hok : okRs L = true) :
    Calls Try.prog 61 #[.pointer (some ⟨lb, 0, none⟩), .int .i64 (i : Int)] w fun e w' => ∃ r, e = .returned (pkO r) ∧ Wit L i r ∧ KeepZ (fun k => k = lb) w w' := by
  obtain ⟨h12, hall⟩ := okRs_of hok
  have hmf : ∀ (fn : Fn) (first cap : Array Value) (w : World), (Instr.makeFunc fn first cap).run Try.prog w = .ok (.func fn first cap) w := fun _ _ _ _ => rfl
  have hlb := cell_lt hl.cell
  have hlc : L.length ≤ cap := by
    rcases hl.rd with ⟨h1, _⟩ | ⟨g', cap', h1, h2, _⟩
    · cases h1
    · cases h1; exact h2
  have hic : i + 1 ≤ cap := by omega
  have hwi := wadd_at (i := (i : Int)) (by omega) (by omega)
  have bV : Below w.heap.size w (((w.alloc (.cells #[.pointer (some ⟨lb, 0, none⟩)] 119)).alloc (.cells #[.int .i64 (i : Int)] 3)).alloc (.cells #[.int .i64 0, .int .i64 0, .int .i64 0] 42)) := (((Below.refl _ _).more _).more _).more _
  obtain ⟨v1, v2, v4, v3, v5⟩ := three_bx w (.pointer (some ⟨lb, 0, none⟩)) (.int .i64 (i : Int)) (.int .i64 0) (.int .i64 0) (.int .i64 0) 119 3 42
  have hc1 : (0 : Int) ≤ (i : Int) + 1 := by omega
  have hc2 : (i : Int) + 1 ≤ (cap : Int) := by omega
  have hlV := hl.below bV
  go_enter Try.func61, Try.ntmps61
  go_wp2_with fail
  generalize ((w.alloc (.cells #[.pointer (some ⟨lb, 0, none⟩)] 119)).alloc (.cells #[.int .i64 (i : Int)] 3)).alloc (.cells #[.int .i64 0, .int .i64 0, .int .i64 0] 42) = V at *
  have HV : Hid (V.heap.size = w.heap.size + 3) := v3
  have hV1 : w.heap.size < V.heap.size := by omega
  have hV2 : w.heap.size + 1 < V.heap.size := by omega
  have hV3 : lb < V.heap.size := by omega
  have hV4 : w.heap.size + 1 + 1 < V.heap.size := by omega
  clear v3
  have sc : ∀ w', KeepZ (fun k => k = lb) V w' → (fun w' => w'.cell? ⟨w.heap.size, 0, none⟩ = some (.pointer (some ⟨lb, 0, none⟩)) ∧ w'.cell? ⟨w.heap.size + 1, 0, none⟩ = some (.int .i64 (i : Int)) ∧ w'.cell? ⟨lb, 0, none⟩ = some (.slice (some ⟨g, 0, none⟩) L.length cap)) w' := fun w' h => ⟨(h.2.2.2 _ hV1).trans v1, (h.2.2.2 _ hV2).trans v2, (h.2.2.2 _ hV3).trans hlV.cell⟩
  have k0 : KeepZ (fun k => k = lb) V V.drew := .of_below (Below.refl _ _).drew
  refine wp_region_held_drew (S := fun w' => w'.cell? ⟨w.heap.size, 0, none⟩ = some (.pointer (some ⟨lb, 0, none⟩)) ∧ w'.cell? ⟨w.heap.size + 1, 0, none⟩ = some (.int .i64 (i : Int)) ∧ w'.cell? ⟨lb, 0, none⟩ = some (.slice (some ⟨g, 0, none⟩) L.length cap)) (by kernel_rfl) (sc _ k0) (fun hHeld => ?_)
  refine wpAnyH_take (i := 0) (oi := ⟨_, _, _, _, _, _⟩) (v := ?_) rfl (by kernel_rfl) (by kernel_rfl) (by kernel_rfl) (fun _ _ _ h => h) (Or.inl ⟨by rfl, ?_⟩) (by assumption) ?_
  rotate_left
  · (intro w hSw; (try dsimp only at hSw); go_simp; try with_reducible rfl)
  simp only [Act.put, List.setIfInBounds_toArray, List.set_cons_zero, List.set_cons_succ]
  refine wpAnyH_take (i := 1) (oi := ⟨_, _, _, _, _, _⟩) (v := ?_) rfl (by kernel_rfl) (by kernel_rfl) (by kernel_rfl) (fun _ _ _ h => h) (Or.inl ⟨by rfl, ?_⟩) (by assumption) ?_
  rotate_left
  · (intro w hSw; (try dsimp only at hSw); go_simp; try with_reducible rfl)
  simp only [Act.put, List.setIfInBounds_toArray, List.set_cons_zero, List.set_cons_succ]
  refine wpAnyH_take (i := 2) (oi := ⟨_, _, _, _, _, _⟩) (v := ?_) rfl (by kernel_rfl) (by kernel_rfl) (by kernel_rfl) (fun _ _ _ h => h) (Or.inl ⟨by rfl, ?_⟩) (by assumption) ?_
  rotate_left
  · (intro w hSw; (try dsimp only at hSw); go_simp; try with_reducible rfl)
  simp only [Act.put, List.setIfInBounds_toArray, List.set_cons_zero, List.set_cons_succ]
  refine wpAnyH_take (i := 3) (oi := ⟨_, _, _, _, _, _⟩) (v := ?_) rfl (by kernel_rfl) (by kernel_rfl) (by kernel_rfl) (fun _ _ _ h => h) (Or.inl ⟨by rfl, ?_⟩) (by assumption) ?_
  rotate_left
  · (intro w hSw; (try dsimp only at hSw); go_simp; try with_reducible rfl)
  simp only [Act.put, List.setIfInBounds_toArray, List.set_cons_zero, List.set_cons_succ]
  refine wpAnyH_take (i := 4) (oi := ⟨_, _, _, _, _, _⟩) (v := ?_) rfl (by kernel_rfl) (by kernel_rfl) (by kernel_rfl) (fun _ _ _ h => h) (Or.inl ⟨by rfl, ?_⟩) (by assumption) ?_
  rotate_left
  · (intro w hSw; (try dsimp only at hSw); go_simp; try with_reducible rfl)
  simp only [Act.put, List.setIfInBounds_toArray, List.set_cons_zero, List.set_cons_succ]
  refine wpAnyH_take (i := 5) (oi := ⟨_, _, _, _, _, _⟩) (v := ?_) rfl (by kernel_rfl) (by kernel_rfl) (by kernel_rfl) (fun _ _ _ h => h) (Or.inl ⟨by rfl, ?_⟩) (by assumption) ?_
  rotate_left
  · (intro w hSw; (try dsimp only at hSw); go_simp; try with_reducible rfl)
  simp only [Act.put, List.setIfInBounds_toArray, List.set_cons_zero, List.set_cons_succ]
  refine wpAnyH_take (i := 6) (oi := ⟨_, _, _, _, _, _⟩) (v := ?_) rfl (by kernel_rfl) (by kernel_rfl) (by kernel_rfl) (fun _ _ _ h => h) (Or.inl ⟨by rfl, ?_⟩) (by assumption) ?_
  rotate_left
  · (intro w hSw; (try dsimp only at hSw); go_simp; try with_reducible rfl)
  simp only [Act.put, List.setIfInBounds_toArray, List.set_cons_zero, List.set_cons_succ]
  refine wpAnyH_take (i := 9) (oi := ⟨_, _, _, _, _, _⟩) (v := ?_) rfl (by kernel_rfl) (by kernel_rfl) (by kernel_rfl) (fun _ _ _ h => h) (Or.inl ⟨by rfl, ?_⟩) (by assumption) ?_
  rotate_left
  · (intro w hSw; (try dsimp only at hSw); go_simp; try with_reducible rfl)
  simp only [Act.put, List.setIfInBounds_toArray, List.set_cons_zero, List.set_cons_succ]
  have hrd : RdR V (.slice (some ⟨g, 0, none⟩) (i + 1) cap) (L.take (i + 1)) := hlV.rd.take (i + 1) (by omega)
  have hRL := (rdL_one hrd 40).below (Below.refl _ _).drew
  have b7 : Below V.heap.size V (V.alloc (.cells #[.slice (some ⟨g, 0, none⟩) (i + 1) cap] 40)).drew := ((Below.refl _ V).more _).drew
  have hokT : ∀ r ∈ L.take (i + 1), okR r = true := fun r hr => hall r (List.mem_of_mem_take hr)
  have C8 := edges_any [L.take (i + 1)] _ _ hRL (fun M hM => by simp at hM; subst hM; exact hokT) (by simp; omega) (by simp)
  rw [show [L.take (i + 1)].flatten = L.take (i + 1) by simp] at C8
  refine wpAnyH_ready (rs := [7]) (by kernel_rfl) (by simp) (AllReadyH.cons (o := ⟨_, _, _, _, _, _⟩) rfl (fun K hK => ?_) AllReadyH.nil)
  go_simp
  refine hK.out _ _ (sc _ (.of_below b7)) (fun hHeld => ?_)
  clear hK K
  try simp only [Act.put, List.setIfInBounds_toArray, List.set_cons_zero, List.set_cons_succ]
  generalize (V.alloc (.cells #[.slice (some ⟨g, 0, none⟩) (i + 1) cap] 40)).drew = U1 at *
  refine wpAnyH_ready (rs := [8]) (by kernel_rfl) (by simp) (AllReadyH.cons (o := ⟨_, _, _, _, _, _⟩) rfl (fun K hK => ?_) AllReadyH.nil)
  go_simp
  go_at_call 63
  refine C8.mono ?_
  clear C8
  rintro e U2 ⟨rfl, mE, hb8⟩
  have b8 := below_then b7 hb8
  go_wp2_with fail
  refine hK.out _ _ (sc _ (.of_below b8)) (fun hHeld => ?_)
  clear hK K
  try simp only [Act.put, List.setIfInBounds_toArray, List.set_cons_zero, List.set_cons_succ]
  have hl2 := hlV.below b8
  have s8 := sc _ (.of_below b8)
  have C10 := leastW w.heap.size (w.heap.size + 1) (fun p => decide (saysN L p = (i : Int))) (InvW lb w.heap.size (w.heap.size + 1) (.slice (some ⟨g, 0, none⟩) L.length cap) L (i : Int)) (fun k => k = lb) U1.heap.size (rulesE (L.take (i + 1))) U2 mE ((mem_rulesE _ _ _).2 (.inl (by simp [E0]))) ((mem_rulesE _ _ _).2 (.inl (by simp [E0]))) ((mem_rulesE _ _ _).2 (.inl (by simp [E0])))
    (fun p a h => rulesE_bd hokT h) ⟨hl2, s8.1, s8.2.1⟩ (fun W W' h hb => h.below hb) (fun k h => by subst h; exact cell_lt s8.2.2)
    (fun W f t n hI _ f2 _ t2 => closW_any lb w.heap.size (w.heap.size + 1) _ L (i : Int) W f t n hI (by omega) (by omega) hok f2 t2)
  refine wpAnyH_ready (rs := [10]) (by kernel_rfl) (by simp) (AllReadyH.cons (o := ⟨_, _, _, _, _, _⟩) rfl (fun K hK => ?_) AllReadyH.nil)
  go_simp
  go_at_call 64
  refine C10.mono ?_
  clear C10
  rintro e U3 ⟨r, rfl, ⟨F, T, KL, qF, qT, qK, hFd⟩, hK3⟩
  have k3 : KeepZ (fun k => k = lb) V U3 := (KeepZ.of_below b8).trans hK3
  have hW : Wit L i r := wit_take hi (by
    rcases hFd with ⟨h1, h2⟩ | ⟨f, t, k, h1, h2, h3, h4, h5, h6⟩
    · exact .inl ⟨h1, fun f hf t ht k hk h => h2 f hf t ht k hk (decide_eq_true ((saysN_iff hi).2 h))⟩
    · exact .inr ⟨f, t, k, h1, h2, h3, h4, (saysN_iff hi).1 (of_decide_eq_true h5), fun f' hf' t' ht' k' hk' h => h6 f' hf' t' ht' k' hk' (decide_eq_true ((saysN_iff hi).2 h))⟩) (partF hokT qF) (partT hokT qT) (partK hokT qK)
  have HW : Hid (Wit L i r) := hW
  go_wp2_with fail
  refine hK.out _ _ (sc _ k3) (fun hHeld => ?_)
  clear hK K
  try simp only [Act.put, List.setIfInBounds_toArray, List.set_cons_zero, List.set_cons_succ]
  obtain ⟨r0, r1, r2⟩ := v4
  have nl : ¬ (w.heap.size + 1 + 1 = lb) := by omega
  have x0 := ((k3.2.1 _ 0 hV4 nl).1).trans r0
  have x1 := ((k3.2.1 _ 1 hV4 nl).1).trans r1
  have x2 := ((k3.2.1 _ 2 hV4 nl).1).trans r2
  have xf : ∀ j, U3.frozen? ⟨w.heap.size + 1 + 1, j, none⟩ = false := fun j => ((k3.2.1 _ j hV4 nl).2).trans (v5 j)
  clear hW hFd qF qT qK hK3 s8 hl2
  refine wpAnyH_take (i := 11) (oi := ⟨_, _, _, _, _, _⟩) (v := ?_) rfl (by kernel_rfl) (by kernel_rfl) (by kernel_rfl) (fun _ _ _ h => h) (Or.inl ⟨by rfl, ?_⟩) (by assumption) ?_
  rotate_left
  · (intro w hSw; (try dsimp only at hSw); go_simp; try with_reducible rfl)
  simp only [Act.put, List.setIfInBounds_toArray, List.set_cons_zero, List.set_cons_succ]
  refine wpAnyH_take (i := 12) (oi := ⟨_, _, _, _, _, _⟩) (v := ?_) rfl (by kernel_rfl) (by kernel_rfl) (by kernel_rfl) (fun _ _ _ h => h) (Or.inl ⟨by rfl, ?_⟩) (by assumption) ?_
  rotate_left
  · (intro w hSw; (try dsimp only at hSw); go_simp; try with_reducible rfl)
  simp only [Act.put, List.setIfInBounds_toArray, List.set_cons_zero, List.set_cons_succ]
  refine wpAnyH_ready (rs := [13]) (by kernel_rfl) (by simp) (AllReadyH.cons (o := ⟨_, _, _, _, _, _⟩) rfl (fun K hK => ?_) AllReadyH.nil)
  go_simp
  have kS := ((KeepZ.of_below bV).trans k3).set3' (n := w.heap.size + 1 + 1) (by omega) (.int .i64 (r.getD (0, 0, 0)).1) (.int .i64 (r.getD (0, 0, 0)).2.1) (.int .i64 (r.getD (0, 0, 0)).2.2)
  have sS := sc _ k3
  have far := fun (b : Nat) (hb : b ≠ w.heap.size + 1 + 1) => set3_far U3 (.int .i64 (r.getD (0, 0, 0)).1) (.int .i64 (r.getD (0, 0, 0)).2.1) (.int .i64 (r.getD (0, 0, 0)).2.2) b (w.heap.size + 1 + 1) 0 hb
  refine hK.out _ _ (⟨(far _ (by omega)).trans sS.1, (far _ (by omega)).trans sS.2.1, (far _ (by omega)).trans sS.2.2⟩) (fun hHeld => ?_)
  clear hK K
  try simp only [Act.put, List.setIfInBounds_toArray, List.set_cons_zero, List.set_cons_succ]
  refine wpAnyH_take (i := 14) (oi := ⟨_, _, _, _, _, _⟩) (v := ?_) rfl (by kernel_rfl) (by kernel_rfl) (by kernel_rfl) (fun _ _ _ h => h) (Or.inl ⟨by rfl, ?_⟩) (by assumption) ?_
  rotate_left
  · (intro w hSw; (try dsimp only at hSw); go_simp; try with_reducible rfl)
  simp only [Act.put, List.setIfInBounds_toArray, List.set_cons_zero, List.set_cons_succ]
  refine wpAnyH_done (by kernel_rfl) ?_ _
  clear far sS
  go_wp2_with fail
  refine bodyPost_ret (v := pkO r) (by simp [results, Try.results61, go_sem, x0, x1, x2]) rfl ⟨_, rfl, HW.out, kS⟩

/-- what AclWitness tells: the least packet of which the rule at a place decides, or nothing -/
def WitS (L : List Ru) (at' : Int) (r : Option Pk) : Prop := (okRs L = true ∧ 0 ≤ at' ∧ at' < L.length → Wit L at'.toNat r) ∧ (¬ (okRs L = true ∧ 0 ≤ at' ∧ at' < L.length) → r = none)
theorem WitS.uniq {L : List Ru} {a : Int} {r s : Option Pk} (h : WitS L a r) (k : WitS L a s) : r = s := by
  by_cases c : okRs L = true ∧ 0 ≤ a ∧ a < L.length
  · exact (h.1 c).uniq (k.1 c)
  · rw [h.2 c, k.2 c]
theorem witS_no {L : List Ru} {a : Int} (h : ¬ (okRs L = true ∧ 0 ≤ a ∧ a < L.length)) : WitS L a none := ⟨fun k => absurd k h, fun _ => rfl⟩

set_option maxRecDepth 100000 in
set_option maxHeartbeats 1600000 in
theorem iaclwit_any (g cap : Nat) (L : List Ru) (a : Int) (w : World) (hr : RdR w (.slice (some ⟨g, 0, none⟩) L.length cap) L) (hlen : L.length ≤ 1048576) :
    Calls Try.prog 29 #[.slice (some ⟨g, 0, none⟩) L.length cap, .int .i64 a] w fun e w' => ∃ r, e = .returned (pkO r) ∧ WitS L a r ∧ Below w.heap.size w w' := by
  have bX : Below w.heap.size w (w.alloc (.cells #[.int .i64 0, .int .i64 0, .int .i64 0] 42)) := (Below.refl _ _).more _
  have C1 := iaclok_any L _ _ (hr.below bX) hlen
  have fin : ∀ W, Below (w.alloc (.cells #[.int .i64 0, .int .i64 0, .int .i64 0] 42)).heap.size (w.alloc (.cells #[.int .i64 0, .int .i64 0, .int .i64 0] 42)) W → (W.cell? ⟨w.heap.size, 0, none⟩ = some (.int .i64 0) ∧ W.cell? ⟨w.heap.size, 1, none⟩ = some (.int .i64 0) ∧ W.cell? ⟨w.heap.size, 2, none⟩ = some (.int .i64 0) ∧ w.heap.size < W.heap.size) ∧ ∀ j, W.frozen? ⟨w.heap.size, j, none⟩ = false := fun W h => ⟨box3 h, fun j => (h.frozen (p := ⟨w.heap.size, j, none⟩) (by simp)).trans (fz_new _ _ _ _)⟩
  by_cases hgood : okRs L = true ∧ 0 ≤ a ∧ a < L.length
  · obtain ⟨hok, a0, a1⟩ := hgood
    rw [hok] at C1
    have hd0 : decide (a < 0) = false := decide_eq_false (by omega)
    have hd1 : decide (a ≥ (L.length : Int)) = false := decide_eq_false (by omega)
    obtain ⟨i, rfl⟩ : ∃ i : Nat, a = (i : Int) := ⟨a.toNat, by omega⟩
    have C2 := fun lb W h => iwit_any lb g cap i L W h (by omega) hok
    have HWT : Hid (∀ r, Wit L i r → WitS L (i : Int) r) := fun r h => ⟨fun _ => by simpa using h, fun hn => absurd ⟨hok, a0, a1⟩ hn⟩
    go_enter Try.func29, Try.ntmps29
    go_wp2_with (first | (go_at_call 56; refine C1.mono ?_; clear C1; rintro e W1 ⟨rfl, hb1⟩) | (go_at_call 61; refine (C2 W1.heap.size _ (new_list (hr.below (below_then bX hb1)))).mono ?_; clear C2; rintro e W2 ⟨r, rfl, hw2, hk2⟩; have b2 : Below (w.alloc (.cells #[.int .i64 0, .int .i64 0, .int .i64 0] 42)).heap.size (w.alloc (.cells #[.int .i64 0, .int .i64 0, .int .i64 0] 42)) W2 := hk2.2.2.1 _ (fun k e => by subst e; exact hb1.size) (hb1.more _); obtain ⟨⟨z0, z1, z2, zl⟩, zf⟩ := fin _ b2))
    refine bodyPost_ret (v := pkO r) (by simp [results, Try.results29, go_sem, z0, z1, z2]) rfl ⟨_, rfl, HWT.out _ hw2, ?_⟩
    exact (((below_then bX b2).setCell (p := ⟨w.heap.size, 0, none⟩) (Nat.le_refl _) _).setCell (p := ⟨w.heap.size, 1, none⟩) (Nat.le_refl _) _).setCell (p := ⟨w.heap.size, 2, none⟩) (Nat.le_refl _) _
  · have HN : Hid (WitS L a none) := witS_no hgood
    cases hok : okRs L with
    | false =>
      rw [hok] at C1
      go_enter Try.func29, Try.ntmps29
      go_wp2_with (go_at_call 56; refine C1.mono ?_; clear C1; rintro e W1 ⟨rfl, hb1⟩; obtain ⟨⟨z0, z1, z2, zl⟩, zf⟩ := fin _ hb1)
      refine bodyPost_ret (v := pkO none) (by simp [results, Try.results29, go_sem, z0, z1, z2]) rfl ⟨_, rfl, HN.out, ?_⟩
      exact (((below_then bX hb1).setCell (p := ⟨w.heap.size, 0, none⟩) (Nat.le_refl _) _).setCell (p := ⟨w.heap.size, 1, none⟩) (Nat.le_refl _) _).setCell (p := ⟨w.heap.size, 2, none⟩) (Nat.le_refl _) _
    | true =>
      rw [hok] at C1
      by_cases a0 : a < 0
      · go_enter Try.func29, Try.ntmps29
        go_wp2_with (go_at_call 56; refine C1.mono ?_; clear C1; rintro e W1 ⟨rfl, hb1⟩; obtain ⟨⟨z0, z1, z2, zl⟩, zf⟩ := fin _ hb1)
        refine bodyPost_ret (v := pkO none) (by simp [results, Try.results29, go_sem, z0, z1, z2]) rfl ⟨_, rfl, HN.out, ?_⟩
        exact (((below_then bX hb1).setCell (p := ⟨w.heap.size, 0, none⟩) (Nat.le_refl _) _).setCell (p := ⟨w.heap.size, 1, none⟩) (Nat.le_refl _) _).setCell (p := ⟨w.heap.size, 2, none⟩) (Nat.le_refl _) _
      · have hd0 : decide (a < 0) = false := decide_eq_false a0
        have hd1 : decide (a ≥ (L.length : Int)) = true := decide_eq_true (by have := hgood; simp only [hok, true_and] at this; omega)
        go_enter Try.func29, Try.ntmps29
        go_wp2_with (go_at_call 56; refine C1.mono ?_; clear C1; rintro e W1 ⟨rfl, hb1⟩; obtain ⟨⟨z0, z1, z2, zl⟩, zf⟩ := fin _ hb1)
        refine bodyPost_ret (v := pkO none) (by simp [results, Try.results29, go_sem, z0, z1, z2]) rfl ⟨_, rfl, HN.out, ?_⟩
        exact (((below_then bX hb1).setCell (p := ⟨w.heap.size, 0, none⟩) (Nat.le_refl _) _).setCell (p := ⟨w.heap.size, 1, none⟩) (Nat.le_refl _) _).setCell (p := ⟨w.heap.size, 2, none⟩) (Nat.le_refl _) _
end Go.Proofs.Ytaoahghfmlegbaa
