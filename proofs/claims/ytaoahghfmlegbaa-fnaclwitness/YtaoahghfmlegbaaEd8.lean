/- The closure that asks whether a rule decides; witness; the program's AclWitness. -/
import Derived.Test.YtaoahghfmlegbaaEd7
namespace Go.Proofs.Ytaoahghfmlegbaa
open Go.RowKit Go.Lib Go.Maps

/-- what holds around the closure of witness: the list, and the two boxes that it captures -/
def InvW (lb z1 z2 : Nat) (v : Value) (L : List Ru) (i : Int) (W : World) : Prop :=
  Lst W lb v L ∧ W.cell? ⟨z1, 0, none⟩ = some (.pointer (some ⟨lb, 0, none⟩)) ∧ W.cell? ⟨z2, 0, none⟩ = some (.int .i64 i)
theorem InvW.below {lb z1 z2 : Nat} {v : Value} {L : List Ru} {i : Int} {W W' : World} (h : InvW lb z1 z2 v L i W) (hb : Below W.heap.size W W') : InvW lb z1 z2 v L i W' :=
  ⟨h.1.below hb, (hb.cell (p := ⟨z1, 0, none⟩) (cell_lt h.2.1)).trans h.2.1, (hb.cell (p := ⟨z2, 0, none⟩) (cell_lt h.2.2)).trans h.2.2⟩

set_option maxRecDepth 100000 in
set_option maxHeartbeats 1000000 in
theorem closW_any (lb z1 z2 : Nat) (v : Value) (L : List Ru) (i : Int) (W : World) (f t n : Int) (h : InvW lb z1 z2 v L i W) (hz1 : z1 ≠ lb) (hz2 : z2 ≠ lb) (hok : okRs L = true) (f2 : f ≤ 65535) (t2 : t ≤ 65535) :
    Calls Try.prog 83 #[pkV (f, t, n), .pointer (some ⟨z1, 0, none⟩), .pointer (some ⟨z2, 0, none⟩)] W fun e W' => e = .returned (.bool (decide (saysN L (f, t, n) = i))) ∧ InvW lb z1 z2 v L i W' ∧ KeepZ (fun k => k = lb) W W' := by
  obtain ⟨hl, c1, c2⟩ := h
  have hb0 : Below W.heap.size W (W.alloc (.cells #[.int .i64 f, .int .i64 t, .int .i64 n] 42)) := (Below.refl _ _).more _
  have hl0 := hl.below hb0
  have C := isays_any lb v L f t n _ hl0 hok (by omega) (by omega)
  have k1 := (hb0.cell (p := ⟨z1, 0, none⟩) (cell_lt c1)).trans c1
  have k2 := (hb0.cell (p := ⟨z2, 0, none⟩) (cell_lt c2)).trans c2
  have l1 := cell_lt k1
  have l2 := cell_lt k2
  have lc := hl0.cell
  have hdec := beq_dec (saysN L (f, t, n)) i
  have HB0 : Hid (Below W.heap.size W (W.alloc (.cells #[.int .i64 f, .int .i64 t, .int .i64 n] 42))) := hb0
  generalize saysN L (f, t, n) = N at *
  have HD : Hid ((N == i) = decide (N = i)) := hdec
  clear hdec hl hl0 hb0
  go_enter Try.func83, Try.ntmps83
  go_wp2_with (go_at_call 58; refine C.mono ?_; clear C; rintro e W2 ⟨rfl, hl2, hg2⟩; have j1 := (hg2.cell_far ⟨z1, 0, none⟩ l1 (by simpa using hz1)).trans k1; have j2 := (hg2.cell_far ⟨z2, 0, none⟩ l2 (by simpa using hz2)).trans k2)
  go_ret
  exact ⟨ret_bool HD.out, ⟨hl2, j1, j2⟩, (KeepZ.of_below HB0.out).trans (.of_grown hg2 rfl (hl2.cell.trans lc.symm))⟩
theorem RdR.take {w : World} {g n cap : Nat} {L : List Ru} (h : RdR w (.slice (some ⟨g, 0, none⟩) n cap) L) (k : Nat) (hk : k ≤ L.length) : RdR w (.slice (some ⟨g, 0, none⟩) k cap) (L.take k) := by
  rcases h with ⟨h1, _⟩ | ⟨g', cap', h1, hl, hg, hc⟩
  · cases h1
  · cases h1
    have e : (L.take k).length = k := by simp; omega
    refine .inr ⟨g, cap, by rw [e], by omega, hg, fun i r hr => hc i r ?_⟩
    rw [List.getElem?_take] at hr
    split at hr
    · exact hr
    · cases hr
theorem wadd_at {i : Int} (h1 : 0 ≤ i) (h2 : i ≤ 1000) : IntKind.i64.wrap (i + 1) = i + 1 := by rw [IntKind.wrap_i64]; omega
end Go.Proofs.Ytaoahghfmlegbaa
