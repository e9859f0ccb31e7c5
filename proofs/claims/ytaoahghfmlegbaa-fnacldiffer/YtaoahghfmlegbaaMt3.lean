/- The program's says and AclSays. -/
import Derived.Test.YtaoahghfmlegbaaMt2
namespace Go.Proofs.Ytaoahghfmlegbaa
open Go.RowKit Go.Lib

theorem LstD.below {w w' : World} {b : Nat} {v mv : Value} {L : List Ru} (h : LstD w b v L mv) (hb : Below w.heap.size w w') : LstD w' b v L mv := by
  obtain ⟨c0, c1, c2, c4, f1, f2, f4, hr, hm⟩ := h
  have hbw := cell_lt c0
  have hc : ∀ j, w'.cell? ⟨b, j, none⟩ = w.cell? ⟨b, j, none⟩ := fun j => hb.cell (p := ⟨b, j, none⟩) hbw
  have hf : ∀ j, w'.frozen? ⟨b, j, none⟩ = w.frozen? ⟨b, j, none⟩ := fun j => hb.frozen (p := ⟨b, j, none⟩) hbw
  unfold LstD
  rw [hc, hc, hc, hc, hf, hf, hf]
  exact ⟨c0, c1, c2, c4, f1, f2, f4, hr.below hb, hm.below hb⟩
theorem Lst.below {w w' : World} {b : Nat} {v : Value} {L : List Ru} (h : Lst w b v L) (hb : Below w.heap.size w w') : Lst w' b v L := by
  rcases h with ⟨c0, c1, c2, c4, f1, f2, f4, hr⟩ | ⟨mv, h⟩
  · have hbw := cell_lt c0
    have hc : ∀ j, w'.cell? ⟨b, j, none⟩ = w.cell? ⟨b, j, none⟩ := fun j => hb.cell (p := ⟨b, j, none⟩) hbw
    have hf : ∀ j, w'.frozen? ⟨b, j, none⟩ = w.frozen? ⟨b, j, none⟩ := fun j => hb.frozen (p := ⟨b, j, none⟩) hbw
    refine .inl ?_
    unfold LstN
    rw [hc, hc, hc, hc, hf, hf, hf]
    exact ⟨c0, c1, c2, c4, f1, f2, f4, hr.below hb⟩
  · exact .inr ⟨mv, h.below hb⟩
theorem Lst.cell {w : World} {b : Nat} {v : Value} {L : List Ru} (h : Lst w b v L) : w.cell? ⟨b, 0, none⟩ = some v := by
  rcases h with h | ⟨mv, h⟩ <;> exact h.1
theorem Lst.rd {w : World} {b : Nat} {v : Value} {L : List Ru} (h : Lst w b v L) : RdR w v L := by
  rcases h with ⟨c0, c1, c2, c4, f1, f2, f4, hr⟩ | ⟨mv, c0, c1, c2, c4, f1, f2, f4, hr, hm⟩ <;> exact hr
/-- a list beside which another list's functions are made -/
theorem Lst.beside {w w' : World} {b d : Nat} {v : Value} {L : List Ru} {s : Option Addr} {n c : Nat} (h : Lst w b v L) (hg : w.grownBy w' (some d)) (hd : w.cell? ⟨d, 0, none⟩ = some (.slice s n c)) (hne : b ≠ d) : Lst w' b v L := by
  rcases h with ⟨c0, c1, c2, c4, f1, f2, f4, hr⟩ | ⟨mv, c0, c1, c2, c4, f1, f2, f4, hr, hm⟩
  · have hbw := cell_lt c0
    have hc : ∀ j, w'.cell? ⟨b, j, none⟩ = w.cell? ⟨b, j, none⟩ := fun j => hg.cell_far ⟨b, j, none⟩ hbw (by simpa using hne)
    have hf : ∀ j, w'.frozen? ⟨b, j, none⟩ = w.frozen? ⟨b, j, none⟩ := fun j => hg.frozen_far ⟨b, j, none⟩ hbw (by simpa using hne)
    refine .inl ?_
    unfold LstN
    rw [hc, hc, hc, hc, hf, hf, hf]
    exact ⟨c0, c1, c2, c4, f1, f2, f4, hr.grown hg hd⟩
  · have hbw := cell_lt c0
    have hc : ∀ j, w'.cell? ⟨b, j, none⟩ = w.cell? ⟨b, j, none⟩ := fun j => hg.cell_far ⟨b, j, none⟩ hbw (by simpa using hne)
    have hf : ∀ j, w'.frozen? ⟨b, j, none⟩ = w.frozen? ⟨b, j, none⟩ := fun j => hg.frozen_far ⟨b, j, none⟩ hbw (by simpa using hne)
    refine .inr ⟨mv, ?_⟩
    unfold LstD
    rw [hc, hc, hc, hc, hf, hf, hf]
    exact ⟨c0, c1, c2, c4, f1, f2, f4, hr.grown hg hd, hm.grown hg hd⟩

set_option maxRecDepth 100000 in
set_option maxHeartbeats 1600000 in
theorem isays_any (b : Nat) (v : Value) (L : List Ru) (f t n : Int) (w : World) (h : Lst w b v L) (hok : okRs L = true) (x1 : f ≤ 9223372036854775807) (x2 : t ≤ 9223372036854775807) :
    Calls Try.prog 58 #[.pointer (some ⟨b, 0, none⟩), pkV (f, t, n)] w fun e w' => e = .returned (.tuple #[.int .i64 (saysN L (f, t, n)), .bool (saysB L (f, t, n))]) ∧ Lst w' b v L ∧ w.grownBy w' (some b) := by
  have hmf : ∀ (fn : Fn) (first cap : Array Value) (w : World), (Instr.makeFunc fn first cap).run Try.prog w = .ok (.func fn first cap) w := fun _ _ _ _ => rfl
  obtain ⟨hlen, hall⟩ := okRs_of hok
  have hbw := cell_lt h.cell
  have hB : Below w.heap.size w (w.alloc (.cells #[.int .i64 f, .int .i64 t, .int .i64 n] 42)) := (Below.refl _ _).more _
  have hM := matchers_any b v L (w.alloc (.cells #[.int .i64 f, .int .i64 t, .int .i64 n] 42)) (h.below hB) hlen
  have hI := fun mv w1 hm d0 d1 d2 => idx_any L mv w.heap.size f t n w1 hm hall hlen d0 d1 d2 x1 x2
  have hwb : w.heap.size ≠ b := by omega
  clear h hall x1 x2 hok
  rcases Nat.lt_or_ge (dec L (f, t, n)) L.length with hlt | hge
  · obtain ⟨hN, hBo⟩ := says_at hlt rfl
    generalize dec L (f, t, n) = i at *
    obtain ⟨q, ra, rl, rb, rm, rk, hru⟩ := ru_parts L[i]
    rw [hru] at hBo
    rw [hN, hBo]
    rw [hN] at hI
    clear hN hBo
    go_enter Try.func58, Try.ntmps58
    go_wp2_with (go_at_call 80; refine hM.mono ?_; clear hM; rintro e w1 ⟨mv, rfl, hd, hg⟩; replace hI := hI mv w1 hd.2.2.2.2.2.2.2.2 ((hg.cell_far ⟨w.heap.size, 0, none⟩ (by simp) (by simpa using hwb)).trans (by simp)) ((hg.cell_far ⟨w.heap.size, 1, none⟩ (by simp) (by simpa using hwb)).trans (by simp)) ((hg.cell_far ⟨w.heap.size, 2, none⟩ (by simp) (by simpa using hwb)).trans (by simp)))
    go_wp2_with (go_at_call 79; refine hI.mono ?_; rintro e w2 ⟨rfl, hb⟩; have hd2 := hd.below hb; have k0 := hd2.1)
    obtain ⟨p, cap, rfl⟩ := hd2.2.2.2.2.2.2.2.1.form
    obtain ⟨g, rfl, hcap, hgl, c0, _⟩ := hd2.2.2.2.2.2.2.2.1.at hlt
    rw [hru] at c0
    clear hru
    go_quiet (fail)
    go_wp2
    go_ret2
    exact ⟨rfl, .inr ⟨_, hd2.below (below_drewN (Below.refl _ _) _)⟩, ((World.grownBy_alloc w _ (some b)).trans hg).trans (grown_below (below_drewN hb _) _)⟩
  · obtain ⟨hN, hBo⟩ := says_none (Nat.le_antisymm (dec_le L (f, t, n)) hge)
    rw [hN, hBo]
    rw [hN] at hI
    clear hN hBo hge
    go_enter Try.func58, Try.ntmps58
    go_wp2_with (go_at_call 80; refine hM.mono ?_; clear hM; rintro e w1 ⟨mv, rfl, hd, hg⟩; replace hI := hI mv w1 hd.2.2.2.2.2.2.2.2 ((hg.cell_far ⟨w.heap.size, 0, none⟩ (by simp) (by simpa using hwb)).trans (by simp)) ((hg.cell_far ⟨w.heap.size, 1, none⟩ (by simp) (by simpa using hwb)).trans (by simp)) ((hg.cell_far ⟨w.heap.size, 2, none⟩ (by simp) (by simpa using hwb)).trans (by simp)))
    go_wp2_with (go_at_call 79; refine hI.mono ?_; rintro e w2 ⟨rfl, hb⟩; have hd2 := hd.below hb; have k0 := hd2.1)
    go_ret2
    exact ⟨rfl, .inr ⟨_, hd2⟩, ((World.grownBy_alloc w _ (some b)).trans hg).trans (grown_below hb _)⟩
end Go.Proofs.Ytaoahghfmlegbaa
