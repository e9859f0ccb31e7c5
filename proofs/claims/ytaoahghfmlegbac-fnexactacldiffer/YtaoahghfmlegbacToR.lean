/- Lists of rules and packets handed over, and held against each other: laws.toAclRuleS, eqAclRuleS, szAclRuleS, toAclPacket, eqAclPacket. -/
import Derived.Test.YtaoahghfmlegbacRu5
import Derived.Laws.MakeOwn
import Derived.Deep.RegionHeld3
namespace Go.Proofs.Ytaoahghfmlegbac
open Go.RowKit Go.Lib

set_option maxRecDepth 100000 in
set_option maxHeartbeats 1000000 in
/-- two packets that are one are told so -/
theorem eqpk_any (f t n : Int) (w : World) :
    Calls Try.prog 8 #[pkV (f, t, n), pkV (f, t, n)] w fun e w' => e = .returned (.bool true) ∧ Below w.heap.size w w' := by
  go_enter Try.func8, Try.ntmps8
  go_wp2
  go_ret
  exact ⟨rfl, ((Below.refl _ _).more _).more _⟩

set_option maxRecDepth 100000 in
set_option maxHeartbeats 400000 in
theorem to_ex (a l : Int) (w : World) :
    Calls Try.prog 25 #[.agg #[.int .i64 a, .int .i64 l]] w fun e w' => e = .returned (.agg #[.int .i64 a, .int .i64 l]) ∧ w' = ((w.alloc (.cells #[.int .i64 a, .int .i64 l] 40)).alloc (.cells #[.int .i64 a, .int .i64 l] 36)).alloc (.cells #[.int .i64 a, .int .i64 l] 36) := by
  go_enter Try.func25, Try.ntmps25
  go_wp2
  refine bodyPost_ret (v := .agg #[.int .i64 a, .int .i64 l]) (by simp [results, Try.results25, go_sem]) rfl ⟨rfl, ?_⟩
  rfl
set_option maxRecDepth 100000 in
set_option maxHeartbeats 1000000 in
theorem tor_any (p : Bool) (a l b m k : Int) (w : World) :
    Calls Try.prog 12 #[ruV (p, (a, l), (b, m), k)] w fun e w' => e = .returned (ruV (p, (a, l), (b, m), k)) ∧ Below w.heap.size w w' := by
  go_enter Try.func12, Try.ntmps12
  go_wp2_with (go_at_call 25; refine (to_ex _ _ _).mono ?_; rintro e w1 ⟨rfl, rfl⟩)
  refine bodyPost_ret (v := ruV (p, (a, l), (b, m), k)) (by simp [results, Try.results12, go_sem]) rfl ⟨rfl, ?_⟩
  exact (((((((((Below.refl _ _).more _).more _).more _).more _).more _).more _).more _).more _).more _

set_option maxRecDepth 100000 in
set_option maxHeartbeats 1000000 in
/-- two rules that are one are told so -/
theorem eqr_any (p : Bool) (a l b m k : Int) (w : World) :
    Calls Try.prog 18 #[ruV (p, (a, l), (b, m), k), ruV (p, (a, l), (b, m), k)] w fun e w' => e = .returned (.bool true) ∧ Below w.heap.size w w' := by
  have he := fun a l w => eq_any a l a l w
  simp only [and_self, decide_true] at he
  have HB : Below w.heap.size w w := Below.refl _ _
  have hpp : (p != p) = false := by simp
  go_enter Try.func18, Try.ntmps18
  go_wp2_with (go_at_call 33; refine (he _ _ _).mono ?_; rintro e w1 ⟨rfl, hb⟩; obtain ⟨hc, hf⟩ := bcell hb; (first | (replace HB := below_then ((HB.more _).more _) hb; obtain ⟨hs1, hs2⟩ := new_lt2 hb) | replace HB := below_then HB hb))
  go_ret
  exact ⟨rfl, HB⟩

/-- the rule of nothing -/
abbrev ru0 : Ru := (false, (0, 0), (0, 0), 0)
theorem flatR_set : ∀ (M : List Ru) (k : Nat) (r : Ru), ((((((flatR M).set (k * 6) (.bool r.1)).set (k * 6 + 1) (.int .i64 r.2.1.1)).set (k * 6 + 2) (.int .i64 r.2.1.2)).set (k * 6 + 3) (.int .i64 r.2.2.1.1)).set (k * 6 + 4) (.int .i64 r.2.2.1.2)).set (k * 6 + 5) (.int .i64 r.2.2.2) = flatR (M.set k r)
  | [], k, r => by simp [flatR_nil]
  | p :: M, 0, r => by simp [flatR_cons, ruC]
  | p :: M, k + 1, r => by
    have e : (k + 1) * 6 = k * 6 + 1 + 1 + 1 + 1 + 1 + 1 := by omega
    have ih := flatR_set M k r
    rw [e, flatR_cons, List.set_cons_succ, flatR_cons, ← ih]
    simp [ruC]
theorem fillR_step {L : List Ru} {k : Nat} (h : k < L.length) (z : Ru) : (L.take k ++ List.replicate (L.length - k) z).set k L[k] = L.take (k + 1) ++ List.replicate (L.length - (k + 1)) z := by
  have e : L.length - k = L.length - (k + 1) + 1 := by omega
  rw [e, List.replicate_succ, List.set_append_right _ _ (by simp; omega)]
  have : k - (L.take k).length = 0 := by simp; omega
  rw [this, List.set_cons_zero, List.take_succ_eq_append_getElem h, List.append_assoc]
  rfl
theorem fillR_len (L : List Ru) {k : Nat} (h : k ≤ L.length) (z : Ru) : (L.take k ++ List.replicate (L.length - k) z).length = L.length := by simp; omega
theorem madeR_flat (n : Nat) : (madeCells #[.bool false, .int .i64 0, .int .i64 0, .int .i64 0, .int .i64 0, .int .i64 0] (n * 6)).toList = flatR (List.replicate n ru0) := by
  apply List.ext_getElem?
  intro j
  by_cases hj : j < n * 6
  · have hi : j / 6 < n := by omega
    have h1 := flatR_at (List.replicate n ru0) (j / 6) ru0 (by simp [hi]) (j % 6) (by omega)
    have e : j / 6 * 6 + j % 6 = j := by omega
    rw [e] at h1
    rw [h1]
    have : j % 6 = 0 ∨ j % 6 = 1 ∨ j % 6 = 2 ∨ j % 6 = 3 ∨ j % 6 = 4 ∨ j % 6 = 5 := by omega
    rcases this with e | e | e | e | e | e <;> simp [madeCells, hj, e, ruC]
  · have h1 : (flatR (List.replicate n ru0))[j]? = none := by
      rw [List.getElem?_eq_none_iff, flatR_len]; simp; omega
    rw [h1]
    simp [madeCells, hj]

/-- a list of rules of an argument that can be read -/
def RdAR (w : World) (v : Value) (L : List Ru) : Prop :=
  (L = [] ∧ ∃ p cap, v = .slice p 0 cap) ∨ ∃ g o cap, v = .slice (some ⟨g, o, none⟩) L.length cap ∧ g < w.heap.size ∧ ∀ i r, L[i]? = some r → At6 w g (o + i * 6) r
theorem RdAR.below {w w' : World} {v : Value} {L : List Ru} (h : RdAR w v L) (hb : Below w.heap.size w w') : RdAR w' v L := by
  rcases h with h | ⟨g, o, cap, hv, hg, hc⟩
  · exact .inl h
  · exact .inr ⟨g, o, cap, hv, Nat.lt_of_lt_of_le hg hb.size, fun i r hr => (hc i r hr).below hg hb⟩
theorem RdAR.form {w : World} {v : Value} {L : List Ru} (h : RdAR w v L) : ∃ p cap, v = .slice p L.length cap := by
  rcases h with ⟨hn, p, cap, hv⟩ | ⟨g, o, cap, h1, _⟩
  · exact ⟨p, cap, by rw [hn]; exact hv⟩
  · exact ⟨_, _, h1⟩
theorem RdAR.at {w : World} {p : Option Addr} {n cap : Nat} {L : List Ru} (h : RdAR w (.slice p n cap) L) {i : Nat} (hi : i < L.length) :
    ∃ g o, p = some ⟨g, o, none⟩ ∧ g < w.heap.size ∧ At6 w g (o + i * 6) L[i] := by
  rcases h with ⟨hn, _⟩ | ⟨g, o, cap', h1, hg, hc⟩
  · subst hn; simp at hi
  · cases h1
    exact ⟨g, o, rfl, hg, hc i L[i] (List.getElem?_eq_getElem hi)⟩

theorem infoR : (Try.prog.info? 38).map (fun i => (i.zero, i.size, i.bytes)) = some (some (.agg #[.bool false, .int .i64 0, .int .i64 0, .int .i64 0, .int .i64 0, .int .i64 0]), 6, 48) := by kernel_rfl
theorem makeR_any (n : Nat) (h : n ≤ 1048576) (u : World) : (Instr.makeSlice 28 (.int .i64 n) (.int .i64 n)).run Try.prog u = .ok (.slice (some ⟨u.heap.size, 0, none⟩) n n) (u.alloc (.cells (madeCells #[.bool false, .int .i64 0, .int .i64 0, .int .i64 0, .int .i64 0, .int .i64 0] (n * 6)) 38)) := by
  obtain ⟨i0, hi, hz0, hz1, hz2⟩ := info_parts infoR
  have := run_make (P := Try.prog) u 28 38 i0 (.agg #[.bool false, .int .i64 0, .int .i64 0, .int .i64 0, .int .i64 0, .int .i64 0]) Try.underlying28 hi hz0 .i64 .i64 n n (by omega) (Int.le_refl _) (by rw [hz2]; omega) (by omega)
  rw [hz1] at this
  have e : (Value.agg #[.bool false, .int .i64 0, .int .i64 0, .int .i64 0, .int .i64 0, .int .i64 0]).cells = #[.bool false, .int .i64 0, .int .i64 0, .int .i64 0, .int .i64 0, .int .i64 0] := rfl
  rw [e] at this
  simpa using this
theorem rowR_keep {w w' : World} {b g n cap : Nat} {xs : List Value} (h : w.ownsRow b 38 6 (.slice (some ⟨g, 0, none⟩) n cap) n xs) (hb : Below w.heap.size w w') : w'.ownsRow b 38 6 (.slice (some ⟨g, 0, none⟩) n cap) n xs :=
  World.ownsRow.kept (row := none) h ⟨hb.os, hb.tape, hb.output, hb.size, fun k hk _ => hb.block k hk⟩ (.inr (by simp [Value.ownBlock]))
theorem rowR_cells {w w' : World} {b g n cap k : Nat} {M : List Ru} (h : w.ownsRow b 38 6 (.slice (some ⟨g, 0, none⟩) n cap) n (flatR M)) (hb : Below w.heap.size w w') (hM : M.length = n) (hk : k < n) :
    ∃ u0 u1 u2 u3 u4 u5, (w'.cell? ⟨g, k * 6, none⟩ = some u0 ∧ w'.cell? ⟨g, k * 6 + 1, none⟩ = some u1 ∧ w'.cell? ⟨g, k * 6 + 2, none⟩ = some u2 ∧ w'.cell? ⟨g, k * 6 + 3, none⟩ = some u3 ∧ w'.cell? ⟨g, k * 6 + 4, none⟩ = some u4 ∧ w'.cell? ⟨g, k * 6 + 5, none⟩ = some u5) ∧ ∀ j, w'.frozen? ⟨g, j, none⟩ = false := by
  have h' := rowR_keep h hb
  have hl := flatR_len M
  have e : ∀ j, j < 6 → ∃ u, w'.cell? ⟨g, k * 6 + j, none⟩ = some u := fun j hj => ⟨_, (World.ownsRow.cellAt h' _ (by omega)).trans (List.getElem?_eq_getElem (l := flatR M) (i := k * 6 + j) (by omega))⟩
  obtain ⟨u0, e0⟩ := e 0 (by omega)
  obtain ⟨u1, e1⟩ := e 1 (by omega)
  obtain ⟨u2, e2⟩ := e 2 (by omega)
  obtain ⟨u3, e3⟩ := e 3 (by omega)
  obtain ⟨u4, e4⟩ := e 4 (by omega)
  obtain ⟨u5, e5⟩ := e 5 (by omega)
  exact ⟨u0, u1, u2, u3, u4, u5, ⟨e0, e1, e2, e3, e4, e5⟩, fun j => World.ownsRow.frozenAt h' _⟩
/-- a rule stored into a row -/
abbrev putR (w : World) (g o : Nat) (r : Ru) : World := (((((w.setCell ⟨g, o, none⟩ (.bool r.1)).setCell ⟨g, o + 1, none⟩ (.int .i64 r.2.1.1)).setCell ⟨g, o + 2, none⟩ (.int .i64 r.2.1.2)).setCell ⟨g, o + 3, none⟩ (.int .i64 r.2.2.1.1)).setCell ⟨g, o + 4, none⟩ (.int .i64 r.2.2.1.2)).setCell ⟨g, o + 5, none⟩ (.int .i64 r.2.2.2)
theorem rowR_put {w w' : World} {b g n cap : Nat} {M : List Ru} (h : w.ownsRow b 38 6 (.slice (some ⟨g, 0, none⟩) n cap) n (flatR M)) (hb : Below w.heap.size w w') (r : Ru) (k : Nat) :
    (putR w' g (k * 6) r).ownsRow b 38 6 (.slice (some ⟨g, 0, none⟩) n cap) n (flatR (M.set k r)) := by
  have h0 := (World.ownsRow.stored (rowR_keep h hb) (k * 6) (.bool r.1)).1
  have h1 := (World.ownsRow.stored h0 (k * 6 + 1) (.int .i64 r.2.1.1)).1
  have h2 := (World.ownsRow.stored h1 (k * 6 + 2) (.int .i64 r.2.1.2)).1
  have h3 := (World.ownsRow.stored h2 (k * 6 + 3) (.int .i64 r.2.2.1.1)).1
  have h4 := (World.ownsRow.stored h3 (k * 6 + 4) (.int .i64 r.2.2.1.2)).1
  have h5 := (World.ownsRow.stored h4 (k * 6 + 5) (.int .i64 r.2.2.2)).1
  rwa [flatR_set] at h5
theorem putR_below {w w' : World} {g o : Nat} {r : Ru} (hb : Below w.heap.size w w') (hg : w.heap.size ≤ g) : Below w.heap.size w (putR w' g o r) :=
  (((((hb.setCell (p := ⟨g, o, none⟩) hg _).setCell (p := ⟨g, o + 1, none⟩) hg _).setCell (p := ⟨g, o + 2, none⟩) hg _).setCell (p := ⟨g, o + 3, none⟩) hg _).setCell (p := ⟨g, o + 4, none⟩) hg _).setCell (p := ⟨g, o + 5, none⟩) hg _

set_option maxRecDepth 100000 in
set_option maxHeartbeats 2000000 in
theorem tors_any (L : List Ru) (v : Value) (w : World) (hr : RdAR w v L) (hlen : L.length ≤ 1048576) :
    Calls Try.prog 6 #[v] w fun e w' => e = .returned (.slice (some ⟨w.heap.size, 0, none⟩) L.length L.length) ∧ RowR w' w.heap.size (.slice (some ⟨w.heap.size, 0, none⟩) L.length L.length) L ∧ Below w.heap.size w w' := by
  obtain ⟨p, cap, rfl⟩ := hr.form
  have hm := makeR_any L.length hlen
  go_enter Try.func6, Try.ntmps6
  go_wp2_with fail
  go_loopw [4] (fun i wr => ∃ k : Nat, k ≤ L.length ∧ i = .int .i64 k ∧ wr.ownsRow w.heap.size 38 6 (.slice (some ⟨w.heap.size, 0, none⟩) L.length L.length) L.length (flatR (L.take k ++ List.replicate (L.length - k) ru0)) ∧ Below w.heap.size w wr) (fun i _ => L.length - (intOf i).toNat)
  case atStart =>
    refine ⟨0, Nat.zero_le _, rfl, ?_, (Below.refl _ _).more _⟩
    have := World.ownsRow_lit (e := 38) (size := 6) (base := w.heap.size) w (madeCells #[.bool false, .int .i64 0, .int .i64 0, .int .i64 0, .int .i64 0, .int .i64 0] (L.length * 6)) L.length (Nat.le_refl _) (by unfold maxLen; omega) (size_madeCells _ _)
    rw [madeR_flat] at this
    simpa using this
  case round =>
    obtain ⟨k, hk, rfl, hrow, hB⟩ := hrel
    by_cases hlt : k < L.length
    · obtain ⟨g, o, rfl, hg, c0, c1, c2, c3, c4, c5⟩ := (hr.below hB).at hlt
      obtain ⟨q, a, l, b, m, kk, hru⟩ := ru_parts L[k]
      rw [hru] at c0 c1 c2 c3 c4 c5
      have HL : Hid (L[k] = (q, (a, l), (b, m), kk)) := hru
      clear hru
      go_wp2_with (go_at_call 12; refine (tor_any _ _ _ _ _ _ _).mono ?_; rintro e w1 ⟨rfl, hb⟩; obtain ⟨u0, u1, u2, u3, u4, u5, ⟨d0, d1, d2, d3, d4, d5⟩, f0⟩ := rowR_cells hrow hb (fillR_len L hk ru0) hlt)
      go_roundw
      case rel =>
        refine ⟨k + 1, hlt, rfl, ?_, ?_⟩
        · have := rowR_put hrow hb (q, (a, l), (b, m), kk) k
          have fs := fillR_step hlt ru0
          rw [HL.out] at fs
          rw [fs] at this
          exact this
        · exact putR_below (r := (q, (a, l), (b, m), kk)) (o := k * 6) (below_then hB hb) (Nat.le_refl _)
      case measure => simp [intOf]; omega
    · have : k = L.length := by omega
      subst this
      go_wp2
      go_ret
      exact ⟨rfl, by simpa [RowR] using hrow, hB⟩
end Go.Proofs.Ytaoahghfmlegbac
