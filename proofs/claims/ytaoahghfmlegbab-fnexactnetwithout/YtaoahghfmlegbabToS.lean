/- Lists of prefixes handed over, and held against each other: laws.toNetPrefixS, laws.eqNetPrefixS, laws.szNetPrefixS. -/
import Derived.Test.YtaoahghfmlegbabSl
import Derived.Laws.MakeOwn
import Derived.Deep.RegionHeld3
namespace Go.Proofs.Ytaoahghfmlegbab
open Go.RowKit Go.Lib

theorem flat_set : ∀ (M : List (Int × Int)) (k : Nat) (q : Int × Int), ((flat M).set (k * 2) (.int .i64 q.1)).set (k * 2 + 1) (.int .i64 q.2) = flat (M.set k q)
  | [], k, q => by simp [flat_nil]
  | p :: M, 0, q => by simp [flat_cons]
  | p :: M, k + 1, q => by
    have e : (k + 1) * 2 = k * 2 + 1 + 1 := by omega
    rw [e, flat_cons]
    simp only [List.set_cons_succ]
    rw [flat_cons, flat_set M k q]
theorem fill_step {L : List (Int × Int)} {k : Nat} (h : k < L.length) (z : Int × Int) : (L.take k ++ List.replicate (L.length - k) z).set k L[k] = L.take (k + 1) ++ List.replicate (L.length - (k + 1)) z := by
  have e : L.length - k = L.length - (k + 1) + 1 := by omega
  rw [e, List.replicate_succ, List.set_append_right _ _ (by simp; omega)]
  have : k - (L.take k).length = 0 := by simp; omega
  rw [this, List.set_cons_zero, List.take_succ_eq_append_getElem h, List.append_assoc]
  rfl
theorem fill_len (L : List (Int × Int)) {k : Nat} (h : k ≤ L.length) (z : Int × Int) : (L.take k ++ List.replicate (L.length - k) z).length = L.length := by simp; omega
theorem flat_rep : ∀ n : Nat, flat (List.replicate n (0, 0)) = List.replicate (n * 2) (.int .i64 0)
  | 0 => rfl
  | n + 1 => by
    have e : (n + 1) * 2 = n * 2 + 1 + 1 := by omega
    rw [List.replicate_succ, flat_cons, e, List.replicate_succ, List.replicate_succ, flat_rep n]
theorem made_flat (n : Nat) : (madeCells #[.int .i64 0, .int .i64 0] (n * 2)).toList = flat (List.replicate n (0, 0)) := by
  rw [flat_rep]
  apply List.ext_getElem?
  intro j
  by_cases hj : j < n * 2
  · have : j % 2 = 0 ∨ j % 2 = 1 := by omega
    rcases this with e | e <;> simp [madeCells, hj, e]
  · simp [madeCells, hj]

/-- a list of an argument that can be read -/
def RdA (w : World) (v : Value) (L : List (Int × Int)) : Prop :=
  (L = [] ∧ ∃ p cap, v = .slice p 0 cap) ∨ ∃ g o cap, v = .slice (some ⟨g, o, none⟩) L.length cap ∧ g < w.heap.size ∧
    ∀ i q, L[i]? = some q → w.cell? ⟨g, o + i * 2, none⟩ = some (.int .i64 q.1) ∧ w.cell? ⟨g, o + i * 2 + 1, none⟩ = some (.int .i64 q.2)
theorem RdA.below {w w' : World} {v : Value} {L : List (Int × Int)} (h : RdA w v L) (hb : Below w.heap.size w w') : RdA w' v L := by
  rcases h with h | ⟨g, o, cap, hv, hg, hc⟩
  · exact .inl h
  · refine .inr ⟨g, o, cap, hv, Nat.lt_of_lt_of_le hg hb.size, fun i q hq => ?_⟩
    rw [hb.cell (p := ⟨g, o + i * 2, none⟩) hg, hb.cell (p := ⟨g, o + i * 2 + 1, none⟩) hg]
    exact hc i q hq
theorem RdA.form {w : World} {v : Value} {L : List (Int × Int)} (h : RdA w v L) : ∃ p cap, v = .slice p L.length cap := by
  rcases h with ⟨hn, p, cap, hv⟩ | ⟨g, o, cap, h1, _⟩
  · exact ⟨p, cap, by rw [hn]; exact hv⟩
  · exact ⟨_, _, h1⟩
theorem RdA.at {w : World} {p : Option Addr} {n cap : Nat} {L : List (Int × Int)} (h : RdA w (.slice p n cap) L) {i : Nat} (hi : i < L.length) :
    ∃ g o, p = some ⟨g, o, none⟩ ∧ g < w.heap.size ∧ w.cell? ⟨g, o + i * 2, none⟩ = some (.int .i64 L[i].1) ∧ w.cell? ⟨g, o + i * 2 + 1, none⟩ = some (.int .i64 L[i].2) := by
  rcases h with ⟨hn, _⟩ | ⟨g, o, cap', h1, hg, hc⟩
  · subst hn; simp at hi
  · cases h1
    exact ⟨g, o, rfl, hg, hc i L[i] (List.getElem?_eq_getElem hi)⟩

theorem infoP : (Try.prog.info? 24).map (fun i => (i.zero, i.size, i.bytes)) = some (some (.agg #[.int .i64 0, .int .i64 0]), 2, 16) := by kernel_rfl
theorem make_any (n : Nat) (h : n ≤ 1048576) (u : World) : (Instr.makeSlice 33 (.int .i64 n) (.int .i64 n)).run Try.prog u = .ok (.slice (some ⟨u.heap.size, 0, none⟩) n n) (u.alloc (.cells (madeCells #[.int .i64 0, .int .i64 0] (n * 2)) 24)) := by
  obtain ⟨i0, hi, hz0, hz1, hz2⟩ := info_parts infoP
  have := run_make (P := Try.prog) u 33 24 i0 (.agg #[.int .i64 0, .int .i64 0]) Try.underlying33 hi hz0 .i64 .i64 n n (by omega) (Int.le_refl _) (by rw [hz2]; omega) (by omega)
  rw [hz1] at this
  have e : (Value.agg #[.int .i64 0, .int .i64 0]).cells = #[.int .i64 0, .int .i64 0] := rfl
  rw [e] at this
  simpa using this

theorem row_keep {w w' : World} {b g n cap : Nat} {xs : List Value} (h : w.ownsRow b 24 2 (.slice (some ⟨g, 0, none⟩) n cap) n xs) (hb : Below w.heap.size w w') : w'.ownsRow b 24 2 (.slice (some ⟨g, 0, none⟩) n cap) n xs :=
  World.ownsRow.kept (row := none) h ⟨hb.os, hb.tape, hb.output, hb.size, fun k hk _ => hb.block k hk⟩ (.inr (by simp [Value.ownBlock]))
theorem row_cells {w w' : World} {b g n cap k : Nat} {M : List (Int × Int)} (h : w.ownsRow b 24 2 (.slice (some ⟨g, 0, none⟩) n cap) n (flat M)) (hb : Below w.heap.size w w') (hM : M.length = n) (hk : k < n) :
    ∃ u0 u1, w'.cell? ⟨g, k * 2, none⟩ = some u0 ∧ w'.cell? ⟨g, k * 2 + 1, none⟩ = some u1 ∧ w'.frozen? ⟨g, k * 2, none⟩ = false ∧ w'.frozen? ⟨g, k * 2 + 1, none⟩ = false := by
  have h' := row_keep h hb
  have hl := flat_len M
  have e0 := List.getElem?_eq_getElem (l := flat M) (i := k * 2) (by omega)
  have e1 := List.getElem?_eq_getElem (l := flat M) (i := k * 2 + 1) (by omega)
  refine ⟨_, _, (World.ownsRow.cellAt h' _ (by omega)).trans e0, (World.ownsRow.cellAt h' _ (by omega)).trans e1, World.ownsRow.frozenAt h' _, World.ownsRow.frozenAt h' _⟩
theorem row_put {w w' : World} {b g n cap : Nat} {M : List (Int × Int)} (h : w.ownsRow b 24 2 (.slice (some ⟨g, 0, none⟩) n cap) n (flat M)) (hb : Below w.heap.size w w') (q : Int × Int) (k : Nat) :
    ((w'.setCell ⟨g, k * 2, none⟩ (.int .i64 q.1)).setCell ⟨g, k * 2 + 1, none⟩ (.int .i64 q.2)).ownsRow b 24 2 (.slice (some ⟨g, 0, none⟩) n cap) n (flat (M.set k q)) := by
  have h1 := (World.ownsRow.stored (row_keep h hb) (k * 2) (.int .i64 q.1)).1
  have h2 := (World.ownsRow.stored h1 (k * 2 + 1) (.int .i64 q.2)).1
  rwa [flat_set] at h2

set_option maxRecDepth 100000 in
set_option maxHeartbeats 1000000 in
theorem tos_any (L : List (Int × Int)) (v : Value) (w : World) (hr : RdA w v L) (hlen : L.length ≤ 1048576) :
    Calls Try.prog 16 #[v] w fun e w' => e = .returned (.slice (some ⟨w.heap.size, 0, none⟩) L.length L.length) ∧ Row w' w.heap.size (.slice (some ⟨w.heap.size, 0, none⟩) L.length L.length) L ∧ Below w.heap.size w w' := by
  obtain ⟨p, cap, rfl⟩ := hr.form
  have hm := make_any L.length hlen
  go_enter Try.func16, Try.ntmps16
  go_wp2_with fail
  go_loopw [4] (fun i wr => ∃ k : Nat, k ≤ L.length ∧ i = .int .i64 k ∧ wr.ownsRow w.heap.size 24 2 (.slice (some ⟨w.heap.size, 0, none⟩) L.length L.length) L.length (flat (L.take k ++ List.replicate (L.length - k) (0, 0))) ∧ Below w.heap.size w wr) (fun i _ => L.length - (intOf i).toNat)
  case atStart =>
    refine ⟨0, Nat.zero_le _, rfl, ?_, (Below.refl _ _).more _⟩
    have := World.ownsRow_lit (e := 24) (size := 2) (base := w.heap.size) w (madeCells #[.int .i64 0, .int .i64 0] (L.length * 2)) L.length (Nat.le_refl _) (by unfold maxLen; omega) (size_madeCells _ _)
    rw [made_flat] at this
    simpa using this
  case round =>
    obtain ⟨k, hk, rfl, hrow, hB⟩ := hrel
    by_cases hlt : k < L.length
    · obtain ⟨g, o, rfl, hg, c0, c1⟩ := (hr.below hB).at hlt
      obtain ⟨a, ha⟩ : ∃ a, L[k].1 = a := ⟨_, rfl⟩
      obtain ⟨l, hl⟩ : ∃ l, L[k].2 = l := ⟨_, rfl⟩
      rw [ha] at c0
      rw [hl] at c1
      have HL : Hid (L[k] = (a, l)) := by unfold Hid; rw [← ha, ← hl]
      clear ha hl
      go_wp2_with (go_at_call 11; refine (to_any _ _ _).mono ?_; rintro e w1 ⟨rfl, hb⟩; obtain ⟨u0, u1, d0, d1, f0, f1⟩ := row_cells hrow hb (fill_len L hk (0, 0)) hlt)
      go_roundw
      case rel =>
        refine ⟨k + 1, hlt, rfl, ?_, ?_⟩
        · have := row_put hrow hb (a, l) k
          have fs := fill_step hlt (0, 0)
          rw [HL.out] at fs
          rw [fs] at this
          exact this
        · exact ((below_then hB hb).setCell (p := ⟨w.heap.size, k * 2, none⟩) (Nat.le_refl _) _).setCell (p := ⟨w.heap.size, k * 2 + 1, none⟩) (Nat.le_refl _) _
      case measure => simp [intOf]; omega
    · have : k = L.length := by omega
      subst this
      go_wp2
      go_ret
      exact ⟨rfl, by simpa [Row] using hrow, hB⟩

/-- two rows whose elements number k are the same -/
def TwoAt (W0 : World) (g g' k : Nat) (x y : Value) (w' : World) : Prop :=
  w'.cell? ⟨g, k * 2, none⟩ = some x ∧ w'.cell? ⟨g, k * 2 + 1, none⟩ = some y ∧ w'.cell? ⟨g', k * 2, none⟩ = some x ∧ w'.cell? ⟨g', k * 2 + 1, none⟩ = some y ∧ Below W0.heap.size W0 w'
theorem two_next {W0 wp w1 : World} {g g' k : Nat} {x y : Value} (hg : g < W0.heap.size) (hg' : g' < W0.heap.size) (h : TwoAt W0 g g' k x y wp) (hb : Below wp.heap.size wp w1) : TwoAt W0 g g' k x y w1 := by
  obtain ⟨h1, h2, h3, h4, h5⟩ := h
  have hs := h5.size
  refine ⟨?_, ?_, ?_, ?_, below_then h5 hb⟩
  · rw [hb.cell (p := ⟨g, k * 2, none⟩) (by simp; omega)]; exact h1
  · rw [hb.cell (p := ⟨g, k * 2 + 1, none⟩) (by simp; omega)]; exact h2
  · rw [hb.cell (p := ⟨g', k * 2, none⟩) (by simp; omega)]; exact h3
  · rw [hb.cell (p := ⟨g', k * 2 + 1, none⟩) (by simp; omega)]; exact h4

set_option maxRecDepth 100000 in
set_option maxHeartbeats 1000000 in
/-- two lists that are the same are told so -/
theorem eqs_any (L : List (Int × Int)) (v u : Value) (w : World) (hr : Rd w v L) (hs : Rd w u L) (hlen : L.length ≤ 1048576) :
    Calls Try.prog 18 #[v, u] w fun e w' => e = .returned (.bool true) ∧ Below w.heap.size w w' := by
  obtain ⟨p, cap, rfl⟩ := hr.form
  obtain ⟨q, cap', rfl⟩ := hs.form
  go_enter Try.func18, Try.ntmps18
  go_wp2_with fail
  go_loopw [5] (fun i wr => ∃ k : Nat, k ≤ L.length ∧ i = .int .i64 k ∧ Below w.heap.size w wr) (fun i _ => L.length - (intOf i).toNat)
  case atStart => exact ⟨0, Nat.zero_le _, rfl, Below.refl _ _⟩
  case round =>
    obtain ⟨k, hk, rfl, hB⟩ := hrel
    by_cases hlt : k < L.length
    · obtain ⟨g, rfl, hg, c0, c1⟩ := (hr.below hB).at hlt
      obtain ⟨g', rfl, hg', c0', c1'⟩ := (hs.below hB).at hlt
      obtain ⟨a, ha⟩ : ∃ a, L[k].1 = a := ⟨_, rfl⟩
      obtain ⟨l, hl⟩ : ∃ l, L[k].2 = l := ⟨_, rfl⟩
      rw [ha] at c0 c0'
      rw [hl] at c1 c1'
      clear ha hl
      have he := fun w => eq_any a l a l w
      simp only [and_self, decide_true] at he
      go_wp2_with fail
      go_region_held3 (fun w' => w'.cell? ⟨g, k * 2, none⟩ = some (.int .i64 a) ∧ w'.cell? ⟨g, k * 2 + 1, none⟩ = some (.int .i64 l) ∧ w'.cell? ⟨g', k * 2, none⟩ = some (.int .i64 a) ∧ w'.cell? ⟨g', k * 2 + 1, none⟩ = some (.int .i64 l) ∧ Below wr.heap.size wr w')
        (first | exact ⟨c0, c1, c0', c1', (Below.refl _ _).drew⟩ | exact two_next hg hg' (by assumption) (by assumption)) (first | (go_at_call 13; refine (he _).mono ?_; rintro e w1 ⟨rfl, hb⟩))
      go_wp2
      have hS : TwoAt wr g g' k (.int .i64 a) (.int .i64 l) w1 := by assumption
      go_roundw
      case rel => exact ⟨k + 1, hlt, rfl, below_then hB hS.2.2.2.2⟩
      case measure => simp [intOf]; omega
    · have : k = L.length := by omega
      subst this
      go_wp2
      go_ret
      exact ⟨rfl, hB⟩

set_option maxRecDepth 100000 in
set_option maxHeartbeats 400000 in
theorem szs_any (n : Nat) (p : Option Addr) (cap : Nat) (left : Int) (w : World) (h0 : 0 ≤ left) (h1 : left ≤ 1048576) (hn : (n : Int) ≤ 9223372036854775807) :
    Calls Try.prog 14 #[.slice p n cap, .int .i64 left] w fun e w' => e = .returned (.int .i64 (if left < n then -1 else left - n)) ∧ w' = w := by
  by_cases h : left < n
  · rw [if_pos h]
    go_enter Try.func14, Try.ntmps14
    go_wp2
    go_ret
    exact ⟨rfl, rfl⟩
  · rw [if_neg h]
    go_enter Try.func14, Try.ntmps14
    go_wp2
    go_ret
    exact ⟨rfl, rfl⟩
end Go.Proofs.Ytaoahghfmlegbab
