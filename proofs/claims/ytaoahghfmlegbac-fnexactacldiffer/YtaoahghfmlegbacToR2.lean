/- Lists of rules held against each other; the laws that hold AclOk and AclSays against the model's, walked. -/
import Derived.Test.YtaoahghfmlegbacToR
namespace Go.Proofs.Ytaoahghfmlegbac
open Go.RowKit Go.Lib

/-- two rows whose rules at a place are the same -/
def Two6 (W0 : World) (g g' o o' : Nat) (q : Bool) (a l b m k : Int) (w' : World) : Prop :=
  w'.cell? ⟨g, o, none⟩ = some (.bool q) ∧ w'.cell? ⟨g, o + 1, none⟩ = some (.int .i64 a) ∧ w'.cell? ⟨g, o + 2, none⟩ = some (.int .i64 l) ∧ w'.cell? ⟨g, o + 3, none⟩ = some (.int .i64 b) ∧ w'.cell? ⟨g, o + 4, none⟩ = some (.int .i64 m) ∧ w'.cell? ⟨g, o + 5, none⟩ = some (.int .i64 k) ∧
  w'.cell? ⟨g', o', none⟩ = some (.bool q) ∧ w'.cell? ⟨g', o' + 1, none⟩ = some (.int .i64 a) ∧ w'.cell? ⟨g', o' + 2, none⟩ = some (.int .i64 l) ∧ w'.cell? ⟨g', o' + 3, none⟩ = some (.int .i64 b) ∧ w'.cell? ⟨g', o' + 4, none⟩ = some (.int .i64 m) ∧ w'.cell? ⟨g', o' + 5, none⟩ = some (.int .i64 k) ∧ Below W0.heap.size W0 w'
theorem Two6.next {W0 wp w1 : World} {g g' o o' : Nat} {q : Bool} {a l b m k : Int} (hg : g < W0.heap.size) (hg' : g' < W0.heap.size) (h : Two6 W0 g g' o o' q a l b m k wp) (hb : Below wp.heap.size wp w1) : Two6 W0 g g' o o' q a l b m k w1 := by
  obtain ⟨h0, h1, h2, h3, h4, h5, k0, k1, k2, k3, k4, k5, h9⟩ := h
  have hs := h9.size
  have e1 : ∀ j, w1.cell? ⟨g, j, none⟩ = wp.cell? ⟨g, j, none⟩ := fun j => hb.cell (p := ⟨g, j, none⟩) (by simp; omega)
  have e2 : ∀ j, w1.cell? ⟨g', j, none⟩ = wp.cell? ⟨g', j, none⟩ := fun j => hb.cell (p := ⟨g', j, none⟩) (by simp; omega)
  unfold Two6
  simp only [e1, e2]
  exact ⟨h0, h1, h2, h3, h4, h5, k0, k1, k2, k3, k4, k5, below_then h9 hb⟩
theorem Two6.below {W0 w1 : World} {g g' o o' : Nat} {q : Bool} {a l b m k : Int} (h : Two6 W0 g g' o o' q a l b m k w1) : Below W0.heap.size W0 w1 := h.2.2.2.2.2.2.2.2.2.2.2.2

set_option maxRecDepth 100000 in
set_option maxHeartbeats 2000000 in
/-- two lists that are the same are told so -/
theorem eqrs_any (L : List Ru) (v u : Value) (w : World) (hr : RdR w v L) (hs : RdR w u L) (hlen : L.length ≤ 1048576) :
    Calls Try.prog 9 #[v, u] w fun e w' => e = .returned (.bool true) ∧ Below w.heap.size w w' := by
  obtain ⟨p, cap, rfl⟩ := hr.form
  obtain ⟨q, cap', rfl⟩ := hs.form
  go_enter Try.func9, Try.ntmps9
  go_wp2_with fail
  go_loopw [5] (fun i wr => ∃ k : Nat, k ≤ L.length ∧ i = .int .i64 k ∧ Below w.heap.size w wr) (fun i _ => L.length - (intOf i).toNat)
  case atStart => exact ⟨0, Nat.zero_le _, rfl, Below.refl _ _⟩
  case round =>
    obtain ⟨k, hk, rfl, hB⟩ := hrel
    by_cases hlt : k < L.length
    · obtain ⟨g, rfl, hcap, hg, c0, c1, c2, c3, c4, c5⟩ := (hr.below hB).at hlt
      obtain ⟨g', rfl, hcap', hg', d0, d1, d2, d3, d4, d5⟩ := (hs.below hB).at hlt
      obtain ⟨rp, a, l, b, m, kk, hru⟩ := ru_parts L[k]
      rw [hru] at c0 c1 c2 c3 c4 c5 d0 d1 d2 d3 d4 d5
      clear hru
      have he := fun w => eqr_any rp a l b m kk w
      go_wp2_with fail
      go_region_held3 (fun w' => w'.cell? ⟨g, k * 6, none⟩ = some (.bool rp) ∧ w'.cell? ⟨g, k * 6 + 1, none⟩ = some (.int .i64 a) ∧ w'.cell? ⟨g, k * 6 + 2, none⟩ = some (.int .i64 l) ∧ w'.cell? ⟨g, k * 6 + 3, none⟩ = some (.int .i64 b) ∧ w'.cell? ⟨g, k * 6 + 4, none⟩ = some (.int .i64 m) ∧ w'.cell? ⟨g, k * 6 + 5, none⟩ = some (.int .i64 kk) ∧
          w'.cell? ⟨g', k * 6, none⟩ = some (.bool rp) ∧ w'.cell? ⟨g', k * 6 + 1, none⟩ = some (.int .i64 a) ∧ w'.cell? ⟨g', k * 6 + 2, none⟩ = some (.int .i64 l) ∧ w'.cell? ⟨g', k * 6 + 3, none⟩ = some (.int .i64 b) ∧ w'.cell? ⟨g', k * 6 + 4, none⟩ = some (.int .i64 m) ∧ w'.cell? ⟨g', k * 6 + 5, none⟩ = some (.int .i64 kk) ∧ Below wr.heap.size wr w')
        (first | exact ⟨c0, c1, c2, c3, c4, c5, d0, d1, d2, d3, d4, d5, (Below.refl _ _).drew⟩ | exact Two6.next hg hg' (by assumption) (by assumption)) (first | (go_at_call 18; refine (he _).mono ?_; rintro e w1 ⟨rfl, hb⟩))
      go_wp2
      have hS : Two6 wr g g' (k * 6) (k * 6) rp a l b m kk w1 := by assumption
      go_roundw
      case rel => exact ⟨k + 1, hlt, rfl, below_then hB hS.below⟩
      case measure => simp [intOf]; omega
    · have : k = L.length := by omega
      subst this
      go_wp2
      go_ret
      exact ⟨rfl, hB⟩

set_option maxRecDepth 100000 in
set_option maxHeartbeats 400000 in
theorem szr_any (n : Nat) (p : Option Addr) (cap : Nat) (left : Int) (w : World) (h0 : 0 ≤ left) (h1 : left ≤ 1048576) (hn : (n : Int) ≤ 9223372036854775807) :
    Calls Try.prog 4 #[.slice p n cap, .int .i64 left] w fun e w' => e = .returned (.int .i64 (if left < n then -1 else left - n)) ∧ w' = w := by
  by_cases h : left < n
  · rw [if_pos h]
    go_enter Try.func4, Try.ntmps4
    go_wp2
    go_ret
    exact ⟨rfl, rfl⟩
  · rw [if_neg h]
    go_enter Try.func4, Try.ntmps4
    go_wp2
    go_ret
    exact ⟨rfl, rfl⟩
end Go.Proofs.Ytaoahghfmlegbac
