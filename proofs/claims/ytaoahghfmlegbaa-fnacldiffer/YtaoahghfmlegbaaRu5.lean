/- The model's l4Says and AclSays. -/
import Derived.Test.YtaoahghfmlegbaaRu4
import Derived.Deep.RegionHeld3
namespace Go.Proofs.Ytaoahghfmlegbaa
open Go.RowKit Go.Lib

/-- what holds in a region over a rule of a row and a packet's box -/
def RP (W0 : World) (g o : Nat) (q : Bool) (a l b m k : Int) (B : Nat) (f t n : Int) (w' : World) : Prop :=
  w'.cell? ⟨g, o, none⟩ = some (.bool q) ∧ w'.cell? ⟨g, o + 1, none⟩ = some (.int .i64 a) ∧ w'.cell? ⟨g, o + 2, none⟩ = some (.int .i64 l) ∧
  w'.cell? ⟨g, o + 3, none⟩ = some (.int .i64 b) ∧ w'.cell? ⟨g, o + 4, none⟩ = some (.int .i64 m) ∧ w'.cell? ⟨g, o + 5, none⟩ = some (.int .i64 k) ∧
  w'.cell? ⟨B, 0, none⟩ = some (.int .i64 f) ∧ w'.cell? ⟨B, 1, none⟩ = some (.int .i64 t) ∧ w'.cell? ⟨B, 2, none⟩ = some (.int .i64 n) ∧ Below W0.heap.size W0 w'
theorem RP.next {W0 wp w1 : World} {g o B : Nat} {q : Bool} {a l b m k f t n : Int} (hg : g < W0.heap.size) (hB : B < W0.heap.size) (h : RP W0 g o q a l b m k B f t n wp) (hb : Below wp.heap.size wp w1) : RP W0 g o q a l b m k B f t n w1 := by
  obtain ⟨h0, h1, h2, h3, h4, h5, h6, h7, h8, h9⟩ := h
  have hs := h9.size
  have k1 : ∀ j, w1.cell? ⟨g, j, none⟩ = wp.cell? ⟨g, j, none⟩ := fun j => hb.cell (p := ⟨g, j, none⟩) (by simp; omega)
  have k2 : ∀ j, w1.cell? ⟨B, j, none⟩ = wp.cell? ⟨B, j, none⟩ := fun j => hb.cell (p := ⟨B, j, none⟩) (by simp; omega)
  unfold RP
  simp only [k1, k2]
  exact ⟨h0, h1, h2, h3, h4, h5, h6, h7, h8, below_then h9 hb⟩
theorem RP.below {W0 w1 : World} {g o B : Nat} {q : Bool} {a l b m k f t n : Int} (h : RP W0 g o q a l b m k B f t n w1) : Below W0.heap.size W0 w1 := h.2.2.2.2.2.2.2.2.2
/-- a new box of three numbers -/
theorem box3 {w w1 : World} {x y z : Value} {t : TypeId} (hb : Below (w.alloc (.cells #[x, y, z] t)).heap.size (w.alloc (.cells #[x, y, z] t)) w1) :
    w1.cell? ⟨w.heap.size, 0, none⟩ = some x ∧ w1.cell? ⟨w.heap.size, 1, none⟩ = some y ∧ w1.cell? ⟨w.heap.size, 2, none⟩ = some z ∧ w.heap.size < w1.heap.size := by
  refine ⟨?_, ?_, ?_, new_lt hb⟩
  · rw [hb.cell (p := ⟨w.heap.size, 0, none⟩) (by simp)]; simp
  · rw [hb.cell (p := ⟨w.heap.size, 1, none⟩) (by simp)]; simp
  · rw [hb.cell (p := ⟨w.heap.size, 2, none⟩) (by simp)]; simp
theorem ret_says {a b : Int} {x y : Bool} (h : a = b) (k : x = y) : Ending.returned (.tuple #[.int .i64 a, .bool x]) = .returned (.tuple #[.int .i64 b, .bool y]) := by rw [h, k]

set_option maxRecDepth 100000 in
set_option maxHeartbeats 1000000 in
theorem says_any (L : List Ru) (f t n : Int) (v : Value) (w : World) (hr : RdR w v L) (hok : ∀ r ∈ L, okR r = true) (hlen : L.length ≤ 1048576) :
    Calls Try.prog 60 #[v, pkV (f, t, n)] w fun e w' => e = .returned (.tuple #[.int .i64 (saysN L (f, t, n)), .bool (saysB L (f, t, n))]) ∧ Below w.heap.size w w' := by
  obtain ⟨p, cap, rfl⟩ := hr.form
  have HOK : Hid (∀ r ∈ L, okR r = true) := hok
  clear hok
  go_enter Try.func60, Try.ntmps60
  go_wp2_with fail
  go_loopw [6] (fun i wr => ∃ j : Nat, j ≤ L.length ∧ i = .int .i64 j ∧ Hid (∀ x (hx : x < L.length), x < j → fits L[x] (f, t, n) = false) ∧ Below (w.alloc (.cells #[.int .i64 f, .int .i64 t, .int .i64 n] 42)).heap.size (w.alloc (.cells #[.int .i64 f, .int .i64 t, .int .i64 n] 42)) wr) (fun i _ => L.length - (intOf i).toNat)
  case atStart => exact ⟨0, Nat.zero_le _, rfl, fun j _ hj => absurd hj (Nat.not_lt_zero _), Below.refl _ _⟩
  case round =>
    obtain ⟨j, hj, rfl, hall, hB0⟩ := hrel
    obtain ⟨d0, d1, d2, hBlt⟩ := box3 hB0
    have hB : Below w.heap.size w wr := below_then ((Below.refl _ _).more _) hB0
    have HB0 : Hid (Below (w.alloc (.cells #[.int .i64 f, .int .i64 t, .int .i64 n] 42)).heap.size (w.alloc (.cells #[.int .i64 f, .int .i64 t, .int .i64 n] 42)) wr) := hB0
    clear hB0
    by_cases hlt : j < L.length
    · obtain ⟨g, rfl, hcap, hg, c0, c1, c2, c3, c4, c5⟩ := (hr.below hB).at hlt
      obtain ⟨q, a, l, b, m, kk, hru⟩ := ru_parts L[j]
      rw [hru] at c0 c1 c2 c3 c4 c5
      have hokj := okR_of (HOK.out L[j] (List.getElem_mem hlt))
      rw [hru] at hokj
      have hcall := fun w => fits_any q a l b m kk f t n w hokj.1 hokj.2.1
      rw [← hru] at hcall
      cases hfit : fits L[j] (f, t, n) with
      | false =>
        have HE : Hid (∀ x (hx : x < L.length), x < j + 1 → fits L[x] (f, t, n) = false) := fun x hx hxj => by
          by_cases e : x = j
          · subst e; exact hfit
          · exact hall.out x hx (by omega)
        rw [hfit] at hcall
        rw [hru] at hcall
        clear hru hfit hokj
        go_wp2_with fail
        go_region_held3 (fun w' => w'.cell? ⟨g, j * 6, none⟩ = some (.bool q) ∧ w'.cell? ⟨g, j * 6 + 1, none⟩ = some (.int .i64 a) ∧ w'.cell? ⟨g, j * 6 + 2, none⟩ = some (.int .i64 l) ∧ w'.cell? ⟨g, j * 6 + 3, none⟩ = some (.int .i64 b) ∧ w'.cell? ⟨g, j * 6 + 4, none⟩ = some (.int .i64 m) ∧ w'.cell? ⟨g, j * 6 + 5, none⟩ = some (.int .i64 kk) ∧ w'.cell? ⟨w.heap.size, 0, none⟩ = some (.int .i64 f) ∧ w'.cell? ⟨w.heap.size, 1, none⟩ = some (.int .i64 t) ∧ w'.cell? ⟨w.heap.size, 2, none⟩ = some (.int .i64 n) ∧ Below wr.heap.size wr w')
          (first | exact ⟨c0, c1, c2, c3, c4, c5, d0, d1, d2, (Below.refl _ _).drew⟩ | exact RP.next hg hBlt (by assumption) (by assumption)) (first | (go_at_call 82; refine (hcall _).mono ?_; rintro e w1 ⟨rfl, hb⟩))
        go_wp2
        have hS : RP wr g (j * 6) q a l b m kk w.heap.size f t n w1 := by assumption
        go_roundw
        case rel => exact ⟨j + 1, hlt, rfl, HE, HB0.out.trans (hS.below.mono HB0.out.size)⟩
        case measure => simp [intOf]; omega
      | true =>
        have HD := says_at hlt (dec_eq hlt hfit fun x hx hxj => hall.out x hx hxj)
        rw [hru] at HD
        have HD : Hid (saysN L (f, t, n) = (j : Int) ∧ saysB L (f, t, n) = q) := HD
        rw [hfit] at hcall
        rw [hru] at hcall
        clear hru hfit hokj
        go_wp2_with fail
        go_region_held3 (fun w' => w'.cell? ⟨g, j * 6, none⟩ = some (.bool q) ∧ w'.cell? ⟨g, j * 6 + 1, none⟩ = some (.int .i64 a) ∧ w'.cell? ⟨g, j * 6 + 2, none⟩ = some (.int .i64 l) ∧ w'.cell? ⟨g, j * 6 + 3, none⟩ = some (.int .i64 b) ∧ w'.cell? ⟨g, j * 6 + 4, none⟩ = some (.int .i64 m) ∧ w'.cell? ⟨g, j * 6 + 5, none⟩ = some (.int .i64 kk) ∧ w'.cell? ⟨w.heap.size, 0, none⟩ = some (.int .i64 f) ∧ w'.cell? ⟨w.heap.size, 1, none⟩ = some (.int .i64 t) ∧ w'.cell? ⟨w.heap.size, 2, none⟩ = some (.int .i64 n) ∧ Below wr.heap.size wr w')
          (first | exact ⟨c0, c1, c2, c3, c4, c5, d0, d1, d2, (Below.refl _ _).drew⟩ | exact RP.next hg hBlt (by assumption) (by assumption)) (first | (go_at_call 82; refine (hcall _).mono ?_; rintro e w1 ⟨rfl, hb⟩))
        have hS : RP wr g (j * 6) q a l b m kk w.heap.size f t n w1 := by assumption
        have e0 := hS.1
        go_wp2_with fail
        go_quiet (fail)
        go_wp2
        go_ret2
        exact ⟨ret_says HD.out.1.symm HD.out.2.symm, below_drewN (below_then hB hS.below) _⟩
    · have : j = L.length := by omega
      subst this
      have HE := says_none (dec_none fun x hx => hall.out x hx hx)
      have HE : Hid (saysN L (f, t, n) = -1 ∧ saysB L (f, t, n) = false) := HE
      go_wp2
      go_ret2
      exact ⟨ret_says HE.out.1.symm HE.out.2.symm, hB⟩

set_option maxRecDepth 100000 in
set_option maxHeartbeats 1000000 in
theorem aclsays_any (L : List Ru) (f t n : Int) (v : Value) (w : World) (hr : RdR w v L) (hlen : L.length ≤ 1048576) :
    Calls Try.prog 27 #[v, pkV (f, t, n)] w fun e w' => e = .returned (.tuple #[.int .i64 (aclN L (f, t, n)), .bool (aclB L (f, t, n))]) ∧ Below w.heap.size w w' := by
  obtain ⟨p, cap, rfl⟩ := hr.form
  have HB : Below w.heap.size w w := Below.refl _ _
  cases h1 : okRs L with
  | false =>
    have HE : Hid (aclN L (f, t, n) = -1 ∧ aclB L (f, t, n) = false) := by
      unfold Hid aclN aclB; simp [h1]
    go_enter Try.func27, Try.ntmps27
    go_wp2_with (go_at_call 34; refine (aclok_any L _ _ (hr.below (HB.more _)) hlen).mono ?_; rintro e w1 ⟨rfl, hb⟩; obtain ⟨hc, hf⟩ := bcell hb; replace HB := below_then (HB.more _) hb)
    go_ret2
    exact ⟨ret_says HE.out.1.symm HE.out.2.symm, HB⟩
  | true =>
    cases h2 : okK (f, t, n) with
    | false =>
      have HE : Hid (aclN L (f, t, n) = -1 ∧ aclB L (f, t, n) = false) := by
        unfold Hid aclN aclB; simp [h2]
      go_enter Try.func27, Try.ntmps27
      go_wp2_with (first | (go_at_call 34; refine (aclok_any L _ _ (hr.below (HB.more _)) hlen).mono ?_; rintro e w1 ⟨rfl, hb⟩; obtain ⟨hc, hf⟩ := bcell hb; have hs := new_lt hb; replace HB := below_then (HB.more _) hb) | (go_at_call 59; refine (pkok_any _ _ _ _).mono ?_; rintro e w2 ⟨rfl, hb⟩; obtain ⟨hc, hf⟩ := bcell hb; replace HB := below_then HB hb))
      go_ret2
      exact ⟨ret_says HE.out.1.symm HE.out.2.symm, HB⟩
    | true =>
      have HE : Hid (aclN L (f, t, n) = saysN L (f, t, n) ∧ aclB L (f, t, n) = saysB L (f, t, n)) := by
        unfold Hid aclN aclB; simp [h1, h2]
      have HOK : Hid (∀ r ∈ L, okR r = true) := (okRs_of h1).2
      go_enter Try.func27, Try.ntmps27
      go_wp2_with (first | (go_at_call 34; refine (aclok_any L _ _ (hr.below (HB.more _)) hlen).mono ?_; rintro e w1 ⟨rfl, hb⟩; obtain ⟨hc, hf⟩ := bcell hb; have hs := new_lt hb; replace HB := below_then (HB.more _) hb) | (go_at_call 59; refine (pkok_any _ _ _ _).mono ?_; rintro e w2 ⟨rfl, hb⟩; obtain ⟨hc, hf⟩ := bcell hb; replace HB := below_then HB hb) | (go_at_call 60; refine (says_any L _ _ _ _ _ (hr.below HB) HOK.out hlen).mono ?_; rintro e w3 ⟨rfl, hb⟩; replace HB := below_then HB hb))
      go_ret2
      exact ⟨ret_says HE.out.1.symm HE.out.2.symm, HB⟩
end Go.Proofs.Ytaoahghfmlegbaa
