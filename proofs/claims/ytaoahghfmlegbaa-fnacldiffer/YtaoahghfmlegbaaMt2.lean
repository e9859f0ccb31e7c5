/- The program's list of rules: matchers, IndexFunc over the functions, says. -/
import Derived.Test.YtaoahghfmlegbaaMt
namespace Go.Proofs.Ytaoahghfmlegbaa
open Go.RowKit Go.Lib

/-- a list whose functions are made -/
def LstD (w : World) (b : Nat) (v : Value) (L : List Ru) (mv : Value) : Prop :=
  w.cell? ⟨b, 0, none⟩ = some v ∧ w.cell? ⟨b, 1, none⟩ = some (.int .u32 1) ∧ w.cell? ⟨b, 2, none⟩ = some (.int .i32 0) ∧ w.cell? ⟨b, 4, none⟩ = some mv ∧
  w.frozen? ⟨b, 1, none⟩ = false ∧ w.frozen? ⟨b, 2, none⟩ = false ∧ w.frozen? ⟨b, 4, none⟩ = false ∧ RdR w v L ∧ RdM w mv L
/-- a list whose functions are not made yet -/
def LstN (w : World) (b : Nat) (v : Value) (L : List Ru) : Prop :=
  w.cell? ⟨b, 0, none⟩ = some v ∧ w.cell? ⟨b, 1, none⟩ = some (.int .u32 0) ∧ w.cell? ⟨b, 2, none⟩ = some (.int .i32 0) ∧ w.cell? ⟨b, 4, none⟩ = some (.slice none 0 0) ∧
  w.frozen? ⟨b, 1, none⟩ = false ∧ w.frozen? ⟨b, 2, none⟩ = false ∧ w.frozen? ⟨b, 4, none⟩ = false ∧ RdR w v L
def Lst (w : World) (b : Nat) (v : Value) (L : List Ru) : Prop := LstN w b v L ∨ ∃ mv, LstD w b v L mv
theorem RowM.rd {w : World} {b : Nat} {v : Value} {L : List Ru} (h : RowM w b v L) : RdM w v L := by
  rcases h.2 with ⟨hv, hn⟩ | ⟨g, cap, cur, rfl, hb, hh, hnc, hm, hs, ht⟩
  · exact .inl ⟨hv, List.length_eq_zero_iff.1 hn⟩
  · refine .inr ⟨g, cap, rfl, (Array.getElem?_eq_some_iff.1 hh).1, fun i r hr => ?_⟩
    have hi : i < L.length := (List.getElem?_eq_some_iff.1 hr).1
    rw [World.ownsRow.cellAt h i (by omega)]
    simp [mtC, hr]
theorem RdM.grown {w w' : World} {v : Value} {L : List Ru} {b : Nat} {s : Option Addr} {n c : Nat} (h : RdM w v L) (hg : w.grownBy w' (some b)) (hb : w.cell? ⟨b, 0, none⟩ = some (.slice s n c)) : RdM w' v L := by
  rcases h with h | ⟨g, cap, hv, hgl, hcs⟩
  · exact .inl h
  · refine .inr ⟨g, cap, hv, Nat.lt_of_lt_of_le hgl hg.size, fun i r hr => ?_⟩
    have h0 : 0 < L.length := Nat.lt_of_le_of_lt (Nat.zero_le _) (List.getElem?_eq_some_iff.1 hr).1
    have hgb : g ≠ b := by
      rintro rfl
      have := hcs 0 L[0] (List.getElem?_eq_getElem h0)
      rw [hb] at this
      cases this
    exact (World.grownBy.cell_far hg ⟨g, i, none⟩ hgl (by simpa using hgb)).trans (hcs i r hr)
theorem RdM.below {w w' : World} {v : Value} {L : List Ru} (h : RdM w v L) (hb : Below w.heap.size w w') : RdM w' v L := by
  rcases h with h | ⟨g, cap, hv, hgl, hcs⟩
  · exact .inl h
  · exact .inr ⟨g, cap, hv, Nat.lt_of_lt_of_le hgl hb.size, fun i r hr => (hb.cell (p := ⟨g, i, none⟩) hgl).trans (hcs i r hr)⟩
theorem RdM.form {w : World} {v : Value} {L : List Ru} (h : RdM w v L) : ∃ p cap, v = .slice p L.length cap := by
  rcases h with ⟨hv, hn⟩ | ⟨g, cap, h1, _⟩
  · exact ⟨none, 0, by rw [hn]; exact hv⟩
  · exact ⟨_, _, h1⟩
theorem RdM.at {w : World} {p : Option Addr} {n cap : Nat} {L : List Ru} (h : RdM w (.slice p n cap) L) {i : Nat} (hi : i < L.length) : ∃ g, p = some ⟨g, 0, none⟩ ∧ g < w.heap.size ∧ w.cell? ⟨g, i, none⟩ = some (mtV L[i]) := by
  rcases h with ⟨_, hn⟩ | ⟨g, cap', h1, hg, hc⟩
  · subst hn; simp at hi
  · cases h1
    exact ⟨g, rfl, hg, hc i L[i] (List.getElem?_eq_getElem hi)⟩

/-- the two calls of the program's function values: a closure that asks one function of one packet -/
theorem ask_any (r : Ru) (B : Nat) (f t n : Int) (w : World) (hr : okR r = true) (d0 : w.cell? ⟨B, 0, none⟩ = some (.int .i64 f)) (d1 : w.cell? ⟨B, 1, none⟩ = some (.int .i64 t)) (d2 : w.cell? ⟨B, 2, none⟩ = some (.int .i64 n)) (x1 : f ≤ 9223372036854775807) (x2 : t ≤ 9223372036854775807) :
    Calls Try.prog 81 #[mtV r, .pointer (some ⟨B, 0, none⟩)] w fun e w' => e = .returned (.bool (fits r (f, t, n))) ∧ Below w.heap.size w w' := by
  obtain ⟨q, a, l, b, m, k, rfl⟩ := ru_parts r
  obtain ⟨o1, o2, _⟩ := okR_of hr
  have hcall := about_any q a l b m k f t n w o1 o2 x1 x2
  clear hr o1 o2 x1 x2
  go_enter Try.func81, Try.ntmps81
  go_wp2_with (go_at_call 97; refine hcall.mono ?_; rintro e w1 ⟨rfl, hb⟩)
  go_ret
  exact ⟨rfl, hb⟩

set_option maxRecDepth 100000 in
set_option maxHeartbeats 1000000 in
theorem idx_any (L : List Ru) (mv : Value) (B : Nat) (f t n : Int) (w : World) (hm : RdM w mv L) (hok : ∀ r ∈ L, okR r = true) (hlen : L.length ≤ 12) (d0 : w.cell? ⟨B, 0, none⟩ = some (.int .i64 f)) (d1 : w.cell? ⟨B, 1, none⟩ = some (.int .i64 t)) (d2 : w.cell? ⟨B, 2, none⟩ = some (.int .i64 n)) (x1 : f ≤ 9223372036854775807) (x2 : t ≤ 9223372036854775807) :
    Calls Try.prog 79 #[mv, .func (.func 81) #[] #[.pointer (some ⟨B, 0, none⟩)]] w fun e w' => e = .returned (.int .i64 (saysN L (f, t, n))) ∧ Below w.heap.size w w' := by
  obtain ⟨p, cap, rfl⟩ := hm.form
  have HOK : Hid (∀ r ∈ L, okR r = true) := hok
  have X : Hid (f ≤ 9223372036854775807 ∧ t ≤ 9223372036854775807) := ⟨x1, x2⟩
  have hBw := cell_lt d0
  clear hok x1 x2
  go_enter Try.func79, Try.ntmps79
  go_wp2_with fail
  go_loopw [8] (fun i wr => ∃ j : Nat, j ≤ L.length ∧ i = .int .i64 j ∧ Hid (∀ x (hx : x < L.length), x < j → fits L[x] (f, t, n) = false) ∧ Below w.heap.size w wr) (fun i _ => L.length - (intOf i).toNat)
  case atStart => exact ⟨0, Nat.zero_le _, rfl, fun j _ hj => absurd hj (Nat.not_lt_zero _), Below.refl _ _⟩
  case round =>
    obtain ⟨j, hj, rfl, hall, hB⟩ := hrel
    by_cases hlt : j < L.length
    · obtain ⟨g, rfl, hg, c0⟩ := (hm.below hB).at hlt
      have e0 : wr.cell? ⟨B, 0, none⟩ = some (.int .i64 f) := (hB.cell (p := ⟨B, 0, none⟩) hBw).trans d0
      have e1 : wr.cell? ⟨B, 1, none⟩ = some (.int .i64 t) := (hB.cell (p := ⟨B, 1, none⟩) hBw).trans d1
      have e2 : wr.cell? ⟨B, 2, none⟩ = some (.int .i64 n) := (hB.cell (p := ⟨B, 2, none⟩) hBw).trans d2
      have hcall := ask_any L[j] B f t n wr (HOK.out _ (List.getElem_mem hlt)) e0 e1 e2 X.out.1 X.out.2
      clear e0 e1 e2
      generalize hLj : L[j] = r at *
      cases hfit : fits r (f, t, n) with
      | false =>
        have HE : Hid (∀ x (hx : x < L.length), x < j + 1 → fits L[x] (f, t, n) = false) := fun x hx hxj => by
          by_cases e : x = j
          · subst e; rw [hLj]; exact hfit
          · exact hall.out x hx (by omega)
        rw [hfit] at hcall
        clear hLj hfit
        go_wp2_with (go_at_call 81; refine hcall.mono ?_; rintro e w1 ⟨rfl, hb⟩)
        go_roundw
        case rel => exact ⟨j + 1, hlt, rfl, HE, below_then hB hb⟩
        case measure => simp [intOf]; omega
      | true =>
        have HD := says_at hlt (dec_eq hlt (by rw [hLj]; exact hfit) fun x hx hxj => hall.out x hx hxj)
        have HD : Hid (saysN L (f, t, n) = (j : Int)) := HD.1
        rw [hfit] at hcall
        clear hLj hfit
        go_wp2_with (go_at_call 81; refine hcall.mono ?_; rintro e w1 ⟨rfl, hb⟩)
        go_ret
        exact ⟨ret_int HD.out.symm, below_then hB hb⟩
    · have : j = L.length := by omega
      subst this
      have HE := says_none (dec_none fun x hx => hall.out x hx hx)
      have HE : Hid (saysN L (f, t, n) = -1) := HE.1
      go_wp2
      go_ret
      exact ⟨ret_int HE.out.symm, hB⟩

/-- what the making of the functions, through the Once, leaves of a list -/
theorem made_end {w W1 w1 : World} {b q : Nat} {v : Value} {L : List Ru} {o : Obj} (h : LstN w b v L) (hW : W1 = (w.alloc o).setCell ⟨b, 2, none⟩ (.int .i32 1)) (hq : q = w.heap.size) (hf : Filled W1 b L w1) :
    ∃ mv, LstD ((w1.drew.setCell ⟨b, 1, none⟩ (.int .u32 1)).setCell ⟨b, 2, none⟩ (.int .i32 0)) b v L mv ∧ w.grownBy ((w1.drew.setCell ⟨b, 1, none⟩ (.int .u32 1)).setCell ⟨b, 2, none⟩ (.int .i32 0)) (some b) ∧
      (∀ j, ((w1.drew.setCell ⟨b, 1, none⟩ (.int .u32 1)).setCell ⟨b, 2, none⟩ (.int .i32 0)).cell? ⟨q, j, none⟩ = (w.alloc o).cell? ⟨q, j, none⟩) := by
  obtain ⟨c0, c1, c2, c4, f1, f2, f4, hr⟩ := h
  obtain ⟨⟨mv, m4, hrow⟩, hgr, hsame, hfz⟩ := hf
  have hbw := cell_lt c0
  have hqb : q ≠ b := by omega
  obtain ⟨p, cap, rfl⟩ := hr.form
  have hbl : ∀ j, W1.cell? ⟨b, j, none⟩ = if j = 2 then some (.int .i32 1) else w.cell? ⟨b, j, none⟩ := fun j => by
    subst hW
    by_cases e : j = 2
    · subst e
      rw [if_pos rfl]
      exact World.cell?_setCell_same _ _ _ (by rw [World.cell?_alloc_lt _ _ _ hbw]; exact c2)
    · rw [if_neg e, World.cell?_setCell_other _ ⟨b, 2, none⟩ ⟨b, j, none⟩ _ (fun h => e (by cases h; rfl)), World.cell?_alloc_lt _ _ _ hbw]
  have hblf : ∀ j, W1.frozen? ⟨b, j, none⟩ = w.frozen? ⟨b, j, none⟩ := fun j => by
    subst hW
    rw [World.frozen?_setCell, World.frozen?_alloc_old _ _ _ (Nat.ne_of_lt hbw)]
  have g1 : w.grownBy W1 (some b) := by subst hW; exact (World.grownBy_alloc _ _ _).trans (grown_set _ _ _ _)
  have g2 : W1.grownBy ((w1.drew.setCell ⟨b, 1, none⟩ (.int .u32 1)).setCell ⟨b, 2, none⟩ (.int .i32 0)) (some b) := ((hgr.trans (grown_drewB _ _)).trans (grown_set _ _ _ _)).trans (grown_set _ _ _ _)
  have hs1 : w1.cell? ⟨b, 1, none⟩ = some (.int .u32 0) := by rw [hsame 1 (by omega), hbl, if_neg (by omega)]; exact c1
  have hs2 : w1.cell? ⟨b, 2, none⟩ = some (.int .i32 1) := by rw [hsame 2 (by omega), hbl, if_pos rfl]
  have e0 : ∀ j, j ≠ 1 → j ≠ 2 → ((w1.drew.setCell ⟨b, 1, none⟩ (.int .u32 1)).setCell ⟨b, 2, none⟩ (.int .i32 0)).cell? ⟨b, j, none⟩ = w1.cell? ⟨b, j, none⟩ := fun j h1 h2 => by
    rw [World.cell?_setCell_other _ ⟨b, 2, none⟩ ⟨b, j, none⟩ _ (fun h => h2 (by cases h; rfl)), World.cell?_setCell_other _ ⟨b, 1, none⟩ ⟨b, j, none⟩ _ (fun h => h1 (by cases h; rfl)), World.cell?_drew]
  have ef : ∀ j, ((w1.drew.setCell ⟨b, 1, none⟩ (.int .u32 1)).setCell ⟨b, 2, none⟩ (.int .i32 0)).frozen? ⟨b, j, none⟩ = w.frozen? ⟨b, j, none⟩ := fun j => by
    rw [World.frozen?_setCell, World.frozen?_setCell, World.frozen?_drew, hfz, hblf]
  refine ⟨mv, ⟨?_, ?_, ?_, ?_, ?_, ?_, ?_, ?_, ?_⟩, g1.trans g2, ?_⟩
  · rw [e0 0 (by omega) (by omega), hsame 0 (by omega), hbl, if_neg (by omega)]; exact c0
  · rw [World.cell?_setCell_other _ ⟨b, 2, none⟩ ⟨b, 1, none⟩ _ (by simp)]
    exact World.cell?_setCell_same _ _ _ (by rw [World.cell?_drew]; exact hs1)
  · refine World.cell?_setCell_same _ _ _ (u := .int .i32 1) ?_
    rw [World.cell?_setCell_other _ ⟨b, 1, none⟩ ⟨b, 2, none⟩ _ (by simp), World.cell?_drew]; exact hs2
  · rw [e0 4 (by omega) (by omega)]; exact m4
  · rw [ef]; exact f1
  · rw [ef]; exact f2
  · rw [ef]; exact f4
  · exact hr.grown (g1.trans g2) c0
  · have hc0 : w1.cell? ⟨b, 0, none⟩ = some (.slice p L.length cap) := by rw [hsame 0 (by omega), hbl, if_neg (by omega)]; exact c0
    exact hrow.rd.grown (((grown_drewB w1 (some b)).trans (grown_set _ _ _ _)).trans (grown_set _ _ _ _)) hc0
  · intro j
    have hqs : q < W1.heap.size := by subst hW; rw [hq]; simp
    rw [g2.cell_far ⟨q, j, none⟩ hqs (by simpa using hqb)]
    subst hW
    exact World.cell?_setCell_far _ _ _ _ (fun e => hqb e.symm)

set_option maxRecDepth 100000 in
set_option maxHeartbeats 1600000 in
theorem matchers_any (b : Nat) (v : Value) (L : List Ru) (w : World) (h : Lst w b v L) (hlen : L.length ≤ 12) :
    Calls Try.prog 80 #[.pointer (some ⟨b, 0, none⟩)] w fun e w' => ∃ mv, e = .returned mv ∧ LstD w' b v L mv ∧ w.grownBy w' (some b) := by
  have hmf : ∀ (fn : Fn) (first cap : Array Value) (w : World), (Instr.makeFunc fn first cap).run Try.prog w = .ok (.func fn first cap) w := fun _ _ _ _ => rfl
  rcases h with h | ⟨mv, h⟩
  · have hs := h
    obtain ⟨c0, c1, c2, c4, f1, f2, f4, hr⟩ := h
    have hbw := cell_lt c0
    have hcb : ∀ j, (w.alloc (.cells #[.pointer (some ⟨b, 0, none⟩)] 119)).cell? ⟨b, j, none⟩ = w.cell? ⟨b, j, none⟩ := fun j => World.cell?_alloc_lt _ _ _ hbw
    have hfb : ∀ j, (w.alloc (.cells #[.pointer (some ⟨b, 0, none⟩)] 119)).frozen? ⟨b, j, none⟩ = w.frozen? ⟨b, j, none⟩ := fun j => World.frozen?_alloc_old _ _ _ (Nat.ne_of_lt hbw)
    have hwb : w.heap.size ≠ b := by omega
    have hff := fill_any b w.heap.size hwb v L ((w.alloc (.cells #[.pointer (some ⟨b, 0, none⟩)] 119)).setCell ⟨b, 2, none⟩ (.int .i32 1))
      (by
        obtain ⟨p, cap, rfl⟩ := hr.form
        exact (hr.below ((Below.refl _ _).more _)).grown (grown_set _ _ _ _) (by rw [hcb]; exact c0)) hlen
      (by rw [World.cell?_setCell_far _ _ _ _ (fun e => hwb e.symm)]; simp)
      (by rw [World.cell?_setCell_other _ ⟨b, 2, none⟩ ⟨b, 0, none⟩ _ (by simp), hcb]; exact c0)
      (by rw [World.cell?_setCell_other _ ⟨b, 2, none⟩ ⟨b, 4, none⟩ _ (by simp), hcb]; exact c4)
      (by rw [World.frozen?_setCell, hfb]; exact f4)
    have honce := once_first b ⟨w.heap.size, 0, none⟩ (w.alloc (.cells #[.pointer (some ⟨b, 0, none⟩)] 119)) (Filled ((w.alloc (.cells #[.pointer (some ⟨b, 0, none⟩)] 119)).setCell ⟨b, 2, none⟩ (.int .i32 1)) b L)
      (by rw [hcb]; exact c1) (by rw [hcb]; exact c2) (by rw [hfb]; exact f2) hff
      (fun w' hw' => ⟨by rw [hw'.2.2.1 1 (by omega), World.cell?_setCell_other _ ⟨b, 2, none⟩ ⟨b, 1, none⟩ _ (by simp), hcb]; exact c1,
        by rw [hw'.2.2.1 2 (by omega)]; exact World.cell?_setCell_same _ _ _ (by rw [hcb]; exact c2),
        by rw [hw'.2.2.2, World.frozen?_setCell, hfb]; exact f1, by rw [hw'.2.2.2, World.frozen?_setCell, hfb]; exact f2⟩)
    clear hff
    go_enter Try.func80, Try.ntmps80
    go_wp2_with (go_at_call 95; refine honce.mono ?_; clear honce; rintro e w' ⟨rfl, w1, hfl, hw'⟩; obtain ⟨mv, hd, hgr, hq⟩ := made_end (o := .cells #[.pointer (some ⟨b, 0, none⟩)] 119) hs rfl rfl hfl; rw [← hw'] at hd hgr hq; have hm4 := hd.2.2.2.1; have hq0 := (hq 0).trans (show (w.alloc (.cells #[.pointer (some ⟨b, 0, none⟩)] 119)).cell? ⟨w.heap.size, 0, none⟩ = some (.pointer (some ⟨b, 0, none⟩)) by simp); clear hs hr hcb hfb hq hfl hw')
    go_ret
    exact ⟨mv, rfl, hd, hgr⟩
  · have hd := h
    obtain ⟨c0, c1, c2, c4, f1, f2, f4, hr, hm⟩ := h
    have hbw := cell_lt c0
    have g1 : w.grownBy (w.alloc (.cells #[.pointer (some ⟨b, 0, none⟩)] 119)) (some b) := World.grownBy_alloc _ _ _
    have hcb : ∀ j, (w.alloc (.cells #[.pointer (some ⟨b, 0, none⟩)] 119)).cell? ⟨b, j, none⟩ = w.cell? ⟨b, j, none⟩ := fun j => World.cell?_alloc_lt _ _ _ hbw
    have hfb : ∀ j, (w.alloc (.cells #[.pointer (some ⟨b, 0, none⟩)] 119)).frozen? ⟨b, j, none⟩ = w.frozen? ⟨b, j, none⟩ := fun j => World.frozen?_alloc_old _ _ _ (Nat.ne_of_lt hbw)
    have hd1 : LstD (w.alloc (.cells #[.pointer (some ⟨b, 0, none⟩)] 119)) b v L mv := by
      unfold LstD
      rw [hcb, hcb, hcb, hcb, hfb, hfb, hfb]
      exact ⟨c0, c1, c2, c4, f1, f2, f4, hr.below ((Below.refl _ _).more _), hm.below ((Below.refl _ _).more _)⟩
    have hdone := fun fv => once_done b fv (w.alloc (.cells #[.pointer (some ⟨b, 0, none⟩)] 119)) (by rw [hcb]; exact c1)
    have hm4 := hd1.2.2.2.1
    clear hr hm hd hcb hfb
    go_enter Try.func80, Try.ntmps80
    go_wp2_with (go_at_call 95; refine (hdone _).mono ?_; clear hdone; rintro e w' ⟨rfl, rfl⟩)
    go_wp2
    go_ret
    exact ⟨mv, rfl, hd1, g1⟩
end Go.Proofs.Ytaoahghfmlegbaa
