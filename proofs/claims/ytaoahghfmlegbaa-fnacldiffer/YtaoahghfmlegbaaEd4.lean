/- The program's edgesOf. -/
import Derived.Test.YtaoahghfmlegbaaEd3
namespace Go.Proofs.Ytaoahghfmlegbaa
open Go.RowKit Go.Lib Go.Maps

def E0 : List (Int × Int) := [(2, 1), (1, 0), (0, 0)]
def rulesE (L : List Ru) : List (Int × Int) := L.foldl ruleE E0
theorem rulesE_snoc (L : List Ru) (r : Ru) : rulesE (L ++ [r]) = ruleE (rulesE L) r := by simp [rulesE]
/-- lists of rules that can be read -/
def RdL (w : World) (v : Value) (Ls : List (List Ru)) : Prop :=
  ∃ g cap, v = .slice (some ⟨g, 0, none⟩) Ls.length cap ∧ g < w.heap.size ∧ ∀ i L, Ls[i]? = some L → ∃ u, w.cell? ⟨g, i, none⟩ = some u ∧ RdR w u L
theorem RdL.below {w w' : World} {v : Value} {Ls : List (List Ru)} (h : RdL w v Ls) (hb : Below w.heap.size w w') : RdL w' v Ls := by
  obtain ⟨g, cap, hv, hg, hc⟩ := h
  refine ⟨g, cap, hv, Nat.lt_of_lt_of_le hg hb.size, fun i L hL => ?_⟩
  obtain ⟨u, h1, h2⟩ := hc i L hL
  exact ⟨u, (hb.cell (p := ⟨g, i, none⟩) hg).trans h1, h2.below hb⟩
theorem take_flat {Ls : List (List Ru)} {k : Nat} (h : k < Ls.length) : (Ls.take (k + 1)).flatten = (Ls.take k).flatten ++ Ls[k] := by
  rw [List.take_succ_eq_append_getElem h, List.flatten_append]; simp
theorem take_flat_le {Ls : List (List Ru)} (k : Nat) : (Ls.take k).flatten.length ≤ Ls.flatten.length := by
  have : Ls.flatten = (Ls.take k).flatten ++ (Ls.drop k).flatten := by rw [← List.flatten_append, List.take_append_drop]
  rw [this]; simp
theorem below_map {w W W' : World} {b : Nat} (hb : Below w.heap.size w W) (hg : W.grownBy W' (some b)) (hw : w.heap.size ≤ b) : Below w.heap.size w W' := hb.grown hg hb.size (fun k e => by cases e; exact hw)
theorem ed_made (w : World) : EdM (w.alloc (.map #[] 0)) w.heap.size 0 [] := ⟨_, World.ownsMap_made _ _ _ _, fun p a _ _ => by simp [Maps.has]⟩

set_option maxRecDepth 100000 in
set_option maxHeartbeats 2000000 in
theorem edges_any (Ls : List (List Ru)) (v : Value) (w : World) (hr : RdL w v Ls) (hok : ∀ L ∈ Ls, ∀ r ∈ L, okR r = true) (hlen : Ls.flatten.length ≤ 100) (hls : Ls.length ≤ 100) :
    Calls Try.prog 63 #[v] w fun e w' => e = .returned (.map (some w.heap.size)) ∧ EdM w' w.heap.size 1000 (rulesE Ls.flatten) ∧ Below w.heap.size w w' := by
  obtain ⟨g, cap, rfl, hg, hcs⟩ := id hr
  have HOK : Hid (∀ L ∈ Ls, ∀ r ∈ L, okR r = true) := hok
  have hmm := @run_makeMap Try.prog
  have hB0 : Below w.heap.size w (w.alloc (.map #[] 0)) := (Below.refl _ _).more _
  have m0 := ed_made w
  have T1 : Hid True := trivial
  have T2 : Hid True := trivial
  have T3 : Hid True := trivial
  clear hcs hok
  go_enter Try.func63, Try.ntmps63
  go_wp2_with (first | (go_at_call 88; clear T1; refine (putE_any w.heap.size 0 [] 0 0 _ m0 (by omega) (i64_of (by omega) (by omega)) (i64_of (by omega) (by omega))).mono ?_; rintro e W1 ⟨rfl, m1, g1⟩; have b1 := below_map hB0 g1 (Nat.le_refl _)) | (go_at_call 88; clear T2; refine (putE_any w.heap.size 1 (addE [] 0 0) 1 0 _ m1 (by omega) (i64_of (by omega) (by omega)) (i64_of (by omega) (by omega))).mono ?_; rintro e W2 ⟨rfl, m2, g2⟩; have b2 := below_map b1 g2 (Nat.le_refl _)) | (go_at_call 88; clear T3; refine (putE_any w.heap.size 2 (addE (addE [] 0 0) 1 0) 2 1 _ m2 (by omega) (i64_of (by omega) (by omega)) (i64_of (by omega) (by omega))).mono ?_; rintro e W3 ⟨rfl, m3, g3⟩; have b3 := below_map b2 g3 (Nat.le_refl _)))
  have m3' : EdM W3 w.heap.size 3 (rulesE []) := m3
  clear m0 m1 m2 m3 g1 g2 g3 b1 b2 hB0
  go_loopw [17] (fun i wr => ∃ k : Nat, k ≤ Ls.length ∧ i = .int .i64 k ∧ Hid (EdM wr w.heap.size (3 + 6 * (Ls.take k).flatten.length) (rulesE (Ls.take k).flatten)) ∧ Below w.heap.size w wr) (fun i _ => Ls.length - (intOf i).toNat)
  case atStart => exact ⟨0, Nat.zero_le _, rfl, by simpa [Hid] using m3', b3⟩
  case round =>
    obtain ⟨k, hk, rfl, hm, hB⟩ := hrel
    by_cases hlt : k < Ls.length
    · obtain ⟨g', cap', e', hg', hcs⟩ := id hr
      cases e'
      obtain ⟨u, hu0, hru⟩ := hcs k Ls[k] (List.getElem?_eq_getElem hlt)
      have hu : wr.cell? ⟨g, k, none⟩ = some u := (hB.cell (p := ⟨g, k, none⟩) hg).trans hu0
      have hokk := HOK.out Ls[k] (List.getElem_mem hlt)
      have hfl := take_flat hlt
      have hfle := take_flat_le (Ls := Ls) (k + 1)
      obtain ⟨L, hL⟩ : ∃ L, Ls[k] = L := ⟨_, rfl⟩
      rw [hL] at hru hokk hfl
      rw [hfl, List.length_append] at hfle
      obtain ⟨pL, cL, rfl⟩ := hru.form
      obtain ⟨P, hP⟩ : ∃ P, (Ls.take k).flatten = P := ⟨_, rfl⟩
      rw [hP] at hm hfl hfle
      have HFL : Hid ((Ls.take (k + 1)).flatten = P ++ L) := hfl
      have HOKK : Hid (∀ r ∈ L, okR r = true) := hokk
      clear hL hcs hfl hokk hP hu0
      go_wp2_with fail
      go_loopw [23] (fun i wr' => ∃ j : Nat, j ≤ L.length ∧ i = .int .i64 j ∧ Hid (EdM wr' w.heap.size (3 + 6 * (P.length + j)) (rulesE (P ++ L.take j))) ∧ Below w.heap.size w wr') (fun i _ => L.length - (intOf i).toNat)
      case atStart => exact ⟨0, Nat.zero_le _, rfl, by simpa [Hid] using hm.out, hB⟩
      case round =>
        obtain ⟨j, hj, rfl, hm2, hB2⟩ := hrel
        rename_i wr2
        by_cases hltj : j < L.length
        · obtain ⟨gL, rfl, hcap, hgl, c0, c1, c2, c3, c4, c5⟩ := (hru.below hB2).at hltj
          have hokj := HOKK.out L[j] (List.getElem_mem hltj)
          have hsn : P ++ L.take (j + 1) = (P ++ L.take j) ++ [L[j]] := by rw [List.take_succ_eq_append_getElem hltj, List.append_assoc]
          obtain ⟨q, ra, rl, rb, rm, rk, hru2⟩ := ru_parts L[j]
          rw [hru2] at c0 c1 c2 c3 c4 c5 hokj hsn
          have HSN : Hid (P ++ L.take (j + 1) = (P ++ L.take j) ++ [(q, (ra, rl), (rb, rm), rk)]) := hsn
          have m2 := hm2.out.below ((Below.refl _ _).more (.cells #[.bool q, .int .i64 ra, .int .i64 rl, .int .i64 rb, .int .i64 rm, .int .i64 rk] 48))
          have C := rule_any w.heap.size _ _ q ra rl rb rm rk _ m2 (by omega) hokj
          have hB3 := hB2.more (.cells #[.bool q, .int .i64 ra, .int .i64 rl, .int .i64 rb, .int .i64 rm, .int .i64 rk] 48)
          clear hsn hru2 m2 hokj
          go_wp2_with (go_at_call 89; refine C.mono ?_; clear C; rintro e W4 ⟨rfl, m4, g4⟩; have b4 := below_map hB3 g4 (Nat.le_refl _))
          go_roundw
          case rel => exact ⟨j + 1, hltj, rfl, by unfold Hid; rw [HSN.out, rulesE_snoc]; exact m4.mono (by omega), b4⟩
          case measure => simp [intOf]; omega
        · obtain rfl : j = L.length := by omega
          rw [List.take_length] at hm2
          go_wp2
          go_roundw
          case rel => exact ⟨k + 1, hlt, rfl, by unfold Hid; rw [HFL.out, List.length_append]; exact hm2.out, hB2⟩
          case measure => simp [intOf]; omega
    · obtain rfl : k = Ls.length := by omega
      rw [List.take_length] at hm
      go_wp2
      go_ret
      exact ⟨rfl, hm.out.mono (by omega), hB⟩
end Go.Proofs.Ytaoahghfmlegbaa
