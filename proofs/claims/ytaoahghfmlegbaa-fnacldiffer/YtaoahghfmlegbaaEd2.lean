/- The program's map of edges: most, put, putRule. -/
import Derived.Test.YtaoahghfmlegbaaEd1
namespace Go.Proofs.Ytaoahghfmlegbaa
open Go.RowKit Go.Lib Go.Maps

/-- a map that holds just the edges of a list -/
def EdM (w : World) (b n : Nat) (E : List (Int × Int)) : Prop :=
  ∃ D, w.ownsMap Try.prog 138 (unitElem (H := Unit)) b n D ∧ ∀ p a, (Lit.int .i64 p).wf = true → (Lit.int .i64 a).wf = true → (Maps.has D (edL p a) = true ↔ (p, a) ∈ E)
theorem EdM.below {w w' : World} {b n : Nat} {E : List (Int × Int)} (h : EdM w b n E) (hb : Below w.heap.size w w') : EdM w' b n E := by
  obtain ⟨D, h1, h2⟩ := h
  exact ⟨D, h1.kept (grown_below hb none) (by simp), h2⟩
theorem EdM.mono {w : World} {b n m : Nat} {E : List (Int × Int)} (h : EdM w b n E) (hm : n ≤ m) : EdM w b m E := by
  obtain ⟨D, h1, h2⟩ := h
  exact ⟨D, h1.mono hm, h2⟩
theorem EdM.lt {w : World} {b n : Nat} {E : List (Int × Int)} (h : EdM w b n E) : b < w.heap.size := by
  obtain ⟨D, ⟨es, clock, hh, _⟩, _⟩ := h
  exact (Array.getElem?_eq_some_iff.1 hh).1
def mostP (p : Int) : Int := if p = 2 then 7 else 65535
/-- an edge put -/
def addE (E : List (Int × Int)) (p a : Int) : List (Int × Int) := if a ≤ mostP p then (p, a) :: E else E
def i64ok (a : Int) : Prop := (Lit.int .i64 a).wf = true
theorem i64_of {a : Int} (h1 : -9223372036854775808 ≤ a) (h2 : a ≤ 9223372036854775807) : i64ok a := WalkArith.wf_i64 (by omega)

set_option maxRecDepth 100000 in
theorem most_any (p : Int) (w : World) : Calls Try.prog 99 #[.int .i64 p] w fun e w' => e = .returned (.int .i64 (mostP p)) ∧ w' = w := by
  by_cases h : p = 2
  · subst h
    go_enter Try.func99, Try.ntmps99
    go_wp2
    go_ret
    exact ⟨rfl, rfl⟩
  · have hd : (p == 2) = false := by rw [beq_dec]; exact decide_eq_false h
    have HE : Hid (mostP p = 65535) := if_neg h
    go_enter Try.func99, Try.ntmps99
    go_wp2
    go_ret
    exact ⟨ret_int HE.out.symm, rfl⟩

theorem EdM.put {w' : World} {b n : Nat} {E : List (Int × Int)} {D : DataW Unit} {p a : Int} (hp : i64ok p) (ha : i64ok a) (hD : IsMap D) (h2 : ∀ p a, (Lit.int .i64 p).wf = true → (Lit.int .i64 a).wf = true → (Maps.has D (edL p a) = true ↔ (p, a) ∈ E))
    (h : w'.ownsMap Try.prog 138 (unitElem (H := Unit)) b n (D.put (edL p a) (.agg []))) : EdM w' b n ((p, a) :: E) := by
  refine ⟨_, h, fun q c hq hc => ?_⟩
  by_cases e : (q, c) = (p, a)
  · cases e
    rw [has_put_same hD (lawK.key (key_ed hp ha))]
    simp
  · rw [has_put_other (fun h => e (by obtain ⟨h1, h2⟩ := edL_inj hq hc hp ha h; rw [h1, h2])), h2 q c hq hc]
    simp [e]

set_option maxRecDepth 100000 in
set_option maxHeartbeats 1000000 in
theorem putE_any (b n : Nat) (E : List (Int × Int)) (p a : Int) (w : World) (hm : EdM w b n E) (hn : n ≤ 1000) (hp : i64ok p) (ha : i64ok a) :
    Calls Try.prog 88 #[.map (some b), .int .i64 p, .int .i64 a] w fun e w' => e = .returned (.tuple #[]) ∧ EdM w' b (n + 1) (addE E p a) ∧ w.grownBy w' (some b) := by
  obtain ⟨D, hown, hhas⟩ := hm
  have HH : Hid (∀ p a, (Lit.int .i64 p).wf = true → (Lit.int .i64 a).wf = true → (Maps.has D (edL p a) = true ↔ (p, a) ∈ E)) := hhas
  have hkey := key_ed hp ha
  have hnm : n < maxLen := by unfold maxLen; omega
  clear hhas
  by_cases hle : a ≤ mostP p
  · have HE : Hid (addE E p a = (p, a) :: E) := if_pos hle
    go_enter Try.func88, Try.ntmps88
    go_wp2_with (first | (go_at_call 99; refine (most_any _ _).mono ?_; rintro e w1 ⟨rfl, hw⟩; obtain rfl := hw.symm) | (at_mapUpdate; refine wpList_mapUpdate_own _ rfl _ _ _ 103 rfl 138 83 lawK Try.underlying103 _ b n D rfl hown hnm _ _ _ rfl rfl hkey (.agg []) [] unitElem_mk ?_; intro w1 hown1 hgrow1))
    go_end0
    exact ⟨rfl, by rw [HE.out]; exact EdM.put hp ha hown.isMap HH.out hown1, hgrow1⟩
  · have HE : Hid (addE E p a = E) := if_neg hle
    have hd : decide (a ≤ mostP p) = false := decide_eq_false hle
    go_enter Try.func88, Try.ntmps88
    go_wp2_with (first | (go_at_call 99; refine (most_any _ _).mono ?_; rintro e w1 ⟨rfl, hw⟩; obtain rfl := hw.symm))
    go_end0
    exact ⟨rfl, by rw [HE.out]; exact ⟨D, hown.mono (Nat.le_succ _), HH.out⟩, grown_refl _ _⟩
end Go.Proofs.Ytaoahghfmlegbaa
