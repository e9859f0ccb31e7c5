/- What the walk is told of a list of prefixes that came in. -/
import Derived.Test.YtaoahghfmlegbabToS
import Derived.Deep.SlicePairs
import Derived.OpenShut
import Derived.Carry
import Derived.ProofKit
namespace Go.Proofs.Ytaoahghfmlegbab
open Go.ChangeShapes Go.WideShapes Go.ChangeAt Go.RowKit

theorem add_here (b off k : Nat) : (⟨b, off, none⟩ : Addr).add k = ⟨b, off + k, none⟩ := by
  unfold Addr.add
  by_cases h : k = 0
  · subst h; simp
  · simp [h]
set_option maxRecDepth 100000 in
theorem open_list {H : Type} {enc : TypeId × Value → H} {W : World} {base : Nat} {v : Value} {d : DataW H} {ps : List MemPlace} (hval : Value.okWide Try.prog W .any base 30 v)
    (h : DataW.Trod enc Try.prog W 0 (fun _ => true) true 30 v d ps) :
    ∃ L : List (Int × Int), RdA W v L ∧ (L.length : Int) ≤ 9223372036854775807 := by
  obtain ⟨a, len, cap, rfl⟩ := okWide_slice Try.underlying30 hval
  obtain ⟨fuel, hf⟩ := h
  rcases Go.Deep.open_slice_pairs Try.underlying30 Try.underlying23 (by kernel_rfl) rfl rfl (by kernel_rfl) (by kernel_rfl) hf with ⟨hcs, _⟩ | ⟨x, l, c, m, n, V0, V1, D0, D1, P0, P1, hcs, hb, hl, hm, hmm, _, hx⟩
  · simp [Value.cells] at hcs
    obtain ⟨rfl, rfl, rfl⟩ := hcs
    exact ⟨[], .inl ⟨rfl, _, _, rfl⟩, by simp⟩
  · simp [Value.cells] at hcs
    obtain ⟨rfl, rfl, rfl⟩ := hcs
    have hlm : len ≤ m := by rw [hmm]; simpa using hl
    have hlen : (len : Int) ≤ 9223372036854775807 := by
      have h := hm
      have e : maxLen = 9223372036854775807 := rfl
      rw [e] at h
      omega
    by_cases h0 : len = 0
    · subst h0
      exact ⟨[], .inl ⟨rfl, _, _, rfl⟩, by simp⟩
    · have each : ∀ i, i < len → ∃ q : Int × Int, W.cell? (x.add (i * 2)) = some (.int .i64 q.1) ∧ W.cell? (x.add (i * 2 + 1)) = some (.int .i64 q.2) := by
        intro i hi
        obtain ⟨c0, c1, t0, t1⟩ := hx i (by omega)
        obtain ⟨y0, e0, _, _⟩ := DataW.trod_int Try.underlying3 t0
        obtain ⟨y1, e1, _, _⟩ := DataW.trod_int Try.underlying3 t1
        simp at e0 e1
        exact ⟨(y0, y1), by rw [c0, e0], by rw [c1, e1]⟩
      obtain ⟨q, hq⟩ := Go.Deep.choose_lt each
      have h1 := (hq 0 (by omega)).1
      have hbl := World.block_lt_of_cell? _ _ h1
      have hspot := World.cell?_spot h1
      obtain ⟨b, off, spot⟩ := x
      have hspot : spot = none := by simpa [Addr.add] using hspot
      subst hspot
      refine ⟨(List.range len).map q, .inr ⟨b, off, cap, by simp, by simpa [Addr.add] using hbl, fun i r hr => ?_⟩, by simpa using hlen⟩
      have hi : i < len := by
        have := (List.getElem?_eq_some_iff.1 hr).1
        simpa using this
      have e : r = q i := by
        rw [List.getElem?_map, List.getElem?_range hi] at hr
        simpa using hr.symm
      subst e
      have := hq i hi
      rw [add_here, add_here] at this
      exact this
end Go.Proofs.Ytaoahghfmlegbab
