/- What the walk is told of bytes that came in. -/
import Derived.Test.YtaoahghfmlegbaaArgs
import Derived.Test.YtaoahghfmlegbaaDraw
import Derived.ChangeSlices
namespace Go.Proofs.Ytaoahghfmlegbaa
open Go.ChangeShapes Go.WideShapes Go.ChangeAt Go.RowKit

set_option maxRecDepth 100000 in
theorem open_bytes {H : Type} {enc : TypeId × Value → H} {W : World} {base : Nat} {v : Value} {d : DataW H} {ps : List MemPlace} (hval : Value.okWide Try.prog W .any base 22 v)
    (h : DataW.Trod enc Try.prog W 0 (fun _ => true) true 22 v d ps) : BytA W v := by
  obtain ⟨a, len, cap, rfl⟩ := okWide_slice Try.underlying22 hval
  obtain ⟨fuel, hf⟩ := h
  rcases open_ints Try.underlying22 Try.underlying5 (by kernel_rfl) hf with ⟨hcs, _⟩ | ⟨x, l, c, zs, hcs, hb, hl, hm, hlen, _, hcell, hwf⟩
  · simp [Value.cells] at hcs
    obtain ⟨rfl, rfl, rfl⟩ := hcs
    exact ⟨none, 0, 0, rfl, by omega, by omega, .inl rfl⟩
  · simp [Value.cells] at hcs
    obtain ⟨rfl, rfl, rfl⟩ := hcs
    have hz : zs.length = cap := by simpa using hlen
    have hle : (len : Int) ≤ 9223372036854775807 := by
      have h := hm
      have e : maxLen = 9223372036854775807 := rfl
      rw [e] at h
      omega
    refine ⟨some x, len, cap, rfl, hl, hle, ?_⟩
    by_cases h0 : len = 0
    · exact .inl h0
    · have h1 := hcell 0 (by omega)
      have hbl := World.block_lt_of_cell? _ _ h1
      have hspot := World.cell?_spot h1
      obtain ⟨b, off, spot⟩ := x
      have hspot : spot = none := by simpa [Addr.add] using hspot
      subst hspot
      refine .inr ⟨b, off, rfl, by simpa [Addr.add] using hbl, fun i hi => ?_⟩
      have hc := hcell i (by omega)
      rw [add_here] at hc
      have hw : (Lit.int .u8 (zs.getD i 0)).wf = true := by
        rw [List.getD_eq_getElem?_getD, List.getElem?_eq_getElem (show i < zs.length by omega)]
        exact hwf _ (List.getElem_mem _)
      exact ⟨_, hc, (bounds_u8 hw).1, (bounds_u8 hw).2⟩
end Go.Proofs.Ytaoahghfmlegbaa
