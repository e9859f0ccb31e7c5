/- What the rows' lists of package-level variables give the walks: the table of powers of ten, the variable errors.errorType. -/
import Derived.Test.YtaoahghfmlegbabDoorRows
import Derived.Test.YtaoahghfmlegbabDoorAddrText
import Derived.Test.YtaoahghfmlegbabDoorAs
import Derived.LaidMore
import Derived.Lib.LaidTab
import Derived.LaidHandle
import Derived.LaidLaws
import Derived.Stop.Joined
namespace Go.Proofs.YtaoahghfmlegbabDoor
open Go.RowKit Go.Lib
namespace laid

theorem own : ownKnob Tryd.prog.godebug = none := by kernel_rfl
theorem tPow : (Tryd.prog.globals[1]?).map (·.type) = some 93 := by kernel_rfl
theorem cTab : Tryd.prog.cellsOf 93 = 20 := by kernel_rfl
theorem cEl : Tryd.prog.cellsOf 73 = 1 := by kernel_rfl
theorem dat : (Rows.laid_internal_strconv_uint64pow10 : DataW Unit) = Lib.tabData .u64 Lib.pow10Tab := rfl
abbrev three : List (String × DataW Unit) := [("math/bits.deBruijn32tab", Rows.laid_math_bits_deBruijn32tab), ("math/bits.deBruijn64tab", Rows.laid_math_bits_deBruijn64tab), ("internal/strconv.uint64pow10", Rows.laid_internal_strconv_uint64pow10)]
abbrev one : List (String × DataW Unit) := [("errors.errorType", Rows.laid_errors_errorType)]
abbrev four : List (String × DataW Unit) := [("math/bits.deBruijn32tab", Rows.laid_math_bits_deBruijn32tab), ("math/bits.deBruijn64tab", Rows.laid_math_bits_deBruijn64tab), ("internal/strconv.uint64pow10", Rows.laid_internal_strconv_uint64pow10), ("errors.errorType", Rows.laid_errors_errorType)]

theorem pow_met {W : World} (h : laidMet Tryd.prog three W) : PowTab W := by
  obtain ⟨ps, ⟨g0, t0, cs0, f0, p0, q0, hg0, ht0, hv0, hd0, ⟨g1, t1, cs1, f1, p1, q1, hg1, ht1, hv1, hd1, ⟨g2, t2, cs2, f2, p2, q2, hg2, ht2, hv2, hd2, _, _⟩, _⟩, _⟩, _, _⟩ := h
  obtain rfl := Option.some.inj (gPow.symm.trans hg2)
  obtain rfl := Option.some.inj (tPow.symm.trans ht2)
  unfold PowTab TabIs
  rw [dat] at hd2
  rw [hv2, ← cells_of_tab Tryd.underlying93 Tryd.underlying73 cEl cTab hd2]
theorem pow_of {W : World} (h : laidMetH Tryd.prog three W) : PowTab W := by
  rw [MakeChecks.laidMetH_plain _ _ _ (by kernel_rfl)] at h
  exact pow_met h

theorem et : Tryd.prog.globalNamed "errors.errorType" = some 0 := by kernel_rfl
theorem rt : (Tryd.prog.cutTypes.find? (·.1 == "internal/reflectlite.rtype")).map (·.2) = some 79 := by kernel_rfl
theorem oneRow : ((List.range 129).filter fun t => Tryd.prog.rowNamed t [101, 114, 114, 111, 114]) = [39] := by kernel_rfl
theorem size : Tryd.prog.types.size = 129 := by kernel_rfl
theorem err_met {W : World} {l : List (String × DataW Unit)} (hm : ("errors.errorType", Rows.laid_errors_errorType) ∈ l) (h : handlesMet Tryd.prog l W) : ErrVar W := by
  obtain ⟨name, u, ty, e1, e2, e3, e4, e5⟩ := h _ hm
  have en : name = [101, 114, 114, 111, 114] := (Option.some.inj e1).symm
  subst en
  obtain rfl := Option.some.inj (rt.symm.trans e2)
  have hm : ty ∈ (List.range 129).filter fun t => Tryd.prog.rowNamed t [101, 114, 114, 111, 114] := List.mem_filter.2 ⟨List.mem_range.2 (by rw [← size]; exact e3), e4⟩
  rw [oneRow] at hm
  obtain rfl := List.mem_singleton.1 hm
  have hh : typeHandle Tryd.prog 39 = .pointer (some ⟨4, 39, none⟩) := by kernel_rfl
  rw [hh] at e5
  have hc : W.cell? ⟨0, 0, none⟩ = some (.iface 79 (.agg #[.pointer (some ⟨4, 39, none⟩)])) := by
    simpa using World.var?_cell et e5 0
  refine ⟨hc, ?_⟩
  rcases Nat.lt_or_ge 0 W.heap.size with hlt | hge
  · exact hlt
  · simp [World.cell?, Array.getElem?_eq_none hge] at hc
theorem err_of {W : World} (h : laidMetH Tryd.prog one W) : ErrVar W := by
  have h' : laidMet Tryd.prog [] W ∧ handlesMet Tryd.prog one W := h
  exact err_met (List.mem_singleton.2 rfl) h'.2
theorem both_of {W : World} (h : laidMetH Tryd.prog four W) : PowTab W ∧ ErrVar W := by
  have h' : laidMet Tryd.prog three W ∧ handlesMet Tryd.prog one W := h
  exact ⟨pow_met h'.1, err_met (List.mem_singleton.2 rfl) h'.2⟩
theorem door_three (os : Os) (args : Array Value) : laidMetH Tryd.prog three ((World.doorLaid Tryd.prog 31 os).forCall (fun _ _ => 0) ⟨#[], args, []⟩).memory :=
  laidMetH_of_parts3 (fuel := 8) (laidMet_of_run' 8 (by kernel_rfl) (by kernel_rfl)) (by kernel_rfl) (by kernel_rfl)
theorem door_one (os : Os) (args : Array Value) : laidMetH Tryd.prog one ((World.doorLaid Tryd.prog 31 os).forCall (fun _ _ => 0) ⟨#[], args, []⟩).memory :=
  laidMetH_of_parts (laidMet_nil _ _) (by kernel_rfl)
theorem door_four (os : Os) (args : Array Value) : laidMetH Tryd.prog four ((World.doorLaid Tryd.prog 31 os).forCall (fun _ _ => 0) ⟨#[], args, []⟩).memory :=
  laidMetH_of_parts3 (fuel := 8) (laidMet_of_run' 8 (by kernel_rfl) (by kernel_rfl)) (by kernel_rfl) (by kernel_rfl)
end laid
end Go.Proofs.YtaoahghfmlegbabDoor
