/- What the walk is told of a list of rules, and of a packet, that came in. -/
import Derived.Test.YtaoahghfmlegbacToR
import Derived.Test.YtaoahghfmlegbacArgs
import Derived.Lib.SmallJoins
namespace Go.Proofs.Ytaoahghfmlegbac
open Go.ChangeShapes Go.WideShapes Go.ChangeAt Go.RowKit Go.Joins

set_option maxRecDepth 100000 in
theorem open_rules {H : Type} {enc : TypeId × Value → H} {W : World} {base : Nat} {v : Value} {d : DataW H} {ps : List MemPlace} (hval : Value.okWide Try.prog W .any base 22 v)
    (h : DataW.Trod enc Try.prog W 0 (fun _ => true) true 22 v d ps) :
    ∃ L : List Ru, RdAR W v L ∧ (L.length : Int) ≤ 9223372036854775807 := by
  obtain ⟨a, len, cap, rfl⟩ := okWide_slice Try.underlying22 hval
  obtain ⟨fuel, hf⟩ := h
  rcases Go.Deep.open_slice Try.underlying22 hf with ⟨hcs, _⟩ | ⟨x, l, c, m, n, D, Pl, hcs, hb, hl, hm, hmm, _, hx⟩
  · simp [Value.cells] at hcs
    obtain ⟨rfl, rfl, rfl⟩ := hcs
    exact ⟨[], .inl ⟨rfl, _, _, rfl⟩, by simp⟩
  · simp [Value.cells] at hcs
    obtain ⟨rfl, rfl, rfl⟩ := hcs
    have hlm : len ≤ m := by rw [hmm]; simpa using hl
    have hlen : (len : Int) ≤ 9223372036854775807 := by
      have h := hm
      have e : maxLen = 9223372036854775807 := rfl
      rw [e] at h
      omega
    by_cases h0 : len = 0
    · subst h0
      exact ⟨[], .inl ⟨rfl, _, _, rfl⟩, by simp⟩
    · have ce : Try.prog.cellsOf 42 = 6 := by kernel_rfl
      have cp : Try.prog.cellsOf 40 = 2 := by kernel_rfl
      have c1 : Try.prog.cellsOf 3 = 1 := by kernel_rfl
      have cb : Try.prog.cellsOf 4 = 1 := by kernel_rfl
      have each : ∀ i, i < len → ∃ r : Ru, W.cell? (x.add (i * 6)) = some (.bool r.1) ∧ W.cell? (x.add (i * 6 + 1)) = some (.int .i64 r.2.1.1) ∧ W.cell? (x.add (i * 6 + 2)) = some (.int .i64 r.2.1.2) ∧ W.cell? (x.add (i * 6 + 3)) = some (.int .i64 r.2.2.1.1) ∧ W.cell? (x.add (i * 6 + 4)) = some (.int .i64 r.2.2.1.2) ∧ W.cell? (x.add (i * 6 + 5)) = some (.int .i64 r.2.2.2) := by
        intro i hi
        obtain ⟨cs', g1, g2⟩ := hx i (by omega)
        rw [ce] at g1
        obtain ⟨_, hln, hcell⟩ := World.cells?_some g1
        obtain ⟨y0, y1, y2, y3, k, _, _, t0, t1, t2, t3⟩ := trod_struct4 Try.underlying42 g2
        match cs', hln with
        | [u0, u1, u2, u3, u4, u5], _ =>
          simp [cb, cp, c1] at t0 t1 t2 t3
          obtain ⟨b0, e0, _⟩ := DataW.trod_bool Try.underlying4 t0
          obtain ⟨z0, z1, k1, _, _, s0, s1⟩ := trod_struct2 Try.underlying40 t1
          obtain ⟨z2, z3, k2, _, _, s2, s3⟩ := trod_struct2 Try.underlying40 t2
          simp [c1] at s0 s1 s2 s3
          obtain ⟨i1, e1, _, _⟩ := DataW.trod_int Try.underlying3 s0
          obtain ⟨i2, e2, _, _⟩ := DataW.trod_int Try.underlying3 s1
          obtain ⟨i3, e3, _, _⟩ := DataW.trod_int Try.underlying3 s2
          obtain ⟨i4, e4, _, _⟩ := DataW.trod_int Try.underlying3 s3
          obtain ⟨i5, e5, _, _⟩ := DataW.trod_int Try.underlying3 t3
          simp at e0 e1 e2 e3 e4 e5
          subst e0 e1 e2 e3 e4 e5
          refine ⟨(b0, (i1, i2), (i3, i4), i5), ?_⟩
          have q0 := hcell 0 (by omega)
          have q1 := hcell 1 (by omega)
          have q2 := hcell 2 (by omega)
          have q3 := hcell 3 (by omega)
          have q4 := hcell 4 (by omega)
          have q5 := hcell 5 (by omega)
          rw [Go.Deep.add_add] at q0 q1 q2 q3 q4 q5
          exact ⟨by simpa using q0, by simpa using q1, by simpa using q2, by simpa using q3, by simpa using q4, by simpa using q5⟩
      obtain ⟨q, hq⟩ := Go.Deep.choose_lt each
      have h1 := (hq 0 (by omega)).1
      have hbl := World.block_lt_of_cell? _ _ h1
      have hspot := World.cell?_spot h1
      obtain ⟨b, off, spot⟩ := x
      have hspot : spot = none := by simpa [Addr.add] using hspot
      subst hspot
      refine ⟨(List.range len).map q, .inr ⟨b, off, cap, by simp, by simpa [Addr.add] using hbl, fun i r hr => ?_⟩, by simpa using hlen⟩
      have hi : i < len := by
        have := (List.getElem?_eq_some_iff.1 hr).1
        simpa using this
      have e : r = q i := by
        rw [List.getElem?_map, List.getElem?_range hi] at hr
        simpa using hr.symm
      subst e
      have := hq i hi
      simp only [add_here, ← Nat.add_assoc] at this
      exact this

end Go.Proofs.Ytaoahghfmlegbac
