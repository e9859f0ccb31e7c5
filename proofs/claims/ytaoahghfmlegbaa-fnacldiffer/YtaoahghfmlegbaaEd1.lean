/- The program's map of edges: its keys, a set of pairs of numbers; put. -/
import Derived.Test.YtaoahghfmlegbaaMt4
import Derived.Test.YtaoahghfmlegbaaSp1
import Derived.Maps.Own
import Derived.Maps.OwnSet
import Derived.Maps.RangeWalk
import Derived.DeepKeys4
namespace Go.Proofs.Ytaoahghfmlegbaa
open Go.RowKit Go.Lib Go.Maps

/-- an edge as a value, and as a key -/
abbrev edV (p a : Int) : Value := .agg #[.int .i64 p, .int .i64 a]
def edL (p a : Int) : Lit := .string (keyBytes [.int .i64 p, .int .i64 a])
theorem ed_laid : laidOutB Try.prog = true := by kernel_rfl
theorem ed_row : (138 : TypeId) < Try.prog.types.size := of_decide_eq_true (by kernel_rfl)
theorem ed_cells : Try.prog.cellsOf 138 = 2 := by kernel_rfl
theorem ed_one : Try.prog.cellsOf 129 = 1 := by kernel_rfl
theorem ed_int : Try.prog.cellsOf 3 = 1 := by kernel_rfl
theorem ed_key : Try.prog.keyType 138 = true := by kernel_rfl
theorem ed_wide : (match Try.prog.underlying 138 with | some (.array _ _) | some (.struct _) => true | _ => false) = true := by rw [Try.underlying138]
theorem ed_at : Try.prog.keyTypeAt 2 138 = true := by kernel_rfl
set_option maxRecDepth 100000 in
theorem lawK : Keyed Try.prog 138 := Keyed.of_law (deep_law_laid ed_laid (m := 2) (by omega) ed_row ed_at ed_wide)
theorem ed_fuel : ∃ n, Try.prog.types.size = n + 1 := ⟨199 - 1, by kernel_rfl⟩
section
variable {P : Program} {k : TypeId} {f0 f1 : Field}
theorem key_pair (hu : P.underlying k = some (.struct #[f0, f1])) (hk : P.keyType k = true) (hc : P.cellsOf k = 2) (n0 : (f0.name != "_") = true) (n1 : (f1.name != "_") = true) (o0 : f0.offset = 0) (o1 : f1.offset = 1)
    (c0 : P.cellsOf f0.type = 1) (c1 : P.cellsOf f1.type = 1) (u0 : P.underlying f0.type = some (.int .i64)) (u1 : P.underlying f1.type = some (.int .i64)) (hn : ∃ n, P.types.size = n + 1)
    {p a : Int} (hp : (Lit.int .i64 p).wf = true) (ha : (Lit.int .i64 a).wf = true) : keyOf P k (edV p a) = some (edL p a) := by
  obtain ⟨n, hn⟩ := hn
  unfold keyOf edL
  rw [hu]
  simp [hk, Value.formed, hu, hc, hn, Program.keyLits, c0, c1, u0, u1, o0, o1, Value.cells, hp, ha]
  simp at n0 n1
  simp [n0, n1]
theorem inv_pair (hu : P.underlying k = some (.struct #[f0, f1])) (hk : P.keyType k = true) (hc : P.cellsOf k = 2) (n0 : (f0.name != "_") = true) (n1 : (f1.name != "_") = true) (o0 : f0.offset = 0) (o1 : f1.offset = 1)
    (c0 : P.cellsOf f0.type = 1) (c1 : P.cellsOf f1.type = 1) (u0 : P.underlying f0.type = some (.int .i64)) (u1 : P.underlying f1.type = some (.int .i64)) (hn : ∃ n, P.types.size = n + 1)
    {key : Value} {kl : Lit} (h : keyOf P k key = some kl) : ∃ x : Int × Int, key = edV x.1 x.2 ∧ (Lit.int .i64 x.1).wf = true ∧ (Lit.int .i64 x.2).wf = true ∧ kl = edL x.1 x.2 := by
  have h0 := h
  have hn0 := hn
  obtain ⟨n, hn⟩ := hn
  unfold keyOf at h
  rw [hu] at h
  cases key with
  | agg cs =>
    simp [hk, Value.formed, hu, hc] at h
    obtain ⟨hs, ls, h1, h2⟩ := h
    obtain ⟨l⟩ := cs
    match l, hs with
    | [v0, v1], _ =>
      simp [hn, Program.keyLits, hu, hc, c0, c1, u0, u1, o0, o1, Value.cells] at h1
      obtain ⟨_, h1⟩ := h1
      obtain ⟨q0, m0, rfl⟩ : ∃ q m, v0 = .int q m := by
        cases v0 <;> simp at h1
        exact ⟨_, _, rfl⟩
      by_cases hq : q0 = .i64 ∧ (Lit.int .i64 m0).wf = true
      · obtain ⟨rfl, w0⟩ := hq
        simp [w0] at h1
        obtain ⟨q1, m1, rfl⟩ : ∃ q m, v1 = .int q m := by
          cases v1 <;> simp at h1
          exact ⟨_, _, rfl⟩
        by_cases hq1 : q1 = .i64 ∧ (Lit.int .i64 m1).wf = true
        · obtain ⟨rfl, w1⟩ := hq1
          refine ⟨(m0, m1), rfl, w0, w1, ?_⟩
          have := key_pair hu hk hc n0 n1 o0 o1 c0 c1 u0 u1 hn0 w0 w1
          rw [h0] at this
          exact Option.some.inj this
        · exfalso
          simp [hq1] at h1
      · simp [hq] at h1
  | _ => simp [Value.formed, hu] at h
end
theorem key_ed {p a : Int} (hp : (Lit.int .i64 p).wf = true) (ha : (Lit.int .i64 a).wf = true) : keyOf Try.prog 138 (edV p a) = some (edL p a) :=
  key_pair Try.underlying138 ed_key ed_cells rfl rfl rfl rfl ed_one ed_int Try.underlying129 Try.underlying3 ed_fuel hp ha
theorem inv_ed {key : Value} {kl : Lit} (h : keyOf Try.prog 138 key = some kl) : ∃ x : Int × Int, key = edV x.1 x.2 ∧ (Lit.int .i64 x.1).wf = true ∧ (Lit.int .i64 x.2).wf = true ∧ kl = edL x.1 x.2 :=
  inv_pair Try.underlying138 ed_key ed_cells rfl rfl rfl rfl ed_one ed_int Try.underlying129 Try.underlying3 ed_fuel h
theorem edL_inj {p a q b : Int} (hp : (Lit.int .i64 p).wf = true) (ha : (Lit.int .i64 a).wf = true) (hq : (Lit.int .i64 q).wf = true) (hb : (Lit.int .i64 b).wf = true) (h : edL p a = edL q b) : p = q ∧ a = b := by
  have h1 := key_ed hp ha
  rw [h] at h1
  have := lawK.inj h1 (key_ed hq hb)
  injection this with this
  injection this with this
  simpa using this
end Go.Proofs.Ytaoahghfmlegbaa
