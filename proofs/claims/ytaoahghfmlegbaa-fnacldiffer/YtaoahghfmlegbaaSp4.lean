/- The model's l4So; edges cover. -/
import Derived.Test.YtaoahghfmlegbaaSp3
namespace Go.Proofs.Ytaoahghfmlegbaa
open Go.RowKit Go.Lib

/-- what l4So asks of a packet -/
def soB (A B : List Ru) (at' : Int) (p : Pk) : Bool := if 0 ≤ at' then decide (saysN A p = at') else (saysB A p != saysB B p)
theorem so_same {A B : List Ru} {at' : Int} {p q : Pk} (h : ∀ r ∈ A ++ B, fits r p = fits r q) : soB A B at' p = true ↔ soB A B at' q = true := by
  have h1 := dec_same A (p := p) (q := q) fun r hr => h r (by simp [hr])
  have h2 := saysB_same (L := A) (p := p) (q := q) fun r hr => h r (by simp [hr])
  have h3 := saysB_same (L := B) (p := p) (q := q) fun r hr => h r (by simp [hr])
  unfold soB saysN
  rw [h1, h2, h3]
theorem edF_ok {L : List Ru} (h : ∀ r ∈ L, okR r = true) {E : List Int} (hE : FirstsOf (L.map fun r => r.2.1) E) : Cov E 0 65535 (edF L) := by
  refine cov_of ((hE.2.1 0).2 (.inl rfl)) (fun e he => ?_) (fun b hb h0 h1 => ?_)
  · rcases (hE.2.1 e).1 he with rfl | ⟨q, hq, hx⟩
    · omega
    · obtain ⟨r, hr, rfl⟩ := List.mem_map.1 hq
      have := okP_of (okR_of (h r hr)).1
      have hz := sz_bd r.2.1.2 this.1
      rcases hx with ⟨rfl, _⟩ | ⟨rfl, _⟩ <;> omega
  · obtain ⟨r, hr, hb⟩ := List.mem_flatMap.1 hb
    refine (hE.2.1 b).2 (.inr ⟨r.2.1, List.mem_map.2 ⟨r, hr, rfl⟩, ?_⟩)
    simp at hb
    rcases hb with rfl | rfl
    · exact .inl ⟨rfl, h1⟩
    · exact .inr ⟨rfl, h1⟩
theorem edT_ok {L : List Ru} (h : ∀ r ∈ L, okR r = true) {E : List Int} (hE : FirstsOf (L.map fun r => r.2.2.1) E) : Cov E 0 65535 (edT L) := by
  refine cov_of ((hE.2.1 0).2 (.inl rfl)) (fun e he => ?_) (fun b hb h0 h1 => ?_)
  · rcases (hE.2.1 e).1 he with rfl | ⟨q, hq, hx⟩
    · omega
    · obtain ⟨r, hr, rfl⟩ := List.mem_map.1 hq
      have := okP_of (okR_of (h r hr)).2.1
      have hz := sz_bd r.2.2.1.2 this.1
      rcases hx with ⟨rfl, _⟩ | ⟨rfl, _⟩ <;> omega
  · obtain ⟨r, hr, hb⟩ := List.mem_flatMap.1 hb
    refine (hE.2.1 b).2 (.inr ⟨r.2.2.1, List.mem_map.2 ⟨r, hr, rfl⟩, ?_⟩)
    simp at hb
    rcases hb with rfl | rfl
    · exact .inl ⟨rfl, h1⟩
    · exact .inr ⟨rfl, h1⟩
/-- all kinds -/
def kinds : List Int := (List.range 7).map fun c : Nat => (c : Int) + 1
theorem kinds_len : kinds.length = 7 := by simp [kinds]
theorem kinds_at {c : Nat} (h : c < kinds.length) : kinds[c] = (c : Int) + 1 := by simp [kinds]
theorem kinds_mem (e : Int) : e ∈ kinds ↔ 1 ≤ e ∧ e ≤ 7 := by
  unfold kinds
  simp only [List.mem_map, List.mem_range]
  constructor
  · rintro ⟨c, hc, rfl⟩; omega
  · rintro ⟨h1, h2⟩; exact ⟨(e - 1).toNat, by omega, by omega⟩
theorem kinds_asc : kinds.Pairwise (· < ·) := by decide
theorem kinds_cov (B : List Int) : Cov kinds 1 7 B := cov_all kinds_mem

set_option maxRecDepth 100000 in
set_option maxHeartbeats 2000000 in
theorem so_any (A B : List Ru) (at' f t n : Int) (u v : Value) (w : World) (hA : RdR w u A) (hB : RdR w v B) (oA : ∀ r ∈ A, okR r = true) (oB : ∀ r ∈ B, okR r = true) (lA : A.length ≤ 1000) (lB : B.length ≤ 1000) :
    Calls Try.prog 87 #[u, v, .int .i64 at', pkV (f, t, n)] w fun e w' => e = .returned (.bool (soB A B at' (f, t, n))) ∧ Below w.heap.size w w' := by
  have CA := fun W h => says_any A f t n u W h oA (by omega)
  have CB := fun W h => says_any B f t n v W h oB (by omega)
  clear oA oB
  obtain ⟨pa, ca, rfl⟩ := hA.form
  obtain ⟨pb, cb, rfl⟩ := hB.form
  have HO : Hid (soB A B at' (f, t, n) = if 0 ≤ at' then decide (saysN A (f, t, n) = at') else (saysB A (f, t, n) != saysB B (f, t, n))) := rfl
  generalize saysN A (f, t, n) = nA at *
  generalize saysN B (f, t, n) = nB at *
  generalize saysB A (f, t, n) = bA at *
  generalize saysB B (f, t, n) = bB at *
  have HB0 : Below w.heap.size w w := Below.refl _ _
  by_cases h0 : 0 ≤ at'
  · have HE : Hid (soB A B at' (f, t, n) = (nA == at')) := by rw [beq_dec]; exact HO.out.trans (if_pos h0)
    have hd : decide (at' ≥ 0) = true := decide_eq_true h0
    go_enter Try.func87, Try.ntmps87
    go_wp2_with (go_at_call 60; refine (CA _ (hA.below (HB0.more _))).mono ?_; clear CA; rintro e w1 ⟨rfl, hb⟩; obtain ⟨hc, hf⟩ := bcell hb; have hs := new_lt hb; replace HB0 := below_then (HB0.more _) hb)
    go_wp2_with (go_at_call 60; refine (CB _ (hB.below HB0)).mono ?_; clear CB; rintro e w2 ⟨rfl, hb2⟩; replace HB0 := below_then HB0 hb2)
    go_ret
    exact ⟨ret_bool HE.out.symm, HB0⟩
  · have HE : Hid (soB A B at' (f, t, n) = (bA != bB)) := HO.out.trans (if_neg h0)
    have hd : decide (at' ≥ 0) = false := decide_eq_false h0
    go_enter Try.func87, Try.ntmps87
    go_wp2_with (go_at_call 60; refine (CA _ (hA.below (HB0.more _))).mono ?_; clear CA; rintro e w1 ⟨rfl, hb⟩; obtain ⟨hc, hf⟩ := bcell hb; have hs := new_lt hb; replace HB0 := below_then (HB0.more _) hb)
    go_wp2_with (go_at_call 60; refine (CB _ (hB.below HB0)).mono ?_; clear CB; rintro e w2 ⟨rfl, hb2⟩; replace HB0 := below_then HB0 hb2)
    go_ret
    exact ⟨ret_bool HE.out.symm, HB0⟩
end Go.Proofs.Ytaoahghfmlegbaa
