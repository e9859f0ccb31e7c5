/- Access lists, plain mathematics: which rule decides, the least packet of which something holds, edges. No program is named. -/
import Derived.Test.YtaoahghfmlegbaaL1b
namespace Go.Proofs.Ytaoahghfmlegbaa
open Go.RowKit Go.Lib

/-- a rule: Permit, From, To, Kind -/
abbrev Ru := Bool × (Int × Int) × (Int × Int) × Int
/-- a packet: From, To, Kind -/
abbrev Pk := Int × Int × Int
def okR (r : Ru) : Bool := okP r.2.1.1 r.2.1.2 && (okP r.2.2.1.1 r.2.2.1.2 && inB r.2.2.2 0 7)
def okRs (L : List Ru) : Bool := decide (L.length ≤ 12) && L.all okR
def okK (p : Pk) : Bool := inB p.1 0 65535 && (inB p.2.1 0 65535 && inB p.2.2 1 7)
/-- a rule is about a packet -/
def fits (r : Ru) (p : Pk) : Bool := hasP r.2.1.1 r.2.1.2 p.1 && (hasP r.2.2.1.1 r.2.2.1.2 p.2.1 && (decide (r.2.2.2 = 0) || decide (r.2.2.2 = p.2.2)))
/-- the place of the first rule that is about a packet; the length, if there is none -/
def dec (L : List Ru) (p : Pk) : Nat := L.findIdx (fits · p)
def saysN (L : List Ru) (p : Pk) : Int := if dec L p < L.length then (dec L p : Int) else -1
def saysB (L : List Ru) (p : Pk) : Bool := match L[dec L p]? with
  | some r => r.1
  | none => false
/-- what AclSays tells -/
def aclN (L : List Ru) (p : Pk) : Int := if okRs L = true ∧ okK p = true then saysN L p else -1
def aclB (L : List Ru) (p : Pk) : Bool := if okRs L = true ∧ okK p = true then saysB L p else false

theorem okRs_of {L : List Ru} (h : okRs L = true) : L.length ≤ 12 ∧ ∀ r ∈ L, okR r = true := by
  unfold okRs at h
  simp only [Bool.and_eq_true, decide_eq_true_eq, List.all_eq_true] at h
  exact h
theorem okR_of {r : Ru} (h : okR r = true) : okP r.2.1.1 r.2.1.2 = true ∧ okP r.2.2.1.1 r.2.2.1.2 = true ∧ 0 ≤ r.2.2.2 ∧ r.2.2.2 ≤ 7 := by
  unfold okR inB at h
  simpa using h
theorem okK_iff {p : Pk} : okK p = true ↔ (0 ≤ p.1 ∧ p.1 ≤ 65535) ∧ (0 ≤ p.2.1 ∧ p.2.1 ≤ 65535) ∧ 1 ≤ p.2.2 ∧ p.2.2 ≤ 7 := by
  unfold okK inB; simp
theorem dec_le (L : List Ru) (p : Pk) : dec L p ≤ L.length := List.findIdx_le_length
theorem dec_fits {L : List Ru} {p : Pk} (h : dec L p < L.length) : fits L[dec L p] p = true := List.findIdx_getElem (w := h)
theorem dec_before {L : List Ru} {p : Pk} {j : Nat} (h : j < dec L p) (hj : j < L.length) : fits L[j] p = false := by
  have := List.not_of_lt_findIdx (xs := L) (p := (fits · p)) h
  simpa using this
theorem dec_eq {L : List Ru} {p : Pk} {i : Nat} (hi : i < L.length) (h : fits L[i] p = true) (hb : ∀ j (hj : j < L.length), j < i → fits L[j] p = false) : dec L p = i := by
  refine (List.findIdx_eq hi).2 ⟨h, fun j hj => ?_⟩
  exact hb j (by omega) hj
theorem dec_none {L : List Ru} {p : Pk} (hb : ∀ j (hj : j < L.length), fits L[j] p = false) : dec L p = L.length := by
  refine List.findIdx_eq_length.2 fun r hr => ?_
  obtain ⟨j, hj, rfl⟩ := List.getElem_of_mem hr
  exact hb j hj
theorem says_at {L : List Ru} {p : Pk} {i : Nat} (hi : i < L.length) (h : dec L p = i) : saysN L p = i ∧ saysB L p = L[i].1 := by
  subst h
  unfold saysN saysB
  simp [hi]
theorem says_none {L : List Ru} {p : Pk} (h : dec L p = L.length) : saysN L p = -1 ∧ saysB L p = false := by
  unfold saysN saysB
  simp [h]
theorem saysN_iff {L : List Ru} {p : Pk} {i : Nat} (hi : i < L.length) : saysN L p = (i : Int) ↔ dec L p = i := by
  constructor
  · intro h
    rcases Nat.lt_or_ge (dec L p) L.length with hl | hl
    · rw [(says_at hl rfl).1] at h
      omega
    · rw [(says_none (Nat.le_antisymm (dec_le L p) hl)).1] at h
      omega
  · intro h
    exact (says_at hi h).1

/-- one packet is at most another one: by From, then To, then Kind -/
def leK (p q : Pk) : Prop := p.1 < q.1 ∨ (p.1 = q.1 ∧ (p.2.1 < q.2.1 ∨ (p.2.1 = q.2.1 ∧ p.2.2 ≤ q.2.2)))
theorem leK_anti {p q : Pk} (h : leK p q) (k : leK q p) : p = q := by
  obtain ⟨a, b, c⟩ := p
  obtain ⟨a', b', c'⟩ := q
  unfold leK at h k
  simp only [Prod.mk.injEq] at *
  omega
theorem leK_trans {p q r : Pk} (h : leK p q) (k : leK q r) : leK p r := by
  unfold leK at *
  omega
theorem leK_of {p q : Pk} (h1 : p.1 ≤ q.1) (h2 : p.2.1 ≤ q.2.1) (h3 : p.2.2 ≤ q.2.2) : leK p q := by
  unfold leK
  omega
/-- the least packet of which something holds, or none -/
def IsLeast (P : Pk → Prop) (r : Option Pk) : Prop :=
  (r = none ∧ ∀ q, okK q = true → ¬ P q) ∨ ∃ p, r = some p ∧ okK p = true ∧ P p ∧ ∀ q, okK q = true → P q → leK p q
theorem IsLeast.uniq {P : Pk → Prop} {r s : Option Pk} (h : IsLeast P r) (k : IsLeast P s) : r = s := by
  rcases h with ⟨rfl, h⟩ | ⟨p, rfl, h1, h2, h3⟩ <;> rcases k with ⟨rfl, k⟩ | ⟨q, rfl, k1, k2, k3⟩
  · rfl
  · exact absurd k2 (h q k1)
  · exact absurd h2 (k p h1)
  · rw [leK_anti (h3 q k1 k2) (k3 p h1 h2)]
theorem IsLeast.congr {P Q : Pk → Prop} {r : Option Pk} (h : IsLeast P r) (e : ∀ p, okK p = true → (P p ↔ Q p)) : IsLeast Q r := by
  rcases h with ⟨rfl, h⟩ | ⟨p, rfl, h1, h2, h3⟩
  · exact .inl ⟨rfl, fun q hq hQ => h q hq ((e q hq).2 hQ)⟩
  · exact .inr ⟨p, rfl, h1, (e p h1).1 h2, fun q hq hQ => h3 q hq ((e q hq).2 hQ)⟩
/-- the least one of a grid -/
def Found (F T K : List Int) (P : Pk → Prop) (r : Option Pk) : Prop :=
  (r = none ∧ ∀ f ∈ F, ∀ t ∈ T, ∀ k ∈ K, ¬ P (f, t, k)) ∨ ∃ f t k, r = some (f, t, k) ∧ f ∈ F ∧ t ∈ T ∧ k ∈ K ∧ P (f, t, k) ∧ ∀ f' ∈ F, ∀ t' ∈ T, ∀ k' ∈ K, P (f', t', k') → leK (f, t, k) (f', t', k')
/-- numbers of which one stands at, or below, each; none of some edges lies between -/
def Cov (E : List Int) (lo hi : Int) (B : List Int) : Prop :=
  (∀ e ∈ E, lo ≤ e ∧ e ≤ hi) ∧ ∀ x, lo ≤ x → x ≤ hi → ∃ e ∈ E, e ≤ x ∧ ∀ b ∈ B, b ≤ x → b ≤ e
theorem max_below : ∀ (E : List Int) (x e0 : Int), e0 ∈ E → e0 ≤ x → ∃ e ∈ E, e ≤ x ∧ ∀ b ∈ E, b ≤ x → b ≤ e
  | [], _, _, h, _ => by simp at h
  | a :: E, x, e0, h, hx => by
    by_cases hE : ∃ e1 ∈ E, e1 ≤ x
    · obtain ⟨e1, h1, h2⟩ := hE
      obtain ⟨e, he, hex, hm⟩ := max_below E x e1 h1 h2
      by_cases ha : a ≤ x ∧ e < a
      · refine ⟨a, by simp, ha.1, fun b hb hbx => ?_⟩
        rcases List.mem_cons.1 hb with rfl | hb
        · omega
        · have := hm b hb hbx; omega
      · refine ⟨e, by simp [he], hex, fun b hb hbx => ?_⟩
        rcases List.mem_cons.1 hb with rfl | hb
        · omega
        · exact hm b hb hbx
    · have hE' : ∀ e1 ∈ E, ¬ e1 ≤ x := fun e1 h1 h2 => hE ⟨e1, h1, h2⟩
      rcases List.mem_cons.1 h with rfl | h
      · refine ⟨e0, by simp, hx, fun b hb hbx => ?_⟩
        rcases List.mem_cons.1 hb with rfl | hb
        · omega
        · exact absurd hbx (hE' b hb)
      · exact absurd hx (hE' e0 h)
theorem cov_of {E : List Int} {lo hi : Int} {B : List Int} (h0 : lo ∈ E) (h1 : ∀ e ∈ E, lo ≤ e ∧ e ≤ hi) (h2 : ∀ b ∈ B, lo ≤ b → b ≤ hi → b ∈ E) : Cov E lo hi B := by
  refine ⟨h1, fun x hx hx2 => ?_⟩
  obtain ⟨e, he, hex, hm⟩ := max_below E x lo h0 hx
  have hl := hm lo h0 hx
  refine ⟨e, he, hex, fun b hb hbx => ?_⟩
  by_cases hlb : lo ≤ b
  · exact hm b (h2 b hb hlb (by omega)) hbx
  · omega
theorem cov_all {E : List Int} {lo hi : Int} {B : List Int} (h1 : ∀ e, e ∈ E ↔ lo ≤ e ∧ e ≤ hi) : Cov E lo hi B :=
  ⟨fun e he => (h1 e).1 he, fun x hx hx2 => ⟨x, (h1 x).2 ⟨hx, hx2⟩, Int.le_refl _, fun _ _ h => h⟩⟩
/-- the edges of rules: the first number that a rule is about, and the first behind -/
def edF (L : List Ru) : List Int := L.flatMap fun r => [r.2.1.1, r.2.1.1 + sz r.2.1.2]
def edT (L : List Ru) : List Int := L.flatMap fun r => [r.2.2.1.1, r.2.2.1.1 + sz r.2.2.1.2]
def edK (L : List Ru) : List Int := L.flatMap fun r => if r.2.2.2 = 0 then [] else [r.2.2.2, r.2.2.2 + 1]
theorem has_same {a l x e : Int} (hle : e ≤ x) (h1 : a ≤ x → a ≤ e) (h2 : a + sz l ≤ x → a + sz l ≤ e) : hasP a l e = hasP a l x := by
  unfold hasP
  by_cases c : a ≤ x ∧ x < a + sz l
  · rw [decide_eq_true c, decide_eq_true (by have := h1 c.1; omega)]
  · rw [decide_eq_false c, decide_eq_false]
    intro ⟨c1, c2⟩
    by_cases c3 : a + sz l ≤ x
    · have := h2 c3; omega
    · omega
theorem fits_same {r : Ru} {f t k f' t' k' : Int} (hf : f' ≤ f) (ht : t' ≤ t) (hk : k' ≤ k)
    (f1 : r.2.1.1 ≤ f → r.2.1.1 ≤ f') (f2 : r.2.1.1 + sz r.2.1.2 ≤ f → r.2.1.1 + sz r.2.1.2 ≤ f')
    (t1 : r.2.2.1.1 ≤ t → r.2.2.1.1 ≤ t') (t2 : r.2.2.1.1 + sz r.2.2.1.2 ≤ t → r.2.2.1.1 + sz r.2.2.1.2 ≤ t')
    (k1 : r.2.2.2 ≠ 0 → (r.2.2.2 ≤ k → r.2.2.2 ≤ k') ∧ (r.2.2.2 + 1 ≤ k → r.2.2.2 + 1 ≤ k')) : fits r (f', t', k') = fits r (f, t, k) := by
  unfold fits
  rw [has_same hf f1 f2, has_same ht t1 t2]
  congr 2
  by_cases h0 : r.2.2.2 = 0
  · simp [h0]
  · obtain ⟨k2, k3⟩ := k1 h0
    have : (r.2.2.2 = k') ↔ (r.2.2.2 = k) := by omega
    simp [h0, this]
theorem found_least {F T K : List Int} {P : Pk → Prop} {r : Option Pk} {L : List Ru} (h : Found F T K P r)
    (cF : Cov F 0 65535 (edF L)) (cT : Cov T 0 65535 (edT L)) (cK : Cov K 1 7 (edK L))
    (hP : ∀ p q : Pk, okK p = true → okK q = true → (∀ r ∈ L, fits r p = fits r q) → (P p ↔ P q)) : IsLeast P r := by
  have key : ∀ q : Pk, okK q = true → P q → ∃ f ∈ F, ∃ t ∈ T, ∃ k ∈ K, P (f, t, k) ∧ leK (f, t, k) q := by
    rintro ⟨f, t, k⟩ hq hPq
    obtain ⟨⟨a1, a2⟩, ⟨b1, b2⟩, c1, c2⟩ := okK_iff.1 hq
    obtain ⟨f', hf', hfl, hfe⟩ := cF.2 f a1 a2
    obtain ⟨t', ht', htl, hte⟩ := cT.2 t b1 b2
    obtain ⟨k', hk', hkl, hke⟩ := cK.2 k c1 c2
    refine ⟨f', hf', t', ht', k', hk', ?_, leK_of hfl htl hkl⟩
    have okq : okK (f', t', k') = true := okK_iff.2 ⟨cF.1 _ hf', cT.1 _ ht', cK.1 _ hk'⟩
    refine (hP _ _ okq hq fun r hr => ?_).2 hPq
    have mF : ∀ b ∈ [r.2.1.1, r.2.1.1 + sz r.2.1.2], b ∈ edF L := fun b hb => List.mem_flatMap.2 ⟨r, hr, hb⟩
    have mT : ∀ b ∈ [r.2.2.1.1, r.2.2.1.1 + sz r.2.2.1.2], b ∈ edT L := fun b hb => List.mem_flatMap.2 ⟨r, hr, hb⟩
    have mK : ∀ b ∈ (if r.2.2.2 = 0 then [] else [r.2.2.2, r.2.2.2 + 1] : List Int), b ∈ edK L := fun b hb => List.mem_flatMap.2 ⟨r, hr, hb⟩
    refine fits_same hfl htl hkl (hfe _ (mF _ (by simp))) (hfe _ (mF _ (by simp))) (hte _ (mT _ (by simp))) (hte _ (mT _ (by simp))) fun h0 => ?_
    rw [if_neg h0] at mK
    exact ⟨hke _ (mK _ (by simp)), hke _ (mK _ (by simp))⟩
  rcases h with ⟨rfl, h⟩ | ⟨f, t, k, rfl, hf, ht, hk, hPp, hm⟩
  · refine .inl ⟨rfl, fun q hq hPq => ?_⟩
    obtain ⟨f, hf, t, ht, k, hk, hp, _⟩ := key q hq hPq
    exact h f hf t ht k hk hp
  · refine .inr ⟨_, rfl, okK_iff.2 ⟨cF.1 _ hf, cT.1 _ ht, cK.1 _ hk⟩, hPp, fun q hq hPq => ?_⟩
    obtain ⟨f', hf', t', ht', k', hk', hp, hle⟩ := key q hq hPq
    exact leK_trans (hm f' hf' t' ht' k' hk' hp) hle
theorem dec_same : ∀ (L : List Ru) {p q : Pk}, (∀ r ∈ L, fits r p = fits r q) → dec L p = dec L q
  | [], _, _, _ => rfl
  | r :: L, p, q, h => by
    have h1 := dec_same L (p := p) (q := q) fun r hr => h r (by simp [hr])
    unfold dec at *
    rw [List.findIdx_cons, List.findIdx_cons, h r (by simp), h1]
theorem saysB_same {L : List Ru} {p q : Pk} (h : ∀ r ∈ L, fits r p = fits r q) : saysB L p = saysB L q := by
  unfold saysB; rw [dec_same L h]
theorem dec_take {L : List Ru} {p : Pk} {i : Nat} (hi : i < L.length) : dec L p = i ↔ dec (L.take (i + 1)) p = i := by
  have hl : (L.take (i + 1)).length = i + 1 := by simp; omega
  constructor
  · intro h
    refine dec_eq (by omega) ?_ fun j hj hji => ?_
    · rw [List.getElem_take]
      have h2 := dec_fits (L := L) (p := p) (by omega)
      simpa [h] using h2
    · rw [List.getElem_take]
      exact dec_before (by omega) _
  · intro h
    refine dec_eq hi ?_ fun j hj hji => ?_
    · have h2 := dec_fits (L := L.take (i + 1)) (p := p) (by omega)
      rw [List.getElem_take] at h2
      simpa [h] using h2
    · have h2 := dec_before (L := L.take (i + 1)) (p := p) (j := j) (by omega) (by omega)
      rwa [List.getElem_take] at h2
/-- the least packet of which the rule at a place decides -/
def Wit (L : List Ru) (i : Nat) (r : Option Pk) : Prop := IsLeast (fun p => dec L p = i) r
/-- the least packet of which two lists say different things -/
def Dif (A B : List Ru) (r : Option Pk) : Prop := IsLeast (fun p => saysB A p ≠ saysB B p) r
theorem wit_take {F T K : List Int} {L : List Ru} {i : Nat} {r : Option Pk} (hi : i < L.length) (h : Found F T K (fun p => dec L p = i) r)
    (cF : Cov F 0 65535 (edF (L.take (i + 1)))) (cT : Cov T 0 65535 (edT (L.take (i + 1)))) (cK : Cov K 1 7 (edK (L.take (i + 1)))) : Wit L i r := by
  refine found_least h cF cT cK fun p q _ _ hs => ?_
  rw [dec_take hi, dec_take hi, dec_same _ hs]
theorem wit_all {F T K : List Int} {L : List Ru} {i : Nat} {r : Option Pk} (h : Found F T K (fun p => dec L p = i) r)
    (cF : Cov F 0 65535 (edF L)) (cT : Cov T 0 65535 (edT L)) (cK : Cov K 1 7 (edK L)) : Wit L i r := by
  refine found_least h cF cT cK fun p q _ _ hs => ?_
  rw [dec_same _ hs]
theorem dif_all {F T K : List Int} {A B : List Ru} {r : Option Pk} (h : Found F T K (fun p => saysB A p ≠ saysB B p) r)
    (cF : Cov F 0 65535 (edF (A ++ B))) (cT : Cov T 0 65535 (edT (A ++ B))) (cK : Cov K 1 7 (edK (A ++ B))) : Dif A B r := by
  refine found_least h cF cT cK fun p q _ _ hs => ?_
  rw [saysB_same (L := A) (fun r hr => hs r (by simp [hr])), saysB_same (L := B) (fun r hr => hs r (by simp [hr]))]
/-- a place of a grid at which something holds, and at no place ahead of it -/
theorem found_at {F T K : List Int} {P : Pk → Prop} (hF : F.Pairwise (· < ·)) (hT : T.Pairwise (· < ·)) (hK : K.Pairwise (· < ·)) {i j k : Nat} (hi : i < F.length) (hj : j < T.length) (hk : k < K.length)
    (hP : P (F[i], T[j], K[k])) (n1 : ∀ i' (h : i' < F.length), i' < i → ∀ t ∈ T, ∀ c ∈ K, ¬ P (F[i'], t, c)) (n2 : ∀ j' (h : j' < T.length), j' < j → ∀ c ∈ K, ¬ P (F[i], T[j'], c)) (n3 : ∀ k' (h : k' < K.length), k' < k → ¬ P (F[i], T[j], K[k'])) :
    Found F T K P (some (F[i], T[j], K[k])) := by
  refine .inr ⟨_, _, _, rfl, List.getElem_mem _, List.getElem_mem _, List.getElem_mem _, hP, ?_⟩
  intro f' hf' t' ht' k' hk' hp
  obtain ⟨i', hi', rfl⟩ := List.getElem_of_mem hf'
  obtain ⟨j', hj', rfl⟩ := List.getElem_of_mem ht'
  obtain ⟨c', hc', rfl⟩ := List.getElem_of_mem hk'
  have e1 : i' < i ∨ i' = i ∨ i < i' := by omega
  rcases e1 with h | rfl | h
  · exact absurd hp (n1 i' hi' h _ ht' _ hk')
  · have e2 : j' < j ∨ j' = j ∨ j < j' := by omega
    rcases e2 with h | rfl | h
    · exact absurd hp (n2 j' hj' h _ hk')
    · have e3 : c' < k ∨ c' = k ∨ k < c' := by omega
      rcases e3 with h | rfl | h
      · exact absurd hp (n3 c' hc' h)
      · exact leK_of (Int.le_refl _) (Int.le_refl _) (Int.le_refl _)
      · exact .inr ⟨rfl, .inr ⟨rfl, Int.le_of_lt (List.pairwise_iff_getElem.1 hK _ _ hk hc' h)⟩⟩
    · exact .inr ⟨rfl, .inl (List.pairwise_iff_getElem.1 hT _ _ hj hj' h)⟩
  · exact .inl (List.pairwise_iff_getElem.1 hF _ _ hi hi' h)
theorem found_none {F T K : List Int} {P : Pk → Prop} (n1 : ∀ i' (h : i' < F.length), ∀ t ∈ T, ∀ c ∈ K, ¬ P (F[i'], t, c)) : Found F T K P none := by
  refine .inl ⟨rfl, fun f hf t ht k hk => ?_⟩
  obtain ⟨i', hi', rfl⟩ := List.getElem_of_mem hf
  exact n1 i' hi' t ht k hk
end Go.Proofs.Ytaoahghfmlegbaa
