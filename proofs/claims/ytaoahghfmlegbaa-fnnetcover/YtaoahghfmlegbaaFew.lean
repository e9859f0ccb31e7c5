/- What the fewest prefixes of a set of addresses are: they ascend, have just its addresses, no two are the halves of one, none is more than a list that has them: plain mathematics; no program. -/
import Derived.Test.YtaoahghfmlegbaaSpecSet
namespace Go.Proofs.Ytaoahghfmlegbaa

/-- prefixes that ascend from lo to hi and have just the addresses of a set -/
def Run (S : Int → Bool) (hi : Int) : Int → List (Int × Int) → Prop
  | lo, [] => ∀ x, lo ≤ x → x < hi → S x = false
  | lo, p :: r => okP p.1 p.2 = true ∧ lo ≤ p.1 ∧ (∀ x, lo ≤ x → x < p.1 → S x = false) ∧ (∀ x, p.1 ≤ x → x < p.1 + sz p.2 → S x = true) ∧ p.1 + sz p.2 ≤ hi ∧ Run S hi (p.1 + sz p.2) r

theorem run_low {S : Int → Bool} {hi lo m : Int} (h : ∀ x, lo ≤ x → x < m → S x = false) (hl : lo ≤ m) : ∀ {Y : List (Int × Int)}, Run S hi m Y → Run S hi lo Y
  | [], k => fun x h1 h2 => by
    rcases Int.lt_or_le x m with c | c
    · exact h x h1 c
    · exact k x c h2
  | p :: r, k => by
    obtain ⟨a, b, c, d, e, f⟩ := k
    refine ⟨a, by omega, fun x h1 h2 => ?_, d, e, f⟩
    rcases Int.lt_or_le x m with g | g
    · exact h x h1 g
    · exact c x g h2
theorem run_app {S : Int → Bool} {hi m : Int} (hm : m ≤ hi) : ∀ {X : List (Int × Int)} {lo : Int} {Y : List (Int × Int)}, lo ≤ m → Run S m lo X → Run S hi m Y → Run S hi lo (X ++ Y)
  | [], lo, Y, hl, h, k => run_low h hl k
  | p :: r, lo, Y, hl, h, k => by
    obtain ⟨a, b, c, d, e, f⟩ := h
    exact ⟨a, b, c, d, by omega, run_app hm e f k⟩
theorem ok_iff {a l : Int} : okP a l = true ↔ (0 ≤ l ∧ l ≤ 16 ∧ 0 ≤ a ∧ a ≤ 65535 ∧ a % sz l = 0) := by unfold okP; exact decide_eq_true_iff

theorem few_run (S : Int → Bool) : ∀ (k : Nat) (a : Int), k ≤ 16 → 0 ≤ a → a ≤ 65535 → a % pw k = 0 → Run S (a + pw k) a (few S k a)
  | 0, a, hk, h0, h1, ha => by
    unfold few; rw [canon_zero]
    cases hS : S a with
    | false =>
      simp only [Tr.tell, Run]
      intro x h1 h2
      rw [pw_zero] at h2
      have : x = a := by omega
      rw [this]; exact hS
    | true =>
      have e : sz 16 = 1 := by decide
      simp only [Tr.tell, Run]
      refine ⟨ok_iff.mpr ⟨by omega, by omega, h0, h1, ?_⟩, Int.le_refl _, fun x _ _ => by omega, fun x h1 h2 => ?_, ?_, fun x _ _ => ?_⟩
      · simp; rw [e]; omega
      · have : x = a := by simp at h2; rw [e] at h2; omega
        rw [this]; exact hS
      · simp; rw [e, pw_zero]; omega
      · simp at *; rw [e] at *; rw [pw_zero] at *; omega
  | k + 1, a, hk, h0, h1, ha => by
    have p1 := pw_pos k
    have p2 := pw_succ k
    have hd : a % pw k = 0 := mod_of_dvd ha (pw_dvd k 1)
    cases hc : canon S (k + 1) a with
    | leaf v =>
      have hl := canon_leaf _ _ hc
      unfold few; rw [hc]
      cases v with
      | false => exact hl
      | true =>
        have e : sz (16 - ((k + 1 : Nat) : Int)) = pw (k + 1) := sz_pw (k + 1)
        simp only [Tr.tell, Run]
        refine ⟨ok_iff.mpr ⟨by omega, by omega, h0, h1, ?_⟩, Int.le_refl _, fun x _ _ => by omega, fun x h1 h2 => ?_, ?_, fun x _ _ => ?_⟩
        · rw [e]; exact ha
        · rw [e] at h2; exact hl x h1 h2
        · rw [e]; omega
        · rw [e] at *; omega
    | node x y =>
      have hf : few S (k + 1) a = few S k a ++ few S k (a + pw k) := by
        obtain ⟨rfl, rfl⟩ := canon_node hc
        unfold few; rw [hc]; simp only [Tr.tell, Nat.add_sub_cancel]
      rw [hf]
      have hb : a + pw k ≤ 65535 := by
        have h3 : pw (k + 1) ≤ a + pw (k + 1) := by omega
        have hT : a + pw (k + 1) ≤ 65536 := by
          have h4 : (65536 : Int) % pw (k + 1) = 0 := by
            have := pw_dvd (k + 1) (16 - (k + 1))
            rw [show k + 1 + (16 - (k + 1)) = 16 by omega] at this
            exact this
          have := dvd_le (s := pw (k + 1)) (a := 65536 - pw (k + 1)) (b := a) (pw_pos _) (by rw [Int.sub_emod, h4, Int.emod_self]; simp) ha (by omega)
          omega
        omega
      rw [show a + pw (k + 1) = (a + pw k) + pw k by omega]
      exact run_app (by omega) (by omega) (few_run S k a (by omega) h0 h1 hd) (few_run S k (a + pw k) (by omega) (by omega) hb (add_mod hd (Int.emod_self)))

theorem few_root (S : Int → Bool) : Run S 65536 0 (few S 16 0) := by
  have := few_run S 16 0 (by omega) (by omega) (by omega) (by simp)
  rw [show (0 : Int) + pw 16 = 65536 by decide] at this
  exact this

theorem run_ok {S : Int → Bool} {hi : Int} : ∀ {W : List (Int × Int)} {lo : Int}, Run S hi lo W → allOk W = true
  | [], _, _ => rfl
  | p :: r, _, h => by
    obtain ⟨a, _, _, _, _, f⟩ := h
    have := run_ok f
    unfold allOk at this ⊢
    rw [List.all_cons, this, a]; rfl
theorem run_has {S : Int → Bool} {hi : Int} : ∀ {W : List (Int × Int)} {lo : Int}, Run S hi lo W → ∀ x, lo ≤ x → x < hi → anyHas W x = S x
  | [], _, h, x, h1, h2 => by rw [h x h1 h2]; rfl
  | p :: r, lo, h, x, h1, h2 => by
    obtain ⟨a, b, c, d, e, f⟩ := h
    have hs : anyHas (p :: r) x = (hasP p.1 p.2 x || anyHas r x) := by unfold anyHas; rw [List.any_cons]
    rw [hs]
    rcases Int.lt_or_le x (p.1 + sz p.2) with g | g
    · rcases Int.lt_or_le x p.1 with i | i
      · rw [c x h1 i]
        have n1 : hasP p.1 p.2 x = false := by
          cases hh : hasP p.1 p.2 x with
          | false => rfl
          | true => have := (hasP_iff.mp hh).1; omega
        have n2 : anyHas r x = false := run_none f x (by omega)
        rw [n1, n2]; rfl
      · rw [hasP_iff.mpr ⟨i, g⟩, d x i g]; rfl
    · have n1 : hasP p.1 p.2 x = false := by
        cases hh : hasP p.1 p.2 x with
        | false => rfl
        | true => have := (hasP_iff.mp hh).2; omega
      rw [n1, Bool.false_or]
      exact run_has f x g h2
where
  run_none {S : Int → Bool} {hi : Int} : ∀ {W : List (Int × Int)} {lo : Int}, Run S hi lo W → ∀ x, x < lo → anyHas W x = false
    | [], _, _, _, _ => rfl
    | p :: r, lo, h, x, h1 => by
      obtain ⟨a, b, c, d, e, f⟩ := h
      have hs : anyHas (p :: r) x = (hasP p.1 p.2 x || anyHas r x) := by unfold anyHas; rw [List.any_cons]
      rw [hs]
      have n1 : hasP p.1 p.2 x = false := by
        cases hh : hasP p.1 p.2 x with
        | false => rfl
        | true => have := (hasP_iff.mp hh).1; omega
      have := sz_pos p.2
      rw [n1, run_none f x (by omega)]; rfl

/-- what starts a pair of halves is not there with its other half -/
theorem few_max (S : Int → Bool) : ∀ (k : Nat) (a : Int), a % pw k = 0 → ∀ p ∈ few S k a, p.1 % (sz p.2 * 2) = 0 → 16 - (k : Int) < p.2 → ∃ x, p.1 ≤ x ∧ x < p.1 + sz p.2 * 2 ∧ S x = false
  | 0, a, ha, p, hp, h1, h2 => by
    unfold few at hp; rw [canon_zero] at hp
    cases hS : S a <;> rw [hS] at hp <;> simp [Tr.tell] at hp
    subst hp; simp at h2
  | k + 1, a, ha, p, hp, h1, h2 => by
    have p1 := pw_pos k
    have p2 := pw_succ k
    have hd : a % pw k = 0 := mod_of_dvd ha (pw_dvd k 1)
    cases hc : canon S (k + 1) a with
    | leaf v =>
      unfold few at hp; rw [hc] at hp
      cases v <;> simp [Tr.tell] at hp
      subst hp; simp at h2
    | node x y =>
      have hx : ∃ x, a ≤ x ∧ x < a + pw (k + 1) ∧ S x = false := by
        apply Classical.byContradiction
        intro hn
        have : canon S (k + 1) a = .leaf true := canon_const _ _ fun x h1 h2 => by
          cases hS : S x with
          | true => rfl
          | false => exact absurd ⟨x, h1, h2, hS⟩ hn
        rw [this] at hc; cases hc
      have hf : few S (k + 1) a = few S k a ++ few S k (a + pw k) := by
        obtain ⟨rfl, rfl⟩ := canon_node hc
        unfold few; rw [hc]; simp only [Tr.tell, Nat.add_sub_cancel]
      rw [hf, List.mem_append] at hp
      rcases hp with hp | hp
      · by_cases hl : 16 - (k : Int) < p.2
        · exact few_max S k a hd p hp h1 hl
        · have hw := few_whole S k a p hp (by have := tell_len S k a p hp; omega)
          obtain ⟨x, x1, x2, x3⟩ := hx
          rw [hw] at h1 ⊢
          simp only [sz_pw] at h1 ⊢
          exact ⟨x, x1, by omega, x3⟩
      · by_cases hl : 16 - (k : Int) < p.2
        · exact few_max S k (a + pw k) (add_mod hd Int.emod_self) p hp h1 hl
        · have hw := few_whole S k _ p hp (by have := tell_len S k _ p hp; omega)
          rw [hw] at h1
          simp only [sz_pw] at h1
          rw [← p2] at h1
          exfalso
          rw [Int.add_emod, ha, Int.zero_add, Int.emod_emod, Int.emod_eq_of_lt (by omega) (by omega)] at h1
          omega
where
  few_whole (S : Int → Bool) : ∀ (k : Nat) (a : Int), ∀ p ∈ few S k a, p.2 = 16 - (k : Int) → p = (a, 16 - (k : Int))
    | 0, a, p, hp, _ => by
      unfold few at hp; rw [canon_zero] at hp
      cases hS : S a <;> rw [hS] at hp <;> simp [Tr.tell] at hp
      rw [hp]; simp
    | k + 1, a, p, hp, hl => by
      cases hc : canon S (k + 1) a with
      | leaf v =>
        unfold few at hp; rw [hc] at hp
        cases v <;> simp [Tr.tell] at hp
        rw [hp]; simp
      | node x y =>
        have hf : few S (k + 1) a = few S k a ++ few S k (a + pw k) := by
          obtain ⟨rfl, rfl⟩ := canon_node hc
          unfold few; rw [hc]; simp only [Tr.tell, Nat.add_sub_cancel]
        rw [hf, List.mem_append] at hp
        rcases hp with hp | hp
        · have := tell_len S k a p hp; omega
        · have := tell_len S k _ p hp; omega

/-- how many of some prefixes meet a block -/
def meets (a : Int) (k : Nat) (q : Int × Int) : Bool := decide (q.1 < a + pw k ∧ a < q.1 + sz q.2)
theorem meets_iff {a : Int} {k : Nat} {q : Int × Int} : meets a k q = true ↔ (q.1 < a + pw k ∧ a < q.1 + sz q.2) := by unfold meets; exact decide_eq_true_iff

theorem any_mem {L : List (Int × Int)} {x : Int} (h : anyHas L x = true) : ∃ q, q ∈ L ∧ hasP q.1 q.2 x = true := by
  unfold anyHas at h; rw [List.any_eq_true] at h; exact h
theorem mem_any {L : List (Int × Int)} {x : Int} {q : Int × Int} (hq : q ∈ L) (h : hasP q.1 q.2 x = true) : anyHas L x = true := by
  unfold anyHas; rw [List.any_eq_true]; exact ⟨q, hq, h⟩

theorem few_count (L : List (Int × Int)) (hL : allOk L = true) : ∀ (k : Nat) (a : Int), k ≤ 16 → 0 ≤ a → a ≤ 65535 → a % pw k = 0 → (few (anyHas L) k a).length ≤ L.countP (meets a k)
  | k, a, hk, h0, h1, ha => by
    have p1 := pw_pos k
    cases hc : canon (anyHas L) k a with
    | leaf v =>
      have hl := canon_leaf _ _ hc
      unfold few; rw [hc]
      cases v with
      | false => simp [Tr.tell]
      | true =>
        simp only [Tr.tell, List.length_singleton]
        obtain ⟨q, hq, hh⟩ := any_mem (hl a (Int.le_refl _) (by omega))
        have hh' := hasP_iff.mp hh
        exact List.countP_pos_iff.mpr ⟨q, hq, meets_iff.mpr ⟨by omega, hh'.2⟩⟩
    | node x y =>
      cases k with
      | zero => rw [canon_zero] at hc; cases hc
      | succ k =>
        have p1 := pw_pos k
        have p2 := pw_succ k
        have hd : a % pw k = 0 := mod_of_dvd ha (pw_dvd k 1)
        have hf : few (anyHas L) (k + 1) a = few (anyHas L) k a ++ few (anyHas L) k (a + pw k) := by
          obtain ⟨rfl, rfl⟩ := canon_node hc
          unfold few; rw [hc]; simp only [Tr.tell, Nat.add_sub_cancel]
        have hT : a + pw (k + 1) ≤ 65536 := by
          have h4 : (65536 : Int) % pw (k + 1) = 0 := by
            have := pw_dvd (k + 1) (16 - (k + 1))
            rw [show k + 1 + (16 - (k + 1)) = 16 by omega] at this
            exact this
          have := dvd_le (s := pw (k + 1)) (a := 65536 - pw (k + 1)) (b := a) (pw_pos _) (by rw [Int.sub_emod, h4, Int.emod_self]; simp) ha (by omega)
          omega
        rw [hf, List.length_append]
        have i1 := few_count L hL k a (by omega) h0 h1 hd
        have i2 := few_count L hL k (a + pw k) (by omega) (by omega) (by omega) (add_mod hd Int.emod_self)
        have hq : ∀ q ∈ L, meets a k q = true → meets (a + pw k) k q = true → False := by
          intro q hq m1 m2
          rw [meets_iff] at m1 m2
          obtain ⟨o1, o2, o3, o4, o5⟩ := ok_iff.mp (allOk_of hL hq)
          -- q meets both halves: it has the whole block
          have hlen : q.2 ≤ 16 - ((k + 1 : Nat) : Int) := by
            apply Classical.byContradiction
            intro hn
            have hs : pw k % sz q.2 = 0 := by
              have := sz_dvd (l := q.2) (m := 16 - (k : Int)) (by omega) o2
              rw [sz_pw] at this; exact this
            have hb : (a + pw k) % sz q.2 = 0 := add_mod (mod_of_dvd hd hs) hs
            have := dvd_le (sz_pos q.2) o5 hb (by omega)
            omega
          have hs : sz q.2 % pw (k + 1) = 0 := by
            have := sz_dvd (l := 16 - ((k + 1 : Nat) : Int)) (m := q.2) hlen (by omega)
            rw [sz_pw] at this; exact this
          have q1 : q.1 ≤ a := dvd_le (pw_pos (k + 1)) ha (mod_of_dvd o5 hs) (by omega)
          have q2 : a + pw (k + 1) ≤ q.1 + sz q.2 := by
            have he : (q.1 + sz q.2) % pw (k + 1) = 0 := add_mod (mod_of_dvd o5 hs) hs
            have := dvd_le (s := pw (k + 1)) (a := q.1 + sz q.2 - pw (k + 1)) (b := a) (pw_pos _) (by rw [Int.sub_emod, he, Int.emod_self]; simp) ha (by omega)
            omega
          have : canon (anyHas L) (k + 1) a = .leaf true := canon_const _ _ fun x h1 h2 => mem_any hq (hasP_iff.mpr ⟨by omega, by omega⟩)
          rw [this] at hc; cases hc
        have hadd := count_two L (meets a k) (meets (a + pw k) k) (meets a (k + 1)) hq (by
          intro q m
          rw [meets_iff] at m
          rw [meets_iff]
          omega) (by
          intro q m
          rw [meets_iff] at m
          rw [meets_iff]
          omega)
        omega
where
  count_two (L : List (Int × Int)) (f g h : Int × Int → Bool) (hq : ∀ q ∈ L, f q = true → g q = true → False) (h1 : ∀ q, f q = true → h q = true) (h2 : ∀ q, g q = true → h q = true) : L.countP f + L.countP g ≤ L.countP h := by
    induction L with
    | nil => simp
    | cons q r ih =>
      have ih := ih fun p hp => hq p (List.mem_cons_of_mem _ hp)
      have h0 := hq q (List.mem_cons_self ..)
      simp only [List.countP_cons]
      cases hf : f q with
      | true =>
        cases hg : g q with
        | true => exact absurd hg (fun h => h0 hf h)
        | false => rw [h1 q hf]; simp; omega
      | false =>
        cases hg : g q with
        | true => rw [h2 q hg]; simp; omega
        | false => cases h q <;> simp <;> omega

theorem setOf_nil (L : List (Int × Int)) : setOf L [] = anyHas L := by funext x; simp [setOf, anyHas]

theorem okSet_nil : okSet [] = true := by decide

/-- the cover is no longer than the list -/
theorem cover_len {L : List (Int × Int)} (h : okSet L = true) : (fewOf L []).length ≤ L.length := by
  rw [few_yes h okSet_nil, setOf_nil]
  exact Nat.le_trans (few_count L (okSet_of h).2 16 0 (by omega) (by omega) (by omega) (by simp)) List.countP_le_length

theorem fewOf_ok (L O : List (Int × Int)) : allOk (fewOf L O) = true := by
  unfold fewOf
  by_cases h : okSet L = true ∧ okSet O = true
  · rw [if_pos h]; exact run_ok (few_root _)
  · rw [if_neg h]; rfl
theorem cover_ok {L : List (Int × Int)} (h : okSet L = true) : okSet (fewOf L []) = true := by
  have h1 := cover_len h
  have h2 := (okSet_of h).1
  unfold okSet
  rw [fewOf_ok, Bool.and_true]
  exact decide_eq_true (by omega)
/-- the cover of the cover is the cover -/
theorem cover_cover {L : List (Int × Int)} (h : okSet L = true) : fewOf (fewOf L []) [] = fewOf L [] := by
  rw [few_yes (cover_ok h) okSet_nil, few_yes h okSet_nil, setOf_nil, setOf_nil]
  exact few_congr fun x h1 h2 => run_has (few_root (anyHas L)) x h1 (by rw [show (0 : Int) + pw 16 = 65536 by decide] at h2; exact h2)
theorem cover_self (L : List (Int × Int)) : fewOf L L = [] := by
  unfold fewOf
  by_cases h : okSet L = true ∧ okSet L = true
  · rw [if_pos h]; exact few_none fun x _ _ => by unfold setOf; cases anyHas L x <;> rfl
  · rw [if_neg h]
theorem any_app (L M : List (Int × Int)) (x : Int) : anyHas (L ++ M) x = (anyHas L x || anyHas M x) := by unfold anyHas; rw [List.any_append]
theorem cover_more {L : List (Int × Int)} {q : Int × Int} (h : okSet L = true) (hq : q ∈ L) (hl : L.length < 40) : fewOf (L ++ [q]) [] = fewOf L [] := by
  have h2 : okSet (L ++ [q]) = true := by
    have := (okSet_of h).2
    unfold okSet allOk at *
    rw [List.all_append, this]
    simp only [List.length_append, List.length_singleton, List.all_cons, List.all_nil, Bool.and_true, Bool.true_and]
    rw [Bool.and_eq_true]
    refine ⟨decide_eq_true (by omega), ?_⟩
    rw [List.all_eq_true] at this
    exact this q hq
  rw [few_yes h2 okSet_nil, few_yes h okSet_nil, setOf_nil, setOf_nil]
  refine few_congr fun x _ _ => ?_
  rw [any_app]
  have hs : anyHas [q] x = hasP q.1 q.2 x := by unfold anyHas; simp
  rw [hs]
  cases hh : hasP q.1 q.2 x with
  | false => rw [Bool.or_false]
  | true => rw [mem_any hq hh]; rfl
end Go.Proofs.Ytaoahghfmlegbaa
