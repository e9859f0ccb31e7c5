/- Tries of sets of addresses, and the fewest prefixes of a set: plain mathematics; no program. -/
import Derived.Test.YtaoahghfmlegbaaL1b
namespace Go.Proofs.Ytaoahghfmlegbaa

/-- how many addresses lie below a node of the height k -/
def pw (k : Nat) : Int := 2 ^ k
theorem pw_zero : pw 0 = 1 := rfl
theorem pw_succ (k : Nat) : pw (k + 1) = pw k * 2 := by unfold pw; rw [Int.pow_succ]
theorem pw_pos (k : Nat) : 1 ≤ pw k := by
  induction k with
  | zero => simp [pw]
  | succ k ih => rw [pw_succ]; omega
theorem sz_pw (k : Nat) : sz (16 - (k : Int)) = pw k := by
  unfold sz pw
  have : (16 - (16 - (k : Int))).toNat = k := by omega
  rw [this]

/-- a trie: one value below it, or two halves -/
inductive Tr where
  | leaf (v : Bool)
  | node (x y : Tr)

/-- two halves made one, if no hole keeps them apart -/
def Tr.join : Tr → Tr → Tr
  | .leaf true, .leaf true => .leaf true
  | .leaf false, .leaf false => .leaf false
  | x, y => .node x y

theorem join_same (v : Bool) : Tr.join (.leaf v) (.leaf v) = .leaf v := by cases v <;> rfl
theorem join_ne {v w : Bool} (h : v ≠ w) : Tr.join (.leaf v) (.leaf w) = .node (.leaf v) (.leaf w) := by
  cases v <;> cases w <;> first | rfl | exact absurd rfl h
theorem join_l (a b y : Tr) : Tr.join (.node a b) y = .node (.node a b) y := by cases y <;> rfl
theorem join_r (x a b : Tr) : Tr.join x (.node a b) = .node x (.node a b) := by
  cases x with
  | leaf v => cases v <;> rfl
  | node _ _ => rfl
theorem join_leaf {x y : Tr} {v : Bool} (h : Tr.join x y = .leaf v) : x = .leaf v ∧ y = .leaf v := by
  cases x with
  | leaf a => cases y with
    | leaf b => cases a <;> cases b <;> simp_all [Tr.join]
    | node _ _ => rw [join_r] at h; cases h
  | node _ _ => rw [join_l] at h; cases h
theorem join_node {x y a b : Tr} (h : Tr.join x y = .node a b) : x = a ∧ y = b := by
  cases x with
  | leaf u => cases y with
    | leaf v => cases u <;> cases v <;> simp_all [Tr.join]
    | node _ _ => rw [join_r] at h; cases h; exact ⟨rfl, rfl⟩
  | node _ _ => rw [join_l] at h; cases h; exact ⟨rfl, rfl⟩

/-- the trie of a set of addresses, of the height k, from a on -/
def canon (S : Int → Bool) : Nat → Int → Tr
  | 0, a => .leaf (S a)
  | k + 1, a => .join (canon S k a) (canon S k (a + pw k))

theorem canon_congr {S S' : Int → Bool} : ∀ (k : Nat) (a : Int), (∀ x, a ≤ x → x < a + pw k → S x = S' x) → canon S k a = canon S' k a
  | 0, a, h => by
    have := h a (Int.le_refl _) (by rw [pw_zero]; omega)
    simp [canon, this]
  | k + 1, a, h => by
    have h1 := pw_pos k
    have h2 := pw_succ k
    simp only [canon]
    rw [canon_congr k a (fun x hx hy => h x hx (by omega)), canon_congr k (a + pw k) (fun x hx hy => h x (by omega) (by omega))]
theorem canon_const {S : Int → Bool} {v : Bool} : ∀ (k : Nat) (a : Int), (∀ x, a ≤ x → x < a + pw k → S x = v) → canon S k a = .leaf v
  | 0, a, h => by
    have := h a (Int.le_refl _) (by rw [pw_zero]; omega)
    simp [canon, this]
  | k + 1, a, h => by
    have h1 := pw_pos k
    have h2 := pw_succ k
    simp only [canon]
    rw [canon_const k a (fun x hx hy => h x hx (by omega)), canon_const k (a + pw k) (fun x hx hy => h x (by omega) (by omega)), join_same]
theorem canon_leaf {S : Int → Bool} {v : Bool} : ∀ (k : Nat) (a : Int), canon S k a = .leaf v → ∀ x, a ≤ x → x < a + pw k → S x = v
  | 0, a, h, x, hx, hy => by
    rw [pw_zero] at hy
    have : x = a := by omega
    subst this
    simpa [canon] using h
  | k + 1, a, h, x, hx, hy => by
    simp only [canon] at h
    have h2 := pw_succ k
    obtain ⟨e1, e2⟩ := join_leaf h
    rcases Int.lt_or_le x (a + pw k) with hl | hl
    · exact canon_leaf k a e1 x hx hl
    · exact canon_leaf k _ e2 x hl (by omega)
theorem canon_node {S : Int → Bool} {x y : Tr} {k : Nat} {a : Int} (h : canon S (k + 1) a = .node x y) : x = canon S k a ∧ y = canon S k (a + pw k) := by
  simp only [canon] at h
  obtain ⟨e1, e2⟩ := join_node h
  exact ⟨e1.symm, e2.symm⟩
/-- a trie of no height has no halves -/
theorem canon_zero {S : Int → Bool} {a : Int} : canon S 0 a = .leaf (S a) := rfl

/-- the prefixes of a trie of the height k, from a on, whose addresses have the value true -/
def Tr.tell : Tr → Nat → Int → List (Int × Int)
  | .leaf true, k, a => [(a, 16 - (k : Int))]
  | .leaf false, _, _ => []
  | .node x y, k, a => x.tell (k - 1) a ++ y.tell (k - 1) (a + pw (k - 1))

/-- the fewest prefixes of a set of addresses -/
def few (S : Int → Bool) (k : Nat) (a : Int) : List (Int × Int) := (canon S k a).tell k a

theorem few_all {S : Int → Bool} {k : Nat} {a : Int} (h : ∀ x, a ≤ x → x < a + pw k → S x = true) : few S k a = [(a, 16 - (k : Int))] := by
  unfold few; rw [canon_const k a h]; rfl
theorem few_none {S : Int → Bool} {k : Nat} {a : Int} (h : ∀ x, a ≤ x → x < a + pw k → S x = false) : few S k a = [] := by
  unfold few; rw [canon_const k a h]; rfl
theorem few_congr {S S' : Int → Bool} {k : Nat} {a : Int} (h : ∀ x, a ≤ x → x < a + pw k → S x = S' x) : few S k a = few S' k a := by
  unfold few; rw [canon_congr k a h]

theorem tell_len : ∀ (S : Int → Bool) (k : Nat) (a : Int), ∀ p ∈ (canon S k a).tell k a, 16 - (k : Int) ≤ p.2
  | S, 0, a, p, hp => by
    rw [canon_zero] at hp
    cases hS : S a <;> rw [hS] at hp <;> simp [Tr.tell] at hp
    subst hp; simp
  | S, k + 1, a, p, hp => by
    cases hc : canon S (k + 1) a with
    | leaf v =>
      rw [hc] at hp
      cases v <;> simp [Tr.tell] at hp
      subst hp; simp
    | node x y =>
      rw [hc] at hp
      obtain ⟨rfl, rfl⟩ := canon_node hc
      simp only [Tr.tell, Nat.add_sub_cancel, List.mem_append] at hp
      rcases hp with hp | hp
      · have := tell_len S k a p hp; omega
      · have := tell_len S k _ p hp; omega
theorem few_full {S : Int → Bool} {k : Nat} {a : Int} (h : few S k a = [(a, 16 - (k : Int))]) : canon S k a = .leaf true := by
  unfold few at h
  cases k with
  | zero =>
    rw [canon_zero] at h ⊢
    cases hS : S a <;> rw [hS] at h <;> simp [Tr.tell] at h ⊢
  | succ k =>
    cases hc : canon S (k + 1) a with
    | leaf v => rw [hc] at h; cases v <;> simp [Tr.tell] at h ⊢
    | node x y =>
      rw [hc] at h
      obtain ⟨rfl, rfl⟩ := canon_node hc
      simp only [Tr.tell, Nat.add_sub_cancel] at h
      have hm : (a, 16 - ((k + 1 : Nat) : Int)) ∈ (canon S k a).tell k a ++ (canon S k (a + pw k)).tell k (a + pw k) := by rw [h]; simp
      rw [List.mem_append] at hm
      rcases hm with hm | hm
      · have := tell_len S k a _ hm; simp at this; omega
      · have := tell_len S k _ _ hm; simp at this; omega
/-- half by half -/
theorem few_step (S : Int → Bool) (k : Nat) (a : Int) :
    few S (k + 1) a = if few S k a = [(a, 16 - (k : Int))] ∧ few S k (a + pw k) = [(a + pw k, 16 - (k : Int))] then [(a, 16 - ((k + 1 : Nat) : Int))] else few S k a ++ few S k (a + pw k) := by
  by_cases h : few S k a = [(a, 16 - (k : Int))] ∧ few S k (a + pw k) = [(a + pw k, 16 - (k : Int))]
  · rw [if_pos h]
    have h1 := few_full h.1
    have h2 := few_full h.2
    unfold few
    simp only [canon, h1, h2, join_same, Tr.tell]
  · rw [if_neg h]
    have hc : ∀ v, canon S k a = .leaf v → canon S k (a + pw k) = .leaf v → v = false := by
      intro v h1 h2
      cases v with
      | false => rfl
      | true =>
        exact absurd ⟨by unfold few; rw [h1]; rfl, by unfold few; rw [h2]; rfl⟩ h
    cases hj : canon S (k + 1) a with
    | leaf v =>
      have hj' := hj
      simp only [canon] at hj'
      obtain ⟨e1, e2⟩ := join_leaf hj'
      have := hc v e1 e2
      subst this
      unfold few
      rw [hj, e1, e2]; rfl
    | node x y =>
      obtain ⟨rfl, rfl⟩ := canon_node hj
      unfold few
      rw [hj]
      simp only [Tr.tell, Nat.add_sub_cancel]

theorem dvd_le {s a b : Int} (hs : 1 ≤ s) (ha : a % s = 0) (hb : b % s = 0) (h : b < a + s) : b ≤ a := by
  obtain ⟨u, rfl⟩ := Int.dvd_of_emod_eq_zero ha
  obtain ⟨v, rfl⟩ := Int.dvd_of_emod_eq_zero hb
  have h1 : s * v < s * (u + 1) := by rw [Int.mul_add, Int.mul_one]; exact h
  have h2 : v < u + 1 := Int.lt_of_mul_lt_mul_left h1 (by omega)
  exact Int.mul_le_mul_of_nonneg_left (by omega) (by omega)
theorem pw_dvd (j : Nat) : ∀ (d : Nat), pw (j + d) % pw j = 0
  | 0 => by simp
  | d + 1 => by
    have h := Int.dvd_of_emod_eq_zero (pw_dvd j d)
    rw [← Nat.add_assoc, pw_succ]
    exact Int.emod_eq_zero_of_dvd (Int.dvd_mul_of_dvd_left h)
theorem sz_of {l : Int} (_ : 0 ≤ l) (_ : l ≤ 16) : sz l = pw (16 - l).toNat := rfl
theorem sz_dvd {l m : Int} (h : m ≤ l) (l2 : l ≤ 16) : sz m % sz l = 0 := by
  show pw (16 - m).toNat % pw (16 - l).toNat = 0
  have e : (16 - m).toNat = (16 - l).toNat + (l - m).toNat := by omega
  rw [e]; exact pw_dvd _ _
theorem mod_of_dvd {a s t : Int} (h : a % t = 0) (k : t % s = 0) : a % s = 0 :=
  Int.emod_eq_zero_of_dvd (Int.dvd_trans (Int.dvd_of_emod_eq_zero k) (Int.dvd_of_emod_eq_zero h))
theorem add_mod {a b s : Int} (h : a % s = 0) (k : b % s = 0) : (a + b) % s = 0 :=
  Int.emod_eq_zero_of_dvd (Int.dvd_add (Int.dvd_of_emod_eq_zero h) (Int.dvd_of_emod_eq_zero k))
theorem sz_pos (l : Int) : 1 ≤ sz l := pw_pos _

theorem hasP_iff {a l x : Int} : hasP a l x = true ↔ a ≤ x ∧ x < a + sz l := by unfold hasP; exact decide_eq_true_iff
theorem withinP_iff {a l b m : Int} : withinP a l b m = true ↔ m ≤ l ∧ b ≤ a ∧ a < b + sz m := by
  unfold withinP; rw [Bool.and_eq_true, hasP_iff, decide_eq_true_iff]

/-- of two prefixes that are ok and share an address the longer one is in the other one -/
theorem nested {a l b m x : Int} (hp : okP a l = true) (hq : okP b m = true) (h1 : hasP a l x = true) (h2 : hasP b m x = true) (h : m ≤ l) : withinP a l b m = true := by
  obtain ⟨l1, l2, _, _, e1⟩ := okP_of hp
  obtain ⟨m1, m2, _, _, e2⟩ := okP_of hq
  rw [hasP_iff] at h1 h2
  have := dvd_le (sz_pos l) e1 (mod_of_dvd e2 (sz_dvd h l2)) (by omega)
  exact withinP_iff.2 ⟨h, this, by omega⟩
theorem within_has {a l b m x : Int} (hp : okP a l = true) (hq : okP b m = true) (h : withinP a l b m = true) (hx : hasP a l x = true) : hasP b m x = true := by
  obtain ⟨l1, l2, _, _, e1⟩ := okP_of hp
  obtain ⟨m1, m2, _, _, e2⟩ := okP_of hq
  rw [withinP_iff] at h
  rw [hasP_iff] at hx ⊢
  have d := sz_dvd h.1 l2
  have hz := sz_pos l
  have e3 : (a + sz l) % sz l = 0 := add_mod e1 (by simp)
  have e4 : (b + sz m) % sz l = 0 := add_mod (mod_of_dvd e2 d) d
  have := dvd_le hz e4 e3 (by omega)
  omega

/-- whether any of some prefixes has an address -/
def anyHas (L : List (Int × Int)) (x : Int) : Bool := L.any fun q => hasP q.1 q.2 x
/-- what some have and others have not -/
def setOf (L O : List (Int × Int)) (x : Int) : Bool := anyHas L x && !anyHas O x
/-- whether any is around, whether any is within -/
def around (L : List (Int × Int)) (a l : Int) : Bool := L.any fun q => withinP a l q.1 q.2
def inside (L : List (Int × Int)) (a l : Int) : Bool := L.any fun q => withinP q.1 q.2 a l
def allOk (L : List (Int × Int)) : Bool := L.all fun q => okP q.1 q.2
theorem allOk_of {L : List (Int × Int)} (h : allOk L = true) {q : Int × Int} (hq : q ∈ L) : okP q.1 q.2 = true := by
  unfold allOk at h; rw [List.all_eq_true] at h; exact h q hq

theorem around_all {L : List (Int × Int)} {a l : Int} (hL : allOk L = true) (hp : okP a l = true) (h : around L a l = true) (x : Int) (hx : hasP a l x = true) : anyHas L x = true := by
  unfold around at h
  rw [List.any_eq_true] at h
  obtain ⟨q, hq, hw⟩ := h
  unfold anyHas
  rw [List.any_eq_true]
  exact ⟨q, hq, within_has hp (allOk_of hL hq) hw hx⟩
theorem apart_none {L : List (Int × Int)} {a l : Int} (hL : allOk L = true) (hp : okP a l = true) (h1 : around L a l = false) (h2 : inside L a l = false) (x : Int) (hx : hasP a l x = true) : anyHas L x = false := by
  cases h : anyHas L x with
  | false => rfl
  | true =>
    unfold anyHas at h
    rw [List.any_eq_true] at h
    obtain ⟨q, hq, hh⟩ := h
    have hqo := allOk_of hL hq
    rcases Int.le_total q.2 l with hle | hle
    · have := nested hp hqo hx hh hle
      have h3 : around L a l = true := List.any_eq_true.2 ⟨q, hq, this⟩
      rw [h3] at h1; cases h1
    · have := nested hqo hp hh hx hle
      have h3 : inside L a l = true := List.any_eq_true.2 ⟨q, hq, this⟩
      rw [h3] at h2; cases h2
theorem inside_end {L : List (Int × Int)} {a l : Int} (hL : allOk L = true) (hl : l = 16) (h : inside L a l = true) : around L a l = true := by
  subst hl
  unfold inside at h
  rw [List.any_eq_true] at h
  obtain ⟨q, hq, hw⟩ := h
  obtain ⟨l1, l2, _, _, _⟩ := okP_of (allOk_of hL hq)
  rw [withinP_iff] at hw
  have hz : sz 16 = 1 := rfl
  have hzq := sz_pos q.2
  unfold around
  rw [List.any_eq_true]
  exact ⟨q, hq, withinP_iff.2 ⟨l2, by omega, by omega⟩⟩

theorem in_hasP {a l x : Int} (l1 : 0 ≤ l) (l2 : l ≤ 16) (h1 : a ≤ x) (h2 : x < a + pw (16 - l).toNat) : hasP a l x = true := by
  rw [hasP_iff, sz_of l1 l2]; exact ⟨h1, h2⟩

/-- the model's three cases -/
theorem part_none {L O : List (Int × Int)} {a l : Int} (hL : allOk L = true) (hO : allOk O = true) (hp : okP a l = true) (h : around O a l = true ∨ (around L a l = false ∧ inside L a l = false)) : few (setOf L O) (16 - l).toNat a = [] := by
  obtain ⟨l1, l2, _, _, _⟩ := okP_of hp
  refine few_none fun x h1 h2 => ?_
  have hx := in_hasP l1 l2 h1 h2
  unfold setOf
  rcases h with h | ⟨h, k⟩
  · rw [around_all hO hp h x hx]; simp
  · rw [apart_none hL hp h k x hx]; simp
theorem part_all {L O : List (Int × Int)} {a l : Int} (hL : allOk L = true) (hO : allOk O = true) (hp : okP a l = true) (h : around L a l = true) (h1 : around O a l = false) (h2 : inside O a l = false) : few (setOf L O) (16 - l).toNat a = [(a, l)] := by
  obtain ⟨l1, l2, _, _, _⟩ := okP_of hp
  have e : few (setOf L O) (16 - l).toNat a = [(a, 16 - ((16 - l).toNat : Int))] := by
    refine few_all fun x k1 k2 => ?_
    have hx := in_hasP l1 l2 k1 k2
    unfold setOf
    rw [around_all hL hp h x hx, apart_none hO hp h1 h2 x hx]; rfl
  rw [e]
  have : 16 - ((16 - l).toNat : Int) = l := by omega
  rw [this]
theorem part_deep {L O : List (Int × Int)} {a l : Int} (hL : allOk L = true) (hO : allOk O = true) (hp : okP a l = true) (h : ¬ (around O a l = true ∨ (around L a l = false ∧ inside L a l = false))) (k : ¬ (around L a l = true ∧ inside O a l = false)) : l < 16 := by
  obtain ⟨l1, l2, _, _, _⟩ := okP_of hp
  rcases Int.lt_or_le l 16 with hl | hl
  · exact hl
  · exfalso
    have hl : l = 16 := by omega
    have i1 : inside L a l = true → around L a l = true := inside_end hL hl
    have i2 : inside O a l = true → around O a l = true := inside_end hO hl
    cases c1 : around O a l <;> cases c2 : around L a l <;> cases c3 : inside L a l <;> cases c4 : inside O a l <;> simp_all
theorem part_step {L O : List (Int × Int)} {a l : Int} (l1 : 0 ≤ l) (l2 : l < 16) :
    few (setOf L O) (16 - l).toNat a = if few (setOf L O) (16 - (l + 1)).toNat a = [(a, l + 1)] ∧ few (setOf L O) (16 - (l + 1)).toNat (a + sz (l + 1)) = [(a + sz (l + 1), l + 1)] then [(a, l)] else few (setOf L O) (16 - (l + 1)).toNat a ++ few (setOf L O) (16 - (l + 1)).toNat (a + sz (l + 1)) := by
  obtain ⟨k, hk⟩ : ∃ k, (16 - (l + 1)).toNat = k := ⟨_, rfl⟩
  have e1 : (16 - l).toNat = k + 1 := by omega
  have e2 : 16 - (k : Int) = l + 1 := by omega
  have e3 : 16 - ((k + 1 : Nat) : Int) = l := by omega
  have e4 : sz (l + 1) = pw k := by rw [sz_of (by omega) (by omega), hk]
  rw [hk, e1, few_step, e2, e3, e4]
theorem half_ok {a l : Int} (hp : okP a l = true) (hl : l < 16) : okP a (l + 1) = true ∧ okP (a + sz (l + 1)) (l + 1) = true := by
  obtain ⟨l1, l2, a1, a2, e⟩ := okP_of hp
  have h2 := sz_step l hl
  have hz := sz_pos (l + 1)
  have e1 : a % sz (l + 1) = 0 := mod_of_dvd e (sz_dvd (by omega) (by omega))
  have e5 : (65536 : Int) % sz l = 0 := by
    have : sz 0 = 65536 := rfl
    rw [← this]; exact sz_dvd l1 l2
  have e6 : a + sz l ≤ 65536 := by
    refine dvd_le (sz_pos l) e5 (add_mod e (by simp)) (by omega)
  unfold okP
  exact ⟨decide_eq_true ⟨by omega, by omega, a1, a2, e1⟩, decide_eq_true ⟨by omega, by omega, by omega, by omega, add_mod e1 (by simp)⟩⟩

/-- a set with the addresses of a prefix given one value -/
def upd (S : Int → Bool) (b m : Int) (v : Bool) (x : Int) : Bool := if hasP b m x then v else S x
def setF (L : List (Int × Int)) (v : Bool) (S : Int → Bool) (x : Int) : Bool := if anyHas L x then v else S x
theorem setF_nil (v : Bool) (S : Int → Bool) : setF [] v S = S := by funext x; simp [setF, anyHas]
theorem setF_snoc (L : List (Int × Int)) (v : Bool) (S : Int → Bool) (b m : Int) : upd (setF L v S) b m v = setF (L ++ [(b, m)]) v S := by
  funext x
  unfold upd setF anyHas
  rw [List.any_append]
  cases h : hasP b m x <;> cases h2 : L.any (fun q => hasP q.1 q.2 x) <;> simp [h]
theorem setF_both (L O : List (Int × Int)) : setF O false (setF L true fun _ => false) = setOf L O := by
  funext x
  unfold setF setOf
  cases anyHas L x <;> cases anyHas O x <;> rfl

/-- a prefix lies below the node of the height k from a on -/
def under (b m a : Int) (k : Nat) : Prop := okP b m = true ∧ a % pw k = 0 ∧ a ≤ b ∧ b < a + pw k ∧ 16 - (k : Int) ≤ m ∧ k ≤ 16 ∧ 0 ≤ a
theorem under_root {b m : Int} (h : okP b m = true) : under b m 0 16 := by
  obtain ⟨l1, l2, a1, a2, e⟩ := okP_of h
  have : pw 16 = 65536 := rfl
  exact ⟨h, by simp, a1, by omega, by omega, Nat.le_refl _, Int.le_refl _⟩
theorem under_here {b m a : Int} {k : Nat} (h : under b m a k) (hm : 16 - (k : Int) = m) : b = a := by
  obtain ⟨ho, e, h1, h2, _, _, _⟩ := h
  obtain ⟨_, _, _, _, e2⟩ := okP_of ho
  rw [← hm, sz_pw] at e2
  have := dvd_le (pw_pos k) e e2 h2
  omega
theorem put_here {S : Int → Bool} {b m a : Int} {k : Nat} {v : Bool} (h : under b m a k) (hm : 16 - (k : Int) = m) : canon (upd S b m v) k a = .leaf v := by
  have hb := under_here h hm
  subst hb hm
  refine canon_const k b fun x h1 h2 => ?_
  unfold upd
  rw [if_pos (hasP_iff.2 ⟨h1, by rw [sz_pw]; exact h2⟩)]
theorem under_low {b m a : Int} {k : Nat} (h : under b m a (k + 1)) (hm : 16 - ((k + 1 : Nat) : Int) ≠ m) (hl : b < a + pw k) : under b m a k ∧ ∀ x, hasP b m x = true → x < a + pw k := by
  obtain ⟨ho, e, h1, h2, h3, h4, h5⟩ := h
  obtain ⟨m1, m2, _, _, e2⟩ := okP_of ho
  have e6 : a % pw k = 0 := mod_of_dvd e (pw_dvd k 1)
  refine ⟨⟨ho, e6, h1, hl, by omega, by omega, h5⟩, fun x hx => ?_⟩
  rw [hasP_iff] at hx
  have d : pw k % sz m = 0 := by rw [← sz_pw]; exact sz_dvd (by omega) m2
  have := dvd_le (sz_pos m) (add_mod (mod_of_dvd e6 d) d) (add_mod e2 (by simp : sz m % sz m = 0)) (by omega)
  omega
theorem under_high {b m a : Int} {k : Nat} (h : under b m a (k + 1)) (hm : 16 - ((k + 1 : Nat) : Int) ≠ m) (hl : a + pw k ≤ b) : under b m (a + pw k) k := by
  obtain ⟨ho, e, h1, h2, h3, h4, h5⟩ := h
  have h6 := pw_succ k
  have h7 := pw_pos k
  have e6 : a % pw k = 0 := mod_of_dvd e (pw_dvd k 1)
  exact ⟨ho, add_mod e6 (by simp), hl, by omega, by omega, by omega, by omega⟩
theorem put_low {S : Int → Bool} {b m a : Int} {k : Nat} {v : Bool} (h : under b m a (k + 1)) (hm : 16 - ((k + 1 : Nat) : Int) ≠ m) (hl : b < a + pw k) : canon (upd S b m v) (k + 1) a = .join (canon (upd S b m v) k a) (canon S k (a + pw k)) := by
  have := (under_low h hm hl).2
  simp only [canon]
  rw [canon_congr (S := upd S b m v) (S' := S) k (a + pw k)]
  intro x h1 h2
  unfold upd
  rw [if_neg (fun hx => by have := this x hx; omega)]
theorem put_high {S : Int → Bool} {b m a : Int} {k : Nat} {v : Bool} (hl : a + pw k ≤ b) : canon (upd S b m v) (k + 1) a = .join (canon S k a) (canon (upd S b m v) k (a + pw k)) := by
  simp only [canon]
  rw [canon_congr (S := upd S b m v) (S' := S) k a]
  intro x h1 h2
  unfold upd
  rw [if_neg (fun hx => by rw [hasP_iff] at hx; omega)]
theorem half_low {b m a : Int} {k : Nat} (h : under b m a (k + 1)) (hl : b < a + pw k) : b / pw k % 2 = 0 := by
  obtain ⟨ho, e, h1, h2, h3, h4, h5⟩ := h
  have h6 := pw_succ k
  have h7 := pw_pos k
  obtain ⟨u, rfl⟩ := Int.dvd_of_emod_eq_zero e
  rw [h6] at h1 hl
  have e1 : pw k * 2 * u = pw k * (2 * u) := by rw [Int.mul_assoc]
  rw [e1] at h1 hl
  have : b / pw k = 2 * u := by
    rw [Int.ediv_eq_iff_of_pos (by omega), Int.mul_comm (2 * u)]
    exact ⟨h1, hl⟩
  omega
theorem half_high {b m a : Int} {k : Nat} (h : under b m a (k + 1)) (hl : a + pw k ≤ b) : b / pw k % 2 = 1 := by
  obtain ⟨ho, e, h1, h2, h3, h4, h5⟩ := h
  have h6 := pw_succ k
  have h7 := pw_pos k
  obtain ⟨u, rfl⟩ := Int.dvd_of_emod_eq_zero e
  rw [h6] at h2 hl
  have e1 : pw k * 2 * u + pw k = pw k * (2 * u + 1) := by rw [Int.mul_assoc, Int.mul_add, Int.mul_one]
  rw [e1] at hl
  have : b / pw k = 2 * u + 1 := by
    rw [Int.ediv_eq_iff_of_pos (by omega), Int.mul_comm (2 * u + 1)]
    refine ⟨hl, ?_⟩
    rw [Int.mul_assoc] at h2
    rw [Int.mul_add, Int.mul_one]
    omega
  omega
/-- how many there are at most -/
theorem few_len (S : Int → Bool) : ∀ (k : Nat) (a : Int), (few S k a).length ≤ 2 ^ k
  | 0, a => by
    unfold few; rw [canon_zero]
    cases S a <;> simp [Tr.tell]
  | k + 1, a => by
    rw [few_step]
    have h1 := few_len S k a
    have h2 := few_len S k (a + pw k)
    have h3 : 2 ^ (k + 1) = 2 ^ k + 2 ^ k := by rw [Nat.pow_succ]; omega
    have h4 : 1 ≤ 2 ^ k := Nat.one_le_pow _ _ (by decide)
    split
    · simp; omega
    · rw [List.length_append]; omega
theorem few_small (S : Int → Bool) {l : Int} (a : Int) (h : 0 ≤ l) : (few S (16 - l).toNat a).length ≤ 65536 := by
  have h1 := few_len S (16 - l).toNat a
  have h2 : (2 : Nat) ^ (16 - l).toNat ≤ 2 ^ 16 := Nat.pow_le_pow_right (by decide) (by omega)
  have h3 : (2 : Nat) ^ 16 = 65536 := by decide
  omega
end Go.Proofs.Ytaoahghfmlegbaa
