/- Plain mathematics of the texts of addresses: what the program's reader of numbers does with a text, byte by byte, and what the model does with it (cut at a byte, read each part), and that both tell the same. Nothing of the program's translation is in it. -/
namespace Go.Proofs.YtaoahghfmlegbabDoor.Txt

/-- one figure more -/
def addF (cur : Int) (c : Int) : Option Int :=
  if c < 48 ∨ 57 < c then none else if cur = -1 then some (c - 48) else if cur = 0 then none
  else if 256 ≤ cur * 10 + (c - 48) then none else some (cur * 10 + (c - 48))

/-- one sign of the text: ns are the numbers so far (reversed: the current one first) -/
def stepN (marks : List Int) (ns : List Int) (c : Int) : Option (List Int) :=
  match ns with
  | [] => none
  | cur :: old =>
    if marks[old.length]? = some c ∧ cur ≠ -1 then some (-1 :: cur :: old) else (addF cur c).map (· :: old)

def tnums (marks : List Int) : List Int → List UInt8 → Option (List Int)
  | ns, [] => some ns
  | ns, c :: l => (stepN marks ns c.toNat).bind fun ns' => tnums marks ns' l

theorem tnums_append (marks : List Int) : ∀ (a b : List UInt8) (ns : List Int), tnums marks ns (a ++ b) = (tnums marks ns a).bind fun ns' => tnums marks ns' b
  | [], b, ns => rfl
  | c :: a, b, ns => by
    simp only [List.cons_append, tnums]
    cases h : stepN marks ns c.toNat with
    | none => rfl
    | some ns' => simp only [Option.bind_some]; exact tnums_append marks a b ns'

/-- the whole: one number more than marks, each read -/
def readN (marks : List Int) (l : List UInt8) : Option (List Int) :=
  (tnums marks [-1] l).bind fun ns => if ns.length ≤ marks.length ∨ ns.head? = some (-1) then none else some ns

def numRun : Int → List UInt8 → Option Int
  | cur, [] => some cur
  | cur, c :: l => (addF cur c.toNat).bind fun v => numRun v l

/-- the number of a text, as the program reads it -/
def numI (l : List UInt8) : Option Int := (numRun (-1) l).bind fun v => if v = -1 then none else some v

def valFrom (cur : Int) (l : List UInt8) : Int := l.foldl (fun n c => n * 10 + ((c.toNat : Int) - 48)) cur
def digs (l : List UInt8) : Bool := l.all fun c => decide (48 ≤ (c.toNat : Int) ∧ (c.toNat : Int) ≤ 57)

/-- the number of a text, as the model reads it -/
def num5 (l : List UInt8) : Int :=
  if l.length < 1 ∨ 5 < l.length ∨ (1 < l.length ∧ l.head? = some 48) then -1 else if digs l then valFrom 0 l else -1

theorem addF_no {cur c : Int} (h : c < 48 ∨ 57 < c) : addF cur c = none := by unfold addF; rw [if_pos h]
theorem addF_zero (c : Int) : addF 0 c = none := by
  unfold addF
  by_cases h : c < 48 ∨ 57 < c
  · rw [if_pos h]
  · rw [if_neg h, if_neg (by decide), if_pos rfl]
theorem addF_first {c : Int} (h : ¬ (c < 48 ∨ 57 < c)) : addF (-1) c = some (c - 48) := by unfold addF; rw [if_neg h, if_pos rfl]
theorem addF_more {cur c : Int} (h0 : 1 ≤ cur) (h : ¬ (c < 48 ∨ 57 < c)) : addF cur c = if 256 ≤ cur * 10 + (c - 48) then none else some (cur * 10 + (c - 48)) := by
  unfold addF; rw [if_neg h, if_neg (by omega), if_neg (by omega)]
theorem addF_ne {cur c v : Int} (h : addF cur c = some v) (hc : -1 ≤ cur) : 0 ≤ v := by
  unfold addF at h
  by_cases h1 : c < 48 ∨ 57 < c
  · rw [if_pos h1] at h; cases h
  · rw [if_neg h1] at h
    by_cases h2 : cur = -1
    · rw [if_pos h2] at h; cases h; omega
    · rw [if_neg h2] at h
      by_cases h3 : cur = 0
      · rw [if_pos h3] at h; cases h
      · rw [if_neg h3] at h
        by_cases h4 : 256 ≤ cur * 10 + (c - 48)
        · rw [if_pos h4] at h; cases h
        · rw [if_neg h4] at h; cases h; omega
theorem numRun_ge : ∀ (l : List UInt8) {cur v : Int}, -1 ≤ cur → numRun cur l = some v → l ≠ [] → 0 ≤ v
  | [], _, _, _, _, hn => absurd rfl hn
  | c :: l, cur, v, hc, h, _ => by
    simp only [numRun] at h
    cases ha : addF cur c.toNat with
    | none => rw [ha] at h; cases h
    | some u =>
      rw [ha] at h
      have hu := addF_ne ha hc
      simp only [Option.bind_some] at h
      cases l with
      | nil => simp only [numRun] at h; cases h; exact hu
      | cons d l => exact numRun_ge (d :: l) (by omega) h (by simp)

theorem valFrom_ge : ∀ (l : List UInt8) (cur : Int), 1 ≤ cur → digs l = true → cur ≤ valFrom cur l ∧ (l ≠ [] → cur * 10 ≤ valFrom cur l)
  | [], cur, h, _ => ⟨by simp [valFrom], fun h => absurd rfl h⟩
  | c :: l, cur, h, hd => by
    simp only [digs, List.all_cons, Bool.and_eq_true, decide_eq_true_eq] at hd
    have := (valFrom_ge l (cur * 10 + ((c.toNat : Int) - 48)) (by omega) hd.2).1
    have e : valFrom cur (c :: l) = valFrom (cur * 10 + ((c.toNat : Int) - 48)) l := rfl
    rw [e]
    exact ⟨by omega, fun _ => by omega⟩
theorem valFrom_long : ∀ (k : Nat) (l : List UInt8) (cur : Int), 1 ≤ cur → digs l = true → k ≤ l.length → cur * 10 ^ k ≤ valFrom cur l
  | 0, l, cur, h, hd, _ => by simpa using (valFrom_ge l cur h hd).1
  | k + 1, [], cur, h, hd, hk => by simp at hk
  | k + 1, c :: l, cur, h, hd, hk => by
    simp only [digs, List.all_cons, Bool.and_eq_true, decide_eq_true_eq] at hd
    have := valFrom_long k l (cur * 10 + ((c.toNat : Int) - 48)) (by omega) hd.2 (by simpa using hk)
    have e : valFrom cur (c :: l) = valFrom (cur * 10 + ((c.toNat : Int) - 48)) l := rfl
    rw [e, Int.pow_succ]
    have p : (0 : Int) ≤ 10 ^ k := Int.pow_nonneg (by decide)
    have q : cur * 10 * 10 ^ k ≤ (cur * 10 + ((c.toNat : Int) - 48)) * 10 ^ k := Int.mul_le_mul_of_nonneg_right (by omega) p
    have r : cur * (10 ^ k * 10) = cur * 10 * 10 ^ k := by rw [Int.mul_comm (10 ^ k) 10, Int.mul_assoc]
    omega

theorem numRun_more : ∀ (l : List UInt8) (cur : Int), 1 ≤ cur → cur ≤ 255 → numRun cur l = if digs l = true ∧ valFrom cur l ≤ 255 then some (valFrom cur l) else none
  | [], cur, h, h2 => by simp [numRun, digs, valFrom, h2]
  | c :: l, cur, h, h2 => by
    by_cases hc : (c.toNat : Int) < 48 ∨ 57 < (c.toNat : Int)
    · have : digs (c :: l) = false := by
        simp only [digs, List.all_cons, Bool.and_eq_false_iff, decide_eq_false_iff_not]
        exact .inl (by omega)
      rw [numRun, addF_no hc, this]
      simp
    · have hd : digs (c :: l) = digs l := by
        simp only [digs, List.all_cons]
        rw [decide_eq_true (by omega)]
        simp
      have e : valFrom cur (c :: l) = valFrom (cur * 10 + ((c.toNat : Int) - 48)) l := rfl
      rw [numRun, addF_more h hc, hd, e]
      by_cases hb : 256 ≤ cur * 10 + ((c.toNat : Int) - 48)
      · rw [if_pos hb]
        by_cases hl : digs l = true
        · have := (valFrom_ge l (cur * 10 + ((c.toNat : Int) - 48)) (by omega) hl).1
          rw [if_neg (by omega)]; rfl
        · rw [if_neg (by simp [hl])]; rfl
      · rw [if_neg hb]
        exact numRun_more l _ (by omega) (by omega)

/-- ONE NUMBER: both read the same -/
theorem num_same (l : List UInt8) : numI l = if 0 ≤ num5 l ∧ num5 l ≤ 255 then some (num5 l) else none := by
  unfold numI
  cases l with
  | nil => simp [numRun, num5]
  | cons c l =>
    by_cases hc : (c.toNat : Int) < 48 ∨ 57 < (c.toNat : Int)
    · have : digs (c :: l) = false := by
        simp only [digs, List.all_cons, Bool.and_eq_false_iff, decide_eq_false_iff_not]
        exact .inl (by omega)
      have e : num5 (c :: l) = -1 := by
        unfold num5
        split
        · rfl
        · rw [this]; rfl
      rw [numRun, addF_no hc, e]
      simp
    · have hd : digs (c :: l) = digs l := by
        simp only [digs, List.all_cons]
        rw [decide_eq_true (by omega)]
        simp
      rw [numRun, addF_first hc]
      simp only [Option.bind_some]
      by_cases hz : (c.toNat : Int) = 48
      · have hz' : c = 48 := by
          apply UInt8.toNat_inj.1
          have : (48 : UInt8).toNat = 48 := rfl
          omega
        have hz2 : (c.toNat : Int) - 48 = 0 := by omega
        cases l with
        | nil =>
          have e : num5 [c] = 0 := by subst hz'; rfl
          rw [hz2, e]
          simp [numRun]
        | cons d l =>
          have e : num5 (c :: d :: l) = -1 := by
            unfold num5
            rw [if_pos (.inr (.inr ⟨by simp, by simp [hz']⟩))]
          rw [hz2, e, numRun, addF_zero]
          simp
      · have hne : ¬ (c = 48) := by
          intro h; apply hz; subst h; rfl
        rw [numRun_more l _ (by omega) (by omega)]
        have e0 : valFrom 0 (c :: l) = valFrom ((c.toNat : Int) - 48) l := by
          simp [valFrom]
        by_cases hlen : 5 < (c :: l).length
        · have e : num5 (c :: l) = -1 := by
            unfold num5
            rw [if_pos (.inr (.inl hlen))]
          rw [e]
          by_cases hl : digs l = true
          · have := valFrom_long 5 l ((c.toNat : Int) - 48) (by omega) hl (by simp at hlen; omega)
            have p : (10 : Int) ^ 5 = 100000 := by decide
            rw [p] at this
            rw [if_neg (by omega)]
            simp
          · rw [if_neg (by simp [hl])]
            simp
        · have e : num5 (c :: l) = if digs l = true then valFrom ((c.toNat : Int) - 48) l else -1 := by
            unfold num5
            rw [if_neg (by simp [hne]; simpa using hlen), hd, e0]
          rw [e]
          by_cases hl : digs l = true
          · have := (valFrom_ge l ((c.toNat : Int) - 48) (by omega) hl).1
            rw [if_pos hl]
            by_cases hv : valFrom ((c.toNat : Int) - 48) l ≤ 255
            · rw [if_pos ⟨hl, hv⟩, if_pos ⟨by omega, hv⟩]
              simp only [Option.bind_some]
              rw [if_neg (by omega)]
            · rw [if_neg (by omega), if_neg (by omega)]
              simp
          · rw [if_neg (by simp [hl]), if_neg (by simp [hl])]
            simp

/-- the model's cut, sign by sign: the parts so far (reversed), the last one ahead -/
def cutStep (at' : UInt8) (ps : List (List UInt8)) (c : UInt8) : List (List UInt8) :=
  match ps with
  | [] => []
  | cur :: old => if c = at' then [] :: cur :: old else (cur ++ [c]) :: old
def cutR (at' : UInt8) (l : List UInt8) : List (List UInt8) := l.foldl (cutStep at') [[]]

theorem cutFold_no (at' : UInt8) : ∀ (l cur : List UInt8) (old : List (List UInt8)), at' ∉ l → l.foldl (cutStep at') (cur :: old) = (cur ++ l) :: old
  | [], cur, old, _ => by simp
  | c :: l, cur, old, h => by
    simp only [List.mem_cons, not_or] at h
    rw [List.foldl_cons, cutStep, if_neg (fun e => h.1 e.symm), cutFold_no at' l _ _ h.2]
    simp
theorem cutFold_len (at' : UInt8) : ∀ (l cur : List UInt8) (old : List (List UInt8)), old.length + 1 ≤ (l.foldl (cutStep at') (cur :: old)).length
  | [], cur, old => by simp
  | c :: l, cur, old => by
    rw [List.foldl_cons, cutStep]
    split
    · have := cutFold_len at' l [] (cur :: old)
      simp only [List.length_cons] at this ⊢
      omega
    · exact cutFold_len at' l (cur ++ [c]) old
theorem split_at (at' : UInt8) : ∀ (l : List UInt8), at' ∈ l → ∃ x y, l = x ++ at' :: y ∧ at' ∉ x
  | [], h => by cases h
  | c :: l, h => by
    by_cases e : c = at'
    · subst e; exact ⟨[], l, rfl, by simp⟩
    · have e' : ¬ at' = c := fun h => e h.symm
      obtain ⟨x, y, rfl, hx⟩ := split_at at' l (by simpa [e'] using h)
      exact ⟨c :: x, y, rfl, by simp [hx, e']⟩

/-- the program's numbers of a text without the mark that is next -/
theorem tnums_no (marks : List Int) (old : List Int) : ∀ (l : List UInt8) (cur : Int), (∀ c ∈ l, marks[old.length]? ≠ some (c.toNat : Int)) →
    tnums marks (cur :: old) l = (numRun cur l).map (· :: old)
  | [], cur, _ => rfl
  | c :: l, cur, h => by
    have h1 := h c (by simp)
    rw [tnums, stepN, if_neg (fun e => h1 e.1), numRun]
    cases ha : addF cur c.toNat with
    | none => rfl
    | some v =>
      simp only [Option.map_some, Option.bind_some]
      exact tnums_no marks old l v (fun c hc => h c (by simp [hc]))
theorem numRun_mem_no {c : UInt8} (hc : (c.toNat : Int) < 48 ∨ 57 < (c.toNat : Int)) : ∀ (l : List UInt8) (cur : Int), c ∈ l → numRun cur l = none
  | [], _, h => by cases h
  | d :: l, cur, h => by
    rw [numRun]
    by_cases e : c = d
    · subst e; rw [addF_no hc]; rfl
    · have hl : c ∈ l := by simpa [e] using h
      cases addF cur d.toNat with
      | none => rfl
      | some v => exact numRun_mem_no hc l v hl

/-- what the model tells of an address's text -/
def specAddr (l : List UInt8) : Int :=
  match cutR 46 l with
  | [y, x] => if 0 ≤ num5 x ∧ num5 x ≤ 255 ∧ 0 ≤ num5 y ∧ num5 y ≤ 255 then 256 * num5 x + num5 y else -1
  | _ => -1
/-- what the program tells of it -/
def implAddr (l : List UInt8) : Int :=
  match readN [46] l with
  | some [b, a] => a * 256 + b
  | _ => -1

theorem tnums_mark {marks old : List Int} {cur : Int} {c : UInt8} {l : List UInt8} (h : marks[old.length]? = some (c.toNat : Int)) (hc : (c.toNat : Int) < 48 ∨ 57 < (c.toNat : Int)) :
    tnums marks (cur :: old) (c :: l) = if cur = -1 then none else tnums marks (-1 :: cur :: old) l := by
  rw [tnums, stepN]
  by_cases e : cur = -1
  · rw [if_neg (fun h => h.2 e), if_pos e, addF_no hc]; rfl
  · rw [if_pos ⟨h, e⟩, if_neg e]; rfl

theorem addr_same (l : List UInt8) : implAddr l = specAddr l := by
  unfold implAddr specAddr readN
  by_cases hm : (46 : UInt8) ∈ l
  · obtain ⟨x, y, rfl, hx⟩ := split_at 46 l hm
    have hcut : cutR 46 (x ++ 46 :: y) = y.foldl (cutStep 46) [[], x] := by
      unfold cutR
      rw [List.foldl_append, cutFold_no 46 x [] [] hx, List.foldl_cons, cutStep, if_pos rfl, List.nil_append]
    have hrun : tnums [46] [-1] (x ++ 46 :: y) = (numI x).bind fun a => (numRun (-1) y).map fun b => [b, a] := by
      rw [tnums_append, tnums_no [46] [] x (-1) (fun c hc h => by
        simp at h
        exact hx (by rw [show (46 : UInt8) = c from UInt8.toNat_inj.1 (by have : (46 : UInt8).toNat = 46 := rfl; omega)]; exact hc))]
      unfold numI
      cases numRun (-1) x with
      | none => rfl
      | some a =>
        simp only [Option.map_some, Option.bind_some]
        rw [tnums_mark (by rfl) (.inl (by decide))]
        by_cases e : a = -1
        · rw [if_pos e, if_pos e]; rfl
        · rw [if_neg e, if_neg e]
          simp only [Option.bind_some]
          exact tnums_no [46] [a] y (-1) (fun c _ h => by simp at h)
    rw [hcut, hrun]
    by_cases hy : (46 : UInt8) ∈ y
    · rw [numRun_mem_no (c := 46) (.inl (by decide)) y (-1) hy]
      have : (y.foldl (cutStep 46) [[], x]).length ≠ 2 := by
        obtain ⟨p, q, rfl, hp⟩ := split_at 46 y hy
        rw [List.foldl_append, cutFold_no 46 p [] [x] hp, List.foldl_cons, cutStep, if_pos rfl]
        have := cutFold_len 46 q [] [[] ++ p, x]
        simp only [List.length_cons, List.length_nil] at this
        omega
      cases numI x with
      | none =>
        simp only [Option.bind_none]
        split
        · rename_i h; rw [h] at this; simp at this
        · rfl
      | some a =>
        simp only [Option.bind_some, Option.map_none, Option.bind_none]
        split
        · rename_i h; rw [h] at this; simp at this
        · rfl
    · rw [cutFold_no 46 y [] [x] hy, List.nil_append, num_same x]
      simp only
      have hny := num_same y
      unfold numI at hny
      by_cases h1 : 0 ≤ num5 x ∧ num5 x ≤ 255
      · rw [if_pos h1]
        simp only [Option.bind_some]
        cases hr : numRun (-1) y with
        | none =>
          rw [hr] at hny
          simp only [Option.bind_none] at hny
          have h2 : ¬ (0 ≤ num5 y ∧ num5 y ≤ 255) := by
            intro h; rw [if_pos h] at hny; cases hny
          rw [if_neg (by omega)]
          rfl
        | some b =>
          rw [hr] at hny
          simp only [Option.bind_some, Option.map_some] at hny ⊢
          by_cases e : b = -1
          · rw [if_pos e] at hny
            have h2 : ¬ (0 ≤ num5 y ∧ num5 y ≤ 255) := by
              intro h; rw [if_pos h] at hny; cases hny
            rw [if_neg (by omega : ¬ (0 ≤ num5 x ∧ num5 x ≤ 255 ∧ 0 ≤ num5 y ∧ num5 y ≤ 255))]
            rw [if_pos (.inr (by simp [e]))]
          · rw [if_neg e] at hny
            by_cases h2 : 0 ≤ num5 y ∧ num5 y ≤ 255
            · rw [if_pos h2] at hny
              cases hny
              rw [if_neg (by simp [e]), if_pos ⟨h1.1, h1.2, h2.1, h2.2⟩]
              simp only
              omega
            · rw [if_neg h2] at hny; cases hny
      · rw [if_neg h1, if_neg (by omega)]
        rfl
  · have hcut : cutR 46 l = [l] := by
      unfold cutR
      rw [cutFold_no 46 l [] [] hm]; rfl
    rw [hcut]
    have hrun : tnums [46] [-1] l = (numRun (-1) l).map (· :: []) :=
      tnums_no [46] [] l (-1) (fun c hc h => by
        simp at h
        exact hm (by rw [show (46 : UInt8) = c from UInt8.toNat_inj.1 (by have : (46 : UInt8).toNat = 46 := rfl; omega)]; exact hc))
    rw [hrun]
    cases numRun (-1) l with
    | none => rfl
    | some v => simp

theorem stepN_len {marks ns ns' : List Int} {c : Int} (h : stepN marks ns c = some ns') (hl : ns.length ≤ marks.length + 1) : ns'.length ≤ marks.length + 1 := by
  cases ns with
  | nil => cases h
  | cons cur old =>
    unfold stepN at h
    simp only at h
    by_cases e : marks[old.length]? = some c ∧ cur ≠ -1
    · rw [if_pos e] at h
      cases h
      have := (List.getElem?_eq_some_iff.1 e.1).1
      simp
      omega
    · rw [if_neg e] at h
      cases ha : addF cur c with
      | none => rw [ha] at h; cases h
      | some v => rw [ha] at h; cases h; simpa using hl
theorem tnums_len {marks : List Int} : ∀ (l : List UInt8) {ns ns' : List Int}, tnums marks ns l = some ns' → ns.length ≤ marks.length + 1 → ns'.length ≤ marks.length + 1
  | [], ns, ns', h, hl => by cases h; exact hl
  | c :: l, ns, ns', h, hl => by
    simp only [tnums] at h
    cases hs : stepN marks ns c.toNat with
    | none => rw [hs] at h; cases h
    | some u => rw [hs] at h; exact tnums_len l h (stepN_len hs hl)
theorem readN_len {marks ns : List Int} {l : List UInt8} (h : readN marks l = some ns) : ns.length = marks.length + 1 := by
  unfold readN at h
  cases hr : tnums marks [-1] l with
  | none => rw [hr] at h; cases h
  | some u =>
    rw [hr] at h
    simp only [Option.bind_some] at h
    have hu := tnums_len l hr (by simp)
    by_cases e : u.length ≤ marks.length ∨ u.head? = some (-1)
    · rw [if_pos e] at h; cases h
    · rw [if_neg e] at h; cases h; omega
end Go.Proofs.YtaoahghfmlegbabDoor.Txt
