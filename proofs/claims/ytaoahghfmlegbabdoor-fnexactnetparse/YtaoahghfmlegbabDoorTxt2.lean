/- Plain mathematics of the texts of prefixes: the program's reader with the marks point and stroke, the model's two cuts; both tell the same. -/
import Derived.Test.YtaoahghfmlegbabDoorTxt
namespace Go.Proofs.YtaoahghfmlegbabDoor.Txt

/-- what the model tells of a prefix's text (ok: which prefixes are ok) -/
def specParse (ok : Int → Int → Bool) (l : List UInt8) : Option (Int × Int) :=
  match cutR 47 l with
  | [y, x] => if ok (specAddr x) (num5 y) = true then some (specAddr x, num5 y) else none
  | _ => none
/-- what the program tells of it -/
def implParse (ok : Int → Int → Bool) (l : List UInt8) : Option (Int × Int) :=
  match readN [46, 47] l with
  | some [c, b, a] => if ok (a * 256 + b) c = true then some (a * 256 + b, c) else none
  | _ => none

theorem toNat47 {c : UInt8} (h : (c.toNat : Int) = 47) : c = 47 := UInt8.toNat_inj.1 (by have : (47 : UInt8).toNat = 47 := rfl; omega)

/-- without a stroke the second mark plays no part -/
theorem tnums_two : ∀ (l : List UInt8) (ns : List Int), (47 : UInt8) ∉ l → tnums [46, 47] ns l = tnums [46] ns l
  | [], _, _ => rfl
  | c :: l, ns, h => by
    simp only [List.mem_cons, not_or] at h
    have hc : ¬ (c.toNat : Int) = 47 := fun e => h.1 (toNat47 e).symm
    have hs : stepN [46, 47] ns c.toNat = stepN [46] ns c.toNat := by
      cases ns with
      | nil => rfl
      | cons cur old =>
        unfold stepN
        simp only
        have e : (([46, 47] : List Int)[old.length]? = some (c.toNat : Int) ∧ cur ≠ -1) ↔ (([46] : List Int)[old.length]? = some (c.toNat : Int) ∧ cur ≠ -1) := by
          match old with
          | [] => exact Iff.rfl
          | [_] =>
            constructor
            · intro hh; exact absurd (Option.some.inj hh.1).symm hc
            · intro hh; exact absurd hh.1 (by simp)
          | _ :: _ :: _ =>
            constructor
            · intro hh; exact absurd hh.1 (by simp)
            · intro hh; exact absurd hh.1 (by simp)
        by_cases q : ([46] : List Int)[old.length]? = some (c.toNat : Int) ∧ cur ≠ -1
        · rw [if_pos q, if_pos (e.2 q)]
        · rw [if_neg q, if_neg (fun x => q (e.1 x))]
    rw [tnums, tnums, hs]
    cases stepN [46] ns c.toNat with
    | none => rfl
    | some ns' => exact tnums_two l ns' h.2

/-- how a prefix's text is read: up to the stroke as an address, behind it as a number -/
theorem readN_two (x y : List UInt8) (hx : (47 : UInt8) ∉ x) :
    readN [46, 47] (x ++ 47 :: y) = (readN [46] x).bind fun ns => (numI y).map fun c => c :: ns := by
  unfold readN
  rw [tnums_append, tnums_two x [-1] hx]
  cases hr : tnums [46] [-1] x with
  | none => rfl
  | some R =>
    simp only [Option.bind_some]
    have hl := tnums_len x hr (by simp)
    match R, hl with
    | [], _ =>
      simp [tnums, stepN]
    | [cur], _ =>
      have e : stepN [46, 47] [cur] ((47 : UInt8).toNat : Int) = none := by
        unfold stepN
        simp only
        rw [if_neg (fun h => by simp at h), addF_no (.inl (by decide))]
        rfl
      simp only [tnums, e]
      simp
    | [cur, a], _ =>
      by_cases hc : cur = -1
      · have e : stepN [46, 47] [cur, a] ((47 : UInt8).toNat : Int) = none := by
          unfold stepN
          simp only
          rw [if_neg (fun h => h.2 hc), addF_no (.inl (by decide))]
          rfl
        simp only [tnums, e]
        simp [hc]
      · have e : stepN [46, 47] [cur, a] ((47 : UInt8).toNat : Int) = some [-1, cur, a] := by
          unfold stepN
          simp only
          rw [if_pos ⟨rfl, hc⟩]
        simp only [tnums, e, Option.bind_some]
        rw [tnums_no [46, 47] [cur, a] y (-1) (fun c _ h => by simp at h), if_neg (by simp [hc])]
        unfold numI
        simp only [Option.bind_some]
        cases numRun (-1) y with
        | none => rfl
        | some v =>
          simp only [Option.map_some, Option.bind_some]
          by_cases hv : v = -1
          · rw [if_pos hv, if_pos (.inr (by simp [hv]))]; rfl
          · rw [if_neg hv, if_neg (by simp [hv])]; rfl
    | _ :: _ :: _ :: _, hl => simp at hl

theorem parse_same (ok : Int → Int → Bool) (h1 : ∀ c, ok (-1) c = false) (h2 : ∀ a c, ok a c = true → 0 ≤ c ∧ c ≤ 255) (l : List UInt8) : implParse ok l = specParse ok l := by
  unfold implParse specParse
  by_cases hm : (47 : UInt8) ∈ l
  · obtain ⟨x, y, rfl, hx⟩ := split_at 47 l hm
    have hcut : cutR 47 (x ++ 47 :: y) = y.foldl (cutStep 47) [[], x] := by
      unfold cutR
      rw [List.foldl_append, cutFold_no 47 x [] [] hx, List.foldl_cons, cutStep, if_pos rfl, List.nil_append]
    rw [hcut, readN_two x y hx]
    by_cases hy : (47 : UInt8) ∈ y
    · have hn : numI y = none := by
        unfold numI
        rw [numRun_mem_no (c := 47) (.inl (by decide)) y (-1) hy]; rfl
      have hl2 : (y.foldl (cutStep 47) [[], x]).length ≠ 2 := by
        obtain ⟨p, q, rfl, hp⟩ := split_at 47 y hy
        rw [List.foldl_append, cutFold_no 47 p [] [x] hp, List.foldl_cons, cutStep, if_pos rfl]
        have := cutFold_len 47 q [] [[] ++ p, x]
        simp only [List.length_cons, List.length_nil] at this
        omega
      rw [hn]
      have hnone : ((readN [46] x).bind fun ns => (none : Option Int).map fun c => c :: ns) = none := by cases readN [46] x <;> rfl
      rw [hnone]
      split
      · rename_i h; cases h
      · split
        · rename_i h; rw [h] at hl2; simp at hl2
        · rfl
    · rw [cutFold_no 47 y [] [x] hy, List.nil_append]
      simp only
      have ha := addr_same x
      unfold implAddr at ha
      cases hr : readN [46] x with
      | none =>
        rw [hr] at ha
        simp only at ha
        rw [← ha, h1]
        simp
      | some ns =>
        have hl := readN_len hr
        match ns, hl with
        | [b, a], _ =>
          rw [hr] at ha
          simp only at ha
          rw [← ha, num_same y]
          by_cases hc : 0 ≤ num5 y ∧ num5 y ≤ 255
          · rw [if_pos hc]
            simp
          · rw [if_neg hc]
            have hf : ok (a * 256 + b) (num5 y) = false := by
              cases h : ok (a * 256 + b) (num5 y) with
              | false => rfl
              | true => exact absurd (h2 _ _ h) hc
            rw [hf]
            simp
  · have hcut : cutR 47 l = [l] := by
      unfold cutR
      rw [cutFold_no 47 l [] [] hm]; rfl
    rw [hcut]
    have hr : readN [46, 47] l = none := by
      unfold readN
      rw [tnums_two l [-1] hm]
      cases hq : tnums [46] [-1] l with
      | none => rfl
      | some R =>
        have hl := tnums_len l hq (by simp)
        simp only [Option.bind_some]
        rw [if_pos (.inl (by simpa using hl))]
    rw [hr]
end Go.Proofs.YtaoahghfmlegbabDoor.Txt
