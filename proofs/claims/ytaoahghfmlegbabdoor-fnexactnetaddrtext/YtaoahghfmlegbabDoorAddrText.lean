/- The contracts of both NetAddrText (the program's and the model's) and of the law that holds them against each other. -/
import Derived.Test.YtaoahghfmlegbabDoorDec
import Derived.Test.YtaoahghfmlegbabDoorShelf
import Derived.WalkSmall
import Derived.Lib.AppendIntMem
namespace Go.Proofs.YtaoahghfmlegbabDoor
open Go.RowKit Go.Lib

abbrev PowTab (w : World) : Prop := TabIs Tryd.prog w "internal/strconv.uint64pow10" .u64 Lib.pow10Tab
theorem gPow : Tryd.prog.globalNamed "internal/strconv.uint64pow10" = some 1 := by kernel_rfl
theorem tab_size {w : World} (h : PowTab w) : 1 < w.heap.size := by
  unfold PowTab TabIs World.var? at h
  simp only [gPow, Option.bind_some] at h
  rcases Nat.lt_or_ge 1 w.heap.size with hh | hh
  · exact hh
  · rw [Array.getElem?_eq_none hh] at h
    cases h
theorem tab_below {w w' : World} (h : PowTab w) (hb : Below w.heap.size w w') : PowTab w' := var?_below hb gPow (tab_size h) h

theorem itoa_dec (n : Int) (w : World) (h0 : 0 ≤ n) (h1 : n < 1000000) (ht : PowTab w) :
    Calls Tryd.prog 20 #[.int .i64 n] w fun e w' => ∃ s, e = .returned (.string s) ∧ IsDec n s ∧ Below w.heap.size w w' := by
  refine (Tryd.strconv_Itoa n (by omega) (by omega) w ht).mono ?_
  rintro e w' ⟨rfl, k, os, rfl⟩
  refine ⟨_, rfl, ?_, below_grow _ w (Nat.le_refl _) k os⟩
  have : Lib.itoa n = decDigits n.toNat := by unfold Lib.itoa; rw [if_neg (by omega)]
  rw [this]
  exact isDec_mk h1

/-- s is the text of the address n -/
def IsAddr (n : Int) (s : ByteArray) : Prop := (∃ a b, IsDec (n / 256) a ∧ IsDec (n % 256) b ∧ s = a ++ ⟨#[46]⟩ ++ b) ∧ s.size ≤ 50
theorem IsAddr.eq {n : Int} {s t : ByteArray} (h : IsAddr n s) (k : IsAddr n t) : s = t := by
  obtain ⟨⟨a, b, ha, hb, rfl⟩, _⟩ := h
  obtain ⟨⟨a', b', ha', hb', rfl⟩, _⟩ := k
  rw [ha.eq ha', hb.eq hb']
theorem isAddr_mk {n : Int} {a b : ByteArray} (ha : IsDec (n / 256) a) (hb : IsDec (n % 256) b) : IsAddr n (a ++ ⟨#[46]⟩ ++ b) := by
  refine ⟨⟨a, b, ha, hb, rfl⟩, ?_⟩
  have h1 := ha.2
  have h2 := hb.2
  have h3 : (⟨#[46]⟩ : ByteArray).size = 1 := rfl
  simp only [ByteArray.size_append, h3]
  omega

set_option maxRecDepth 100000 in
set_option maxHeartbeats 400000 in
theorem spec_text (n : Int) (w : World) (h0 : 0 ≤ n) (h1 : n ≤ 65535) :
    Calls Tryd.prog 7 #[.int .i64 n] w fun e w' => ∃ s, e = .returned (.string s) ∧ IsAddr n s ∧ Below w.heap.size w w' := by
  go_enter Tryd.func7, Tryd.ntmps7
  go_wp2_with (first
    | (go_at_call 18; refine (dec _ _ (by omega) (by omega)).mono ?_; rintro e w1 ⟨s, rfl, hs, hb⟩; have hz := hs.2)
    | (go_at_call 17; go_in))
  go_ret
  exact ⟨_, rfl, isAddr_mk ‹IsDec (n / 256) _› ‹IsDec (n % 256) _›, below_then ‹Below w.heap.size w _› hb⟩

set_option maxRecDepth 100000 in
set_option maxHeartbeats 400000 in
theorem spec_text_no (n : Int) (w : World) (h : n < 0 ∨ 65535 < n) :
    Calls Tryd.prog 7 #[.int .i64 n] w fun e w' => e = .returned (.string ⟨#[]⟩) ∧ w' = w := by
  rcases h with h | h
  · go_enter Tryd.func7, Tryd.ntmps7
    go_wp2_with (go_at_call 17; go_in)
    go_ret
    exact ⟨rfl, rfl⟩
  · have h' : 0 ≤ n := by omega
    have hd : decide (n ≤ 65535) = false := by simpa using h
    go_enter Tryd.func7, Tryd.ntmps7
    go_wp2_with (go_at_call 17; go_in)
    go_ret
    exact ⟨rfl, rfl⟩

set_option maxRecDepth 100000 in
set_option maxHeartbeats 400000 in
theorem impl_text (n : Int) (w : World) (h0 : 0 ≤ n) (h1 : n ≤ 65535) (ht : Hid (PowTab w)) :
    Calls Tryd.prog 8 #[.int .i64 n] w fun e w' => ∃ s, e = .returned (.string s) ∧ IsAddr n s ∧ Below w.heap.size w w' := by
  go_enter Tryd.func8, Tryd.ntmps8
  go_wp2_with (first
    | (go_at_call 20; refine (itoa_dec _ _ ?_ ?_ ht.out).mono ?_; omega; omega; rintro e w1 ⟨s, rfl, hs, hb⟩; have hz := hs.2; have ht1 : Hid (PowTab w1) := tab_below ht.out hb; clear ht)
    | (go_at_call 20; refine (itoa_dec _ _ ?_ ?_ ht1.out).mono ?_; omega; omega; rintro e w2 ⟨s2, rfl, hs2, hb2⟩; have hz2 := hs2.2)
    | (go_at_call 19; go_in))
  go_ret
  exact ⟨_, rfl, isAddr_mk hs hs2, below_then hb hb2⟩

set_option maxRecDepth 100000 in
set_option maxHeartbeats 400000 in
theorem impl_text_no (n : Int) (w : World) (h : n < 0 ∨ 65535 < n) :
    Calls Tryd.prog 8 #[.int .i64 n] w fun e w' => e = .returned (.string ⟨#[]⟩) ∧ w' = w := by
  rcases h with h | h
  · go_enter Tryd.func8, Tryd.ntmps8
    go_wp2_with (go_at_call 19; go_in)
    go_ret
    exact ⟨rfl, rfl⟩
  · have h' : 0 ≤ n := by omega
    have hd : decide (n ≤ 65535) = false := by simpa using h
    go_enter Tryd.func8, Tryd.ntmps8
    go_wp2_with (go_at_call 19; go_in)
    go_ret
    exact ⟨rfl, rfl⟩

set_option maxRecDepth 100000 in
set_option maxHeartbeats 400000 in
/-- the law, of every number -/
theorem law_text (n : Int) (w : World) (ht : Hid (PowTab w)) :
    Calls Tryd.prog 3 #[.int .i64 n] w fun e w' => e = .returned (.bool true) ∧ Below w.heap.size w w' := by
  by_cases h : n < 0 ∨ 65535 < n
  · go_enter Tryd.func3, Tryd.ntmps3
    go_wp2_with (first
      | (go_at_call 7; refine (spec_text_no _ _ h).mono ?_; rintro e w1 ⟨rfl, rfl⟩)
      | (go_at_call 8; refine (impl_text_no _ _ h).mono ?_; rintro e w1 ⟨rfl, rfl⟩))
    go_ret
    exact ⟨rfl, Below.refl _ _⟩
  · go_enter Tryd.func3, Tryd.ntmps3
    go_wp2_with (first
      | (go_at_call 7; refine (spec_text _ _ ?_ ?_).mono ?_; omega; omega; rintro e w1 ⟨s, rfl, hs, hb⟩; have ht1 : Hid (PowTab w1) := tab_below ht.out hb)
      | (go_at_call 8; refine (impl_text _ _ ?_ ?_ ht1).mono ?_; omega; omega; rintro e w2 ⟨s2, rfl, hs2, hb2⟩; obtain rfl := hs.eq hs2))
    go_ret
    exact ⟨rfl, below_then hb hb2⟩
end Go.Proofs.YtaoahghfmlegbabDoor
