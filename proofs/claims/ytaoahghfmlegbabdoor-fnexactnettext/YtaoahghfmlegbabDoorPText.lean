/- The contracts of both NetText (the program's and the model's) and of the law that holds them against each other. -/
import Derived.Test.YtaoahghfmlegbabDoorAddrText
import Derived.Test.YtaoahghfmlegbabDoorI1
import Derived.Deep.RegionHeld3
namespace Go.Proofs.YtaoahghfmlegbabDoor
open Go.RowKit Go.Lib

/-- s is the text of the prefix -/
def IsPre (a l : Int) (s : ByteArray) : Prop := ∃ x y, IsAddr a x ∧ IsDec l y ∧ s = x ++ ⟨#[47]⟩ ++ y
theorem IsPre.eq {a l : Int} {s t : ByteArray} (h : IsPre a l s) (k : IsPre a l t) : s = t := by
  obtain ⟨x, y, hx, hy, rfl⟩ := h
  obtain ⟨x', y', hx', hy', rfl⟩ := k
  rw [hx.eq hx', hy.eq hy']

set_option maxRecDepth 100000 in
set_option maxHeartbeats 400000 in
theorem spec_ptext_no (a l : Int) (w : World) (ho : okP a l = false) :
    Calls Tryd.prog 11 #[.agg #[.int .i64 a, .int .i64 l]] w fun e w' => e = .returned (.string ⟨#[]⟩) ∧ Below w.heap.size w w' := by
  have b0 : Below w.heap.size w (w.alloc (.cells #[.int .i64 a, .int .i64 l] 29)) := (Below.refl _ _).more _
  go_enter Tryd.func11, Tryd.ntmps11
  go_wp2_with (go_at_call 25; refine (ok_any _ _ _).mono ?_; rintro e w1 ⟨rfl, hb⟩)
  go_ret
  exact ⟨rfl, below_then b0 hb⟩

set_option maxRecDepth 100000 in
set_option maxHeartbeats 400000 in
theorem spec_ptext (a l : Int) (w : World) (ho : okP a l = true) :
    Calls Tryd.prog 11 #[.agg #[.int .i64 a, .int .i64 l]] w fun e w' => ∃ s, e = .returned (.string s) ∧ IsPre a l s ∧ Below w.heap.size w w' := by
  have b0 : Below w.heap.size w (w.alloc (.cells #[.int .i64 a, .int .i64 l] 29)) := (Below.refl _ _).more _
  obtain ⟨l1, l2, a1, a2, _⟩ := okP_of ho
  have hB : w.heap.size < (w.alloc (.cells #[.int .i64 a, .int .i64 l] 29)).heap.size := by simp
  have g1 : (w.alloc (.cells #[.int .i64 a, .int .i64 l] 29)).cell? ⟨w.heap.size, 0, none⟩ = some (.int .i64 a) := by simp
  have g2 : (w.alloc (.cells #[.int .i64 a, .int .i64 l] 29)).cell? ⟨w.heap.size, 1, none⟩ = some (.int .i64 l) := by simp
  go_enter Tryd.func11, Tryd.ntmps11
  go_wp2_with (go_at_call 25; refine (ok_any _ _ _).mono ?_; rintro e w1 ⟨rfl, hb⟩; obtain ⟨hc, hf⟩ := bcell hb)
  generalize hW : w.alloc (.cells #[.int .i64 a, .int .i64 l] 29) = W0
  rw [hW] at b0 hB g1 g2 hb
  have hst := s2_of g1 g2 hB hb
  clear hW hc hf
  go_region_held3 (fun w' => w'.cell? ⟨w.heap.size, 0, none⟩ = some (.int .i64 a) ∧ w'.cell? ⟨w.heap.size, 1, none⟩ = some (.int .i64 l) ∧ Below W0.heap.size W0 w') (first | exact s2_drew hst | exact s2_next hB (by assumption) (by assumption)) (first
    | (go_at_call 7; refine (spec_text _ _ a1 a2).mono ?_; rintro e w1 ⟨s1, rfl, hs1, hb1⟩; have hz1 := hs1.2; have hq1 : ¬ 9223372036854775807 < s1.size + 1 := by omega)
    | (go_at_call 18; refine (dec _ _ l1 (by omega)).mono ?_; rintro e w2 ⟨s2, rfl, hs2, hb2⟩; have hz2 := hs2.2; have hq2 : ¬ 9223372036854775807 < s1.size + 1 + s2.size := by omega))
  go_wp2
  have hS : S2 W0 w.heap.size a l w2 := by assumption
  go_ret
  exact ⟨_, rfl, ⟨s1, s2, hs1, hs2, rfl⟩, below_then b0 hS.2.2⟩

theorem s2_tab {W0 wp : World} {B : Nat} {a l : Int} (ht : PowTab W0) (h : S2 W0 B a l wp) : Hid (PowTab wp) := tab_below ht h.2.2

set_option maxRecDepth 100000 in
set_option maxHeartbeats 400000 in
theorem impl_ptext_no (a l : Int) (w : World) (ho : okP a l = false) :
    Calls Tryd.prog 13 #[.agg #[.int .i64 a, .int .i64 l]] w fun e w' => e = .returned (.string ⟨#[]⟩) ∧ Below w.heap.size w w' := by
  have b0 : Below w.heap.size w (w.alloc (.cells #[.int .i64 a, .int .i64 l] 29)) := (Below.refl _ _).more _
  go_enter Tryd.func13, Tryd.ntmps13
  go_wp2_with (go_at_call 26; refine (iok_any _ _ _).mono ?_; rintro e w1 ⟨rfl, hb⟩)
  go_ret
  exact ⟨rfl, below_then b0 hb⟩

set_option maxRecDepth 100000 in
set_option maxHeartbeats 400000 in
theorem impl_ptext (a l : Int) (w : World) (ht : PowTab w) (ho : okP a l = true) :
    Calls Tryd.prog 13 #[.agg #[.int .i64 a, .int .i64 l]] w fun e w' => ∃ s, e = .returned (.string s) ∧ IsPre a l s ∧ Below w.heap.size w w' := by
  have b0 : Below w.heap.size w (w.alloc (.cells #[.int .i64 a, .int .i64 l] 29)) := (Below.refl _ _).more _
  have HT : Hid (PowTab (w.alloc (.cells #[.int .i64 a, .int .i64 l] 29))) := tab_below ht b0
  clear ht
  obtain ⟨l1, l2, a1, a2, _⟩ := okP_of ho
  have hB : w.heap.size < (w.alloc (.cells #[.int .i64 a, .int .i64 l] 29)).heap.size := by simp
  have g1 : (w.alloc (.cells #[.int .i64 a, .int .i64 l] 29)).cell? ⟨w.heap.size, 0, none⟩ = some (.int .i64 a) := by simp
  have g2 : (w.alloc (.cells #[.int .i64 a, .int .i64 l] 29)).cell? ⟨w.heap.size, 1, none⟩ = some (.int .i64 l) := by simp
  go_enter Tryd.func13, Tryd.ntmps13
  go_wp2_with (go_at_call 26; refine (iok_any _ _ _).mono ?_; rintro e w1 ⟨rfl, hb⟩; obtain ⟨hc, hf⟩ := bcell hb)
  generalize hW : w.alloc (.cells #[.int .i64 a, .int .i64 l] 29) = W0
  rw [hW] at b0 hB g1 g2 hb HT
  have hst := s2_of g1 g2 hB hb
  clear hW hc hf
  go_region_held3 (fun w' => w'.cell? ⟨w.heap.size, 0, none⟩ = some (.int .i64 a) ∧ w'.cell? ⟨w.heap.size, 1, none⟩ = some (.int .i64 l) ∧ Below W0.heap.size W0 w') (first | exact s2_drew hst | exact s2_next hB (by assumption) (by assumption)) (first
    | (go_at_call 8; refine (impl_text _ _ a1 a2 (s2_tab (B := w.heap.size) (a := a) (l := l) HT.out (by first | assumption | exact s2_drew hst))).mono ?_; rintro e w1 ⟨s1, rfl, hs1, hb1⟩; have hz1 := hs1.2; have hq1 : ¬ 9223372036854775807 < s1.size + 1 := by omega)
    | (go_at_call 20; refine (itoa_dec _ _ l1 (by omega) (s2_tab (B := w.heap.size) (a := a) (l := l) HT.out (by first | assumption | exact s2_drew hst)).out).mono ?_; rintro e w2 ⟨s2, rfl, hs2, hb2⟩; have hz2 := hs2.2; have hq2 : ¬ 9223372036854775807 < s1.size + 1 + s2.size := by omega))
  go_wp2
  have hS : S2 W0 w.heap.size a l w2 := by assumption
  go_ret
  exact ⟨_, rfl, ⟨s1, s2, hs1, hs2, rfl⟩, below_then b0 hS.2.2⟩

set_option maxRecDepth 100000 in
set_option maxHeartbeats 400000 in
/-- the law, of every prefix -/
theorem law_ptext (a l : Int) (w : World) (ht : Hid (PowTab w)) :
    Calls Tryd.prog 5 #[.agg #[.int .i64 a, .int .i64 l]] w fun e w' => e = .returned (.bool true) ∧ Below w.heap.size w w' := by
  have b0 : Below w.heap.size w (w.alloc (.cells #[.int .i64 a, .int .i64 l] 27)) := (Below.refl _ _).more _
  have HB := Below.refl (w.alloc (.cells #[.int .i64 a, .int .i64 l] 27)).heap.size (w.alloc (.cells #[.int .i64 a, .int .i64 l] 27))
  have HT : Hid (PowTab (w.alloc (.cells #[.int .i64 a, .int .i64 l] 27))) := tab_below ht.out b0
  clear ht
  cases ho : okP a l with
  | true =>
    have HO : Hid (okP a l = true) := ho
    clear ho
    go_enter Tryd.func5, Tryd.ntmps5
    go_wp2_with (first
      | (go_at_call 12; refine (to_any _ _ _).mono ?_; rintro e w1 ⟨rfl, hb⟩; replace HB := below_then HB hb; obtain ⟨hc, hf⟩ := bcell HB)
      | (go_at_call 11; refine (spec_ptext _ _ _ HO.out).mono ?_; rintro e w1 ⟨s1, rfl, hs1, hb⟩; replace HB := below_then HB hb; obtain ⟨hc, hf⟩ := bcell HB)
      | (go_at_call 13; refine (impl_ptext _ _ _ (tab_below HT.out HB) HO.out).mono ?_; rintro e w1 ⟨s2, rfl, hs2, hb⟩; replace HB := below_then HB hb; obtain rfl := hs1.eq hs2))
    go_ret
    exact ⟨rfl, below_then b0 HB⟩
  | false =>
    have HO : Hid (okP a l = false) := ho
    clear ho
    go_enter Tryd.func5, Tryd.ntmps5
    go_wp2_with (first
      | (go_at_call 12; refine (to_any _ _ _).mono ?_; rintro e w1 ⟨rfl, hb⟩; replace HB := below_then HB hb; obtain ⟨hc, hf⟩ := bcell HB)
      | (go_at_call 11; refine (spec_ptext_no _ _ _ HO.out).mono ?_; rintro e w1 ⟨rfl, hb⟩; replace HB := below_then HB hb; obtain ⟨hc, hf⟩ := bcell HB)
      | (go_at_call 13; refine (impl_ptext_no _ _ _ HO.out).mono ?_; rintro e w1 ⟨rfl, hb⟩; replace HB := below_then HB hb))
    go_ret
    exact ⟨rfl, below_then b0 HB⟩
end Go.Proofs.YtaoahghfmlegbabDoor
