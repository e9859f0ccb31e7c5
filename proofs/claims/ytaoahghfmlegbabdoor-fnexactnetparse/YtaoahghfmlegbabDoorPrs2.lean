/- The contract of the program's NetParse, and the law that holds it against the model's. -/
import Derived.Test.YtaoahghfmlegbabDoorPrs
namespace Go.Proofs.YtaoahghfmlegbabDoor
open Go.RowKit Go.Lib Txt

theorem readPrefix_any (s : ByteArray) (w : World) (hs : s.size ≤ 1048576) :
    Calls Tryd.prog 27 #[.string s] w fun e w' => PrsEnd (implParse okP s.data.toList) e ∧ Below w.heap.size w w' := by
  cases h : readN [46, 47] s.data.toList with
  | none => exact readPrefix_no s w hs h
  | some ns =>
    have hl := readN_len h
    match ns, hl with
    | [c, b, a], _ => exact readPrefix_yes s w hs h

set_option maxRecDepth 100000 in
set_option maxHeartbeats 400000 in
theorem impl_parse (s : ByteArray) (w : World) (hs : s.size ≤ 1048576) (hv : ErrVar w) :
    Calls Tryd.prog 15 #[.string s] w fun e w' => e = .returned (prsVal (implParse okP s.data.toList)) ∧ Below w.heap.size w w' := by
  have b0 : Below w.heap.size w (w.alloc (.cells #[.int .i64 0, .int .i64 0] 29)) := (Below.refl _ _).more _
  have HV : Hid (ErrVar (w.alloc (.cells #[.int .i64 0, .int .i64 0] 29))) := hv.below b0
  have hr := fun w => readPrefix_any s w hs
  clear hv
  obtain ⟨o, hO⟩ : ∃ o, o = implParse okP s.data.toList := ⟨_, rfl⟩
  rw [← hO] at hr ⊢
  clear hO
  match o with
  | none =>
    go_enter Tryd.func15, Tryd.ntmps15
    go_wp2_with (go_at_call 27; refine (hr _).mono ?_; rintro e w1 ⟨⟨s', rfl⟩, hb⟩; obtain ⟨r1, r2, r3, r4, r5⟩ := old_one hb; have HV1 : Hid (ErrVar w1) := HV.out.below hb)
    have b1 := below_then b0 hb
    have b2 : Below w1.heap.size w1 (w1.alloc (.cells #[.int .i64 0, .int .i64 0] 29)) := (Below.refl _ _).more _
    have HV2 : Hid (ErrVar (w1.alloc (.cells #[.int .i64 0, .int .i64 0] 29))) := HV1.out.below b2
    clear hr
    go_wp2_with (go_at_call 24; refine (fault_yes _ _ HV2.out).mono ?_; rintro e w2 ⟨rfl, hb2⟩; obtain ⟨hc2, hf2⟩ := bcell (below_then b2 hb2))
    refine bodyPost_ret (v := .tuple #[.agg #[.int .i64 0, .int .i64 0], .bool false]) (by simp [results, Tryd.results15, go_sem, *]) rfl ⟨rfl, ?_⟩
    repeat (refine Below.setCell ?_ (by first | (simp; done) | (simp; omega) | omega) _)
    exact below_then (below_then b1 b2) hb2
  | some (a, l) =>
    go_enter Tryd.func15, Tryd.ntmps15
    go_wp2_with (go_at_call 27; refine (hr _).mono ?_; rintro e w1 ⟨he, hb⟩; obtain rfl := (show e = .returned (.tuple #[.agg #[.int .i64 a, .int .i64 l], .nilIface]) from he); obtain ⟨r1, r2, r3, r4, r5⟩ := old_one hb)
    have b1 := below_then b0 hb
    have b2 : Below w1.heap.size w1 (w1.alloc (.cells #[.int .i64 a, .int .i64 l] 29)) := (Below.refl _ _).more _
    clear hr
    go_wp2_with (go_at_call 24; refine (fault_no _).mono ?_; rintro e w2 ⟨rfl, hb2⟩; obtain ⟨q1, q2, q3, q4, q5⟩ := old_one hb2; obtain ⟨hc2, hf2⟩ := bcell (below_then b2 hb2))
    refine bodyPost_ret (v := .tuple #[.agg #[.int .i64 a, .int .i64 l], .bool true]) (by simp [results, Tryd.results15, go_sem, *]) rfl ⟨rfl, ?_⟩
    repeat (refine Below.setCell ?_ (by first | (simp; done) | (simp; omega) | omega) _)
    exact below_then (below_then b1 b2) hb2

theorem okP_neg (c : Int) : okP (-1) c = false := by
  unfold okP
  exact decide_eq_false (by omega)
theorem prs_same (l : List UInt8) : implParse okP l = specParse okP l :=
  parse_same okP okP_neg (fun a c h => by have := okP_of h; omega) l

set_option maxRecDepth 100000 in
set_option maxHeartbeats 400000 in
/-- the law, of every text -/
theorem law_parse (s : ByteArray) (w : World) (hs0 : s.size ≤ maxLen) (hv : ErrVar w) :
    Calls Tryd.prog 6 #[.string s] w fun e w' => e = .returned (.bool true) ∧ Below w.heap.size w w' := by
  unfold maxLen at hs0
  by_cases hs : s.size ≤ 1048576
  · have HV : Hid (ErrVar w) := hv
    have h1 := fun w => spec_parse s w hs
    have h2 := fun w (hv : ErrVar w) => impl_parse s w hs hv
    rw [prs_same] at h2
    clear hv
    obtain ⟨o, hO⟩ : ∃ o, o = specParse okP s.data.toList := ⟨_, rfl⟩
    rw [← hO] at h1 h2
    clear hO
    match o with
    | none =>
      simp only [prsVal] at h1 h2
      go_enter Tryd.func6, Tryd.ntmps6
      go_wp2_with (go_at_call 14; refine (h1 _).mono ?_; rintro e w1 ⟨rfl, hb⟩; have HV1 : Hid (ErrVar w1) := HV.out.below hb)
      have c1 : Below w1.heap.size w1 (w1.alloc (.cells #[.int .i64 0, .int .i64 0] 29)) := (Below.refl _ _).more _
      have HV2 : Hid (ErrVar (w1.alloc (.cells #[.int .i64 0, .int .i64 0] 29))) := HV1.out.below c1
      go_wp2_with (first
        | (go_at_call 15; refine (h2 _ HV2.out).mono ?_; rintro e w2 ⟨rfl, hb2⟩; obtain ⟨q1, q2, q3, q4, q5⟩ := old_one hb2)
        | (go_at_call 16; refine (eq_any _ _ _ _ _).mono ?_; rintro e w3 ⟨rfl, hb3⟩))
      go_ret
      exact ⟨rfl, below_then (below_then (below_then hb c1) hb2) (below_then ((Below.refl _ _).more _) hb3)⟩
    | some (a, l) =>
      simp only [prsVal] at h1 h2
      go_enter Tryd.func6, Tryd.ntmps6
      go_wp2_with (go_at_call 14; refine (h1 _).mono ?_; rintro e w1 ⟨rfl, hb⟩; have HV1 : Hid (ErrVar w1) := HV.out.below hb)
      have c1 : Below w1.heap.size w1 (w1.alloc (.cells #[.int .i64 a, .int .i64 l] 29)) := (Below.refl _ _).more _
      have HV2 : Hid (ErrVar (w1.alloc (.cells #[.int .i64 a, .int .i64 l] 29))) := HV1.out.below c1
      go_wp2_with (first
        | (go_at_call 15; refine (h2 _ HV2.out).mono ?_; rintro e w2 ⟨rfl, hb2⟩; obtain ⟨q1, q2, q3, q4, q5⟩ := old_one hb2)
        | (go_at_call 16; refine (eq_any _ _ _ _ _).mono ?_; rintro e w3 ⟨rfl, hb3⟩))
      go_ret
      exact ⟨rfl, below_then (below_then (below_then hb c1) hb2) (below_then ((Below.refl _ _).more _) hb3)⟩
  · clear hv
    go_enter Tryd.func6, Tryd.ntmps6
    go_wp2_with fail
    go_ret
    exact ⟨rfl, Below.refl _ _⟩
end Go.Proofs.YtaoahghfmlegbabDoor
