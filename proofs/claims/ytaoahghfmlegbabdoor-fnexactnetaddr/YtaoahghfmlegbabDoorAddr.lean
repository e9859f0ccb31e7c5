/- The contract of the program's NetAddr and of the law that holds it against the model's. -/
import Derived.Test.YtaoahghfmlegbabDoorRead
import Derived.Test.YtaoahghfmlegbabDoorAs
import Derived.Deep.QuietTactic
import Derived.BigQuiet
namespace Go.Proofs.YtaoahghfmlegbabDoor
open Go.RowKit Go.Lib Txt

theorem read_one_no (s : ByteArray) (mb : Nat) (w : World) (hs : s.size ≤ 1048576) (hmb : mb < w.heap.size) (hc : w.cell? ⟨mb, 0, none⟩ = some (.int .i32 46)) (h : readN [46] s.data.toList = none) :
    Calls Tryd.prog 29 #[.string s, .slice (some ⟨mb, 0, none⟩) 1 1] w fun e w' => ∃ s', e = .returned (.tuple #[.slice none 0 0, .iface 52 (.string s')]) ∧ Below w.heap.size w w' := by
  refine (read_any s [46] mb w hs (by simp) hmb (fun j hj => ?_) (fun x hx => ?_)).mono ?_
  · simp at hj; subst hj; exact hc
  · simp at hx; subst hx; decide
  · rintro e w' ⟨he, hb⟩
    unfold ReadEnd at he
    rw [h] at he
    obtain ⟨s', rfl⟩ := he
    exact ⟨s', rfl, hb⟩
theorem read_one_yes (s : ByteArray) (mb : Nat) (w : World) (hs : s.size ≤ 1048576) (hmb : mb < w.heap.size) (hc : w.cell? ⟨mb, 0, none⟩ = some (.int .i32 46)) {ns : List Int} (h : readN [46] s.data.toList = some ns) :
    Calls Tryd.prog 29 #[.string s, .slice (some ⟨mb, 0, none⟩) 1 1] w fun e w' => ∃ (g cap : Nat) (a b : Int), e = .returned (.tuple #[.slice (some ⟨g, 0, none⟩) 2 cap, .nilIface]) ∧ w'.cell? ⟨g, 0, none⟩ = some (.int .i64 a) ∧ w'.cell? ⟨g, 1, none⟩ = some (.int .i64 b) ∧
      Hid (ns = [b, a]) ∧ (-1 ≤ a ∧ a ≤ 255 ∧ -1 ≤ b ∧ b ≤ 255) ∧ Below w.heap.size w w' := by
  refine (read_any s [46] mb w hs (by simp) hmb (fun j hj => ?_) (fun x hx => ?_)).mono ?_
  · simp at hj; subst hj; exact hc
  · simp at hx; subst hx; decide
  · rintro e w' ⟨he, hb⟩
    unfold ReadEnd at he
    rw [h] at he
    obtain ⟨g, cap, rfl, hl, hcell, hbd⟩ := he
    match ns, hl, hcell, hbd with
    | [b, a], _, hcell, hbd =>
      have h1 := hbd a (by simp)
      have h2 := hbd b (by simp)
      exact ⟨g, cap, a, b, rfl, hcell 0 a rfl, hcell 1 b rfl, rfl, ⟨h1.1, h1.2, h2.1, h2.2⟩, hb⟩

set_option maxRecDepth 100000 in
theorem join_any (a b : Int) (w : World) (h1 : -1 ≤ a) (h2 : a ≤ 255) (h3 : -1 ≤ b) (h4 : b ≤ 255) :
    Calls Tryd.prog 30 #[.int .i64 a, .int .i64 b] w fun e w' => e = .returned (.int .i64 (a * 256 + b)) ∧ w' = w := by
  go_enter Tryd.func30, Tryd.ntmps30
  go_wp2
  go_ret
  exact ⟨rfl, rfl⟩

set_option maxRecDepth 100000 in
set_option maxHeartbeats 400000 in
theorem readAddr_no (s : ByteArray) (w : World) (hs : s.size ≤ 1048576) (h : readN [46] s.data.toList = none) :
    Calls Tryd.prog 23 #[.string s] w fun e w' => ∃ s', e = .returned (.tuple #[.int .i64 0, .iface 52 (.string s')]) ∧ Below w.heap.size w w' := by
  have hr := read_one_no s w.heap.size (w.alloc (.cells #[.int .i32 46] 21)) hs (by simp) (by simp) h
  have b0 : Below w.heap.size w (w.alloc (.cells #[.int .i32 46] 21)) := (Below.refl _ _).alloc (Nat.le_refl _) _
  clear h
  go_enter Tryd.func23, Tryd.ntmps23
  go_wp2_with (go_at_call 29; refine hr.mono ?_; rintro e w1 ⟨s', rfl, hb⟩)
  go_ret2
  exact ⟨s', rfl, below_then b0 hb⟩

set_option maxRecDepth 100000 in
set_option maxHeartbeats 400000 in
theorem readAddr_yes (s : ByteArray) (w : World) (hs : s.size ≤ 1048576) {a b : Int} (h : readN [46] s.data.toList = some [b, a]) :
    Calls Tryd.prog 23 #[.string s] w fun e w' => e = .returned (.tuple #[.int .i64 (a * 256 + b), .nilIface]) ∧ Below w.heap.size w w' := by
  have hr := read_one_yes s w.heap.size (w.alloc (.cells #[.int .i32 46] 21)) hs (by simp) (by simp) h
  have b0 : Below w.heap.size w (w.alloc (.cells #[.int .i32 46] 21)) := (Below.refl _ _).alloc (Nat.le_refl _) _
  clear h
  go_enter Tryd.func23, Tryd.ntmps23
  go_wp2_with (go_at_call 29; refine hr.mono ?_; rintro e w1 ⟨g, cap, a', b', rfl, ca, cb, he, ⟨l1, l2, l3, l4⟩, hb⟩; clear hr)
  go_quiet ((go_at_call 30; exact Calls.quiet_of_same (join_any _ _ _ l1 l2 l3 l4)))
  go_wp2
  go_ret2
  have he' := he.out
  simp only [List.cons.injEq, and_true] at he'
  refine ⟨ret_pair (by rw [he'.1, he'.2]), ?_⟩
  exact below_drewN (below_then b0 hb) _

theorem impl_no {l : List UInt8} (h : readN [46] l = none) : implAddr l = -1 := by unfold implAddr; rw [h]
theorem read_len {l : List UInt8} {ns : List Int} (h : readN [46] l = some ns) : ∃ a b, ns = [b, a] := by
  have hl := readN_len h
  match ns, hl with
  | [b, a], _ => exact ⟨a, b, rfl⟩

set_option maxRecDepth 100000 in
set_option maxHeartbeats 400000 in
theorem impl_addr (s : ByteArray) (w : World) (hs : s.size ≤ 1048576) (hv : ErrVar w) :
    Calls Tryd.prog 10 #[.string s] w fun e w' => e = .returned (.int .i64 (implAddr s.data.toList)) ∧ Below w.heap.size w w' := by
  cases h : readN [46] s.data.toList with
  | none =>
    have HI : Hid (implAddr s.data.toList = -1) := impl_no h
    have hr := readAddr_no s w hs h
    have HV : Hid (ErrVar w) := hv
    clear h hv
    go_enter Tryd.func10, Tryd.ntmps10
    go_wp2_with (first
      | (go_at_call 23; refine hr.mono ?_; rintro e w1 ⟨s', rfl, hb⟩; have HV1 : Hid (ErrVar w1) := HV.out.below hb; clear hr)
      | (go_at_call 24; refine (fault_yes _ _ HV1.out).mono ?_; rintro e w2 ⟨rfl, hb2⟩))
    go_ret
    exact ⟨ret_int HI.out.symm, below_then hb hb2⟩
  | some ns =>
    obtain ⟨a, b, rfl⟩ := read_len h
    have HI : Hid (implAddr s.data.toList = a * 256 + b) := by unfold Hid implAddr; rw [h]
    have hr := readAddr_yes s w hs h
    clear h hv
    go_enter Tryd.func10, Tryd.ntmps10
    go_wp2_with (first
      | (go_at_call 23; refine hr.mono ?_; rintro e w1 ⟨rfl, hb⟩; clear hr)
      | (go_at_call 24; refine (fault_no _).mono ?_; rintro e w2 ⟨rfl, hb2⟩))
    go_ret
    exact ⟨ret_int HI.out.symm, below_then hb hb2⟩

set_option maxRecDepth 100000 in
set_option maxHeartbeats 400000 in
/-- the law, of every text -/
theorem law_addr (s : ByteArray) (w : World) (hs0 : s.size ≤ maxLen) (hv : ErrVar w) :
    Calls Tryd.prog 4 #[.string s] w fun e w' => e = .returned (.bool true) ∧ Below w.heap.size w w' := by
  unfold maxLen at hs0
  by_cases hs : s.size ≤ 1048576
  · have HV : Hid (ErrVar w) := hv
    have HE : Hid (implAddr s.data.toList = specAddr s.data.toList) := addr_same _
    clear hv
    go_enter Tryd.func4, Tryd.ntmps4
    go_wp2_with (first
      | (go_at_call 9; refine (spec_addr s _ hs).mono ?_; rintro e w1 ⟨rfl, hb⟩; have HV1 : Hid (ErrVar w1) := HV.out.below hb)
      | (go_at_call 10; refine (impl_addr s _ hs HV1.out).mono ?_; rintro e w2 ⟨rfl, hb2⟩; rw [HE.out]))
    go_ret
    exact ⟨rfl, below_then hb hb2⟩
  · clear hv
    go_enter Tryd.func4, Tryd.ntmps4
    go_wp2_with fail
    go_ret
    exact ⟨rfl, Below.refl _ _⟩
end Go.Proofs.YtaoahghfmlegbabDoor
