/- The contracts of both NetParse (the program's and the model's) and of the law that holds them against each other. -/
import Derived.Test.YtaoahghfmlegbabDoorTxt2
import Derived.Test.YtaoahghfmlegbabDoorRead
import Derived.Test.YtaoahghfmlegbabDoorAs
import Derived.Test.YtaoahghfmlegbabDoorI1
import Derived.Deep.RegionHeld3
import Derived.Deep.DeepCutAuto
namespace Go.Proofs.YtaoahghfmlegbabDoor
open Go.RowKit Go.Lib Txt

theorem specP_other {l : List UInt8} (h : (cutR 47 l).length ≠ 2) : specParse okP l = none := by
  unfold specParse
  split
  · rename_i e; rw [e] at h; simp at h
  · rfl
theorem specP_two {l x y : List UInt8} (h : cutR 47 l = [y, x]) : specParse okP l = if okP (specAddr x) (num5 y) = true then some (specAddr x, num5 y) else none := by
  unfold specParse
  rw [h]

/-- what a reader of prefixes hands back -/
def prsVal : Option (Int × Int) → Value
  | none => .tuple #[.agg #[.int .i64 0, .int .i64 0], .bool false]
  | some (a, l) => .tuple #[.agg #[.int .i64 a, .int .i64 l], .bool true]

set_option maxRecDepth 100000 in
set_option maxHeartbeats 400000 in
theorem spec_parse_other (s : ByteArray) (w : World) (hs : s.size ≤ 1048576) (h : (cutR 47 s.data.toList).length ≠ 2) :
    Calls Tryd.prog 14 #[.string s] w fun e w' => e = .returned (prsVal (specParse okP s.data.toList)) ∧ Below w.heap.size w w' := by
  have HS : Hid (prsVal (specParse okP s.data.toList) = .tuple #[.agg #[.int .i64 0, .int .i64 0], .bool false]) := by unfold Hid; rw [specP_other h]; rfl
  have hcut := fun w => cut_other s 47 w hs h
  have e47 : (((47 : UInt8).toNat : Nat) : Int) = 47 := rfl
  rw [e47] at hcut
  have b0 : Below w.heap.size w (w.alloc (.cells #[.int .i64 0, .int .i64 0] 29)) := (Below.refl _ _).more _
  clear h e47
  go_enter Tryd.func14, Tryd.ntmps14
  go_wp2_with (go_at_call 21; refine (hcut _).mono ?_; rintro e w1 ⟨a, n, cap, rfl, hn, hb⟩; obtain ⟨hc, hf⟩ := bcell hb)
  refine bodyPost_ret (v := .tuple #[.agg #[.int .i64 0, .int .i64 0], .bool false]) (by simp [results, Tryd.results14, go_sem, hc]) rfl ⟨by rw [HS.out], ?_⟩
  repeat (refine Below.setCell ?_ (by first | (simp; done) | (simp; omega) | omega) _)
  exact below_then b0 hb

set_option maxRecDepth 100000 in
set_option maxHeartbeats 400000 in
theorem spec_parse_two (s : ByteArray) (w : World) (hs : s.size ≤ 1048576) {x y : List UInt8} (h : cutR 47 s.data.toList = [y, x]) :
    Calls Tryd.prog 14 #[.string s] w fun e w' => e = .returned (prsVal (specParse okP s.data.toList)) ∧ Below w.heap.size w w' := by
  have HS : Hid (specParse okP s.data.toList = if okP (specAddr x) (num5 y) = true then some (specAddr x, num5 y) else none) := specP_two h
  have hcut := fun w => cut_two s 47 w hs h
  have e47 : (((47 : UInt8).toNat : Nat) : Int) = 47 := rfl
  rw [e47] at hcut
  have b0 : Below w.heap.size w (w.alloc (.cells #[.int .i64 0, .int .i64 0] 29)) := (Below.refl _ _).more _
  obtain ⟨p, hp⟩ : ∃ p, p = specAddr x := ⟨_, rfl⟩
  obtain ⟨q, hq⟩ : ∃ q, q = num5 y := ⟨_, rfl⟩
  rw [← hp, ← hq] at HS
  have HP : Hid (p = specAddr x) := hp
  have HQ : Hid (q = num5 y) := hq
  clear h e47 hp hq
  go_enter Tryd.func14, Tryd.ntmps14
  go_wp2_with (go_at_call 21; refine (hcut _).mono ?_; rintro e w1 ⟨g, cap, a, b, rfl, ca, cb, ha, hb2, hb, za, zb⟩; obtain ⟨hc, hf⟩ := bcell hb)
  have hB : w.heap.size < w1.heap.size := by have := hb.size; simp at this; omega
  have r1 : w1.cell? ⟨w.heap.size, 0, none⟩ = some (.int .i64 0) := by rw [hc _ _ (by simp)]; simp
  have r2 : w1.cell? ⟨w.heap.size, 1, none⟩ = some (.int .i64 0) := by rw [hc _ _ (by simp)]; simp
  have r3 : w1.frozen? ⟨w.heap.size, 0, none⟩ = false := by rw [hf _ _ (by simp)]; simp
  have r4 : w1.frozen? ⟨w.heap.size, 1, none⟩ = false := by rw [hf _ _ (by simp)]; simp
  have B1 : Hid (Below w.heap.size w w1) := below_then b0 hb
  have hg := cell_lt ca
  clear hc hf hcut hb b0
  go_cut [5] (fun v W => ∃ K, v = .pointer (some ⟨K, 0, none⟩) ∧ Boxed2 w1 K p q W)
  case first =>
    go_region_held3 (fun w' => w'.cell? ⟨g, 0, none⟩ = some (.string a) ∧ w'.cell? ⟨g, 1, none⟩ = some (.string b) ∧ Below w1.heap.size w1 w') (first | exact ss_of ca cb hg (Below.refl _ _).drew | assumption | exact ss_of ca cb hg (below_then (Below.refl _ _).drew hb3) | exact ss_of ca cb hg ((below_then (Below.refl _ _).drew hb3).more _) | exact ss_of ca cb hg ((Below.refl _ _).drew.more _) | exact ss_of ca cb hg (below_then ((Below.refl _ _).drew.more _) hb3) | exact ss_of ca cb hg (((below_then ((Below.refl _ _).drew.more _) hb3).setCell (by simp) _).setCell (by simp) _)) (first
      | (go_at_call 9; refine (spec_addr a _ za).mono ?_; rintro e w2 ⟨rfl, hb3⟩; rw [ha.out, ← HP.out]; obtain ⟨hc3, hf3⟩ := bcell hb3)
      | (go_at_call 22; refine (num_any b _ zb).mono ?_; rintro e w3 ⟨rfl, rfl⟩; rw [hb2.out, ← HQ.out]))
    all_goals
      go_wp2_with fail
      go_meet
      case rel => first | exact ⟨_, rfl, box_new hb3 _ _ _⟩ | exact ⟨_, rfl, box_set hb3 _ _⟩
  case rest =>
    obtain ⟨K, rfl, hbox⟩ := hcut
    have H1 := hbox.1
    have H2 := hbox.2.1
    have HK : w1.heap.size ≤ K := hbox.2.2.1
    have HKl : K < wc.heap.size := hbox.2.2.2.1
    have HBx := hbox.2.2.2.2
    have e1 : wc.cell? ⟨w.heap.size, 0, none⟩ = some (.int .i64 0) := by rw [HBx.cell (p := ⟨w.heap.size, 0, none⟩) hB]; exact r1
    have e2 : wc.cell? ⟨w.heap.size, 1, none⟩ = some (.int .i64 0) := by rw [HBx.cell (p := ⟨w.heap.size, 1, none⟩) hB]; exact r2
    have e3 : wc.frozen? ⟨w.heap.size, 0, none⟩ = false := by rw [HBx.frozen (p := ⟨w.heap.size, 0, none⟩) hB]; exact r3
    have e4 : wc.frozen? ⟨w.heap.size, 1, none⟩ = false := by rw [HBx.frozen (p := ⟨w.heap.size, 1, none⟩) hB]; exact r4
    have hBc : w.heap.size < wc.heap.size := Nat.lt_of_lt_of_le hB HBx.size
    have B2 : Hid (Below w.heap.size w wc) := below_then B1.out HBx
    clear hbox HBx r1 r2 r3 r4 B1 ca cb hg hB
    cases ho : okP p q with
    | true =>
      have HV : Hid (prsVal (specParse okP s.data.toList) = .tuple #[.agg #[.int .i64 p, .int .i64 q], .bool true]) := by unfold Hid; rw [HS.out, if_pos ho]; rfl
      go_wp2_with (go_at_call 25; refine (ok_any _ _ _).mono ?_; rintro e w4 ⟨rfl, hb4⟩; obtain ⟨hc4, hf4⟩ := bcell hb4)
      refine bodyPost_ret (v := .tuple #[.agg #[.int .i64 p, .int .i64 q], .bool true]) (by simp [results, Tryd.results14, go_sem, *]) rfl ⟨by rw [HV.out], ?_⟩
      repeat (refine Below.setCell ?_ (by first | (simp; done) | (simp; omega) | omega) _)
      exact below_then B2.out hb4
    | false =>
      have HV : Hid (prsVal (specParse okP s.data.toList) = .tuple #[.agg #[.int .i64 0, .int .i64 0], .bool false]) := by unfold Hid; rw [HS.out, if_neg (by simp [ho])]; rfl
      go_wp2_with (go_at_call 25; refine (ok_any _ _ _).mono ?_; rintro e w4 ⟨rfl, hb4⟩; obtain ⟨hc4, hf4⟩ := bcell hb4)
      refine bodyPost_ret (v := .tuple #[.agg #[.int .i64 0, .int .i64 0], .bool false]) (by simp [results, Tryd.results14, go_sem, *]) rfl ⟨by rw [HV.out], ?_⟩
      repeat (refine Below.setCell ?_ (by first | (simp; done) | (simp; omega) | omega) _)
      exact below_then B2.out hb4

/-- spec.NetParse of every text -/
theorem spec_parse (s : ByteArray) (w : World) (hs : s.size ≤ 1048576) :
    Calls Tryd.prog 14 #[.string s] w fun e w' => e = .returned (prsVal (specParse okP s.data.toList)) ∧ Below w.heap.size w w' := by
  match h : cutR 47 s.data.toList with
  | [] => exact spec_parse_other s w hs (by rw [h]; simp)
  | [_] => exact spec_parse_other s w hs (by rw [h]; simp)
  | [y, x] => exact spec_parse_two s w hs h
  | _ :: _ :: _ :: _ => exact spec_parse_other s w hs (by rw [h]; simp)

theorem read_two_no (s : ByteArray) (mb : Nat) (w : World) (hs : s.size ≤ 1048576) (hmb : mb < w.heap.size) (hc : w.cell? ⟨mb, 0, none⟩ = some (.int .i32 46)) (hc1 : w.cell? ⟨mb, 1, none⟩ = some (.int .i32 47)) (h : readN [46, 47] s.data.toList = none) :
    Calls Tryd.prog 29 #[.string s, .slice (some ⟨mb, 0, none⟩) 2 2] w fun e w' => ∃ s', e = .returned (.tuple #[.slice none 0 0, .iface 52 (.string s')]) ∧ Below w.heap.size w w' := by
  refine (read_any s [46, 47] mb w hs (by simp) hmb (fun j hj => ?_) (fun x hx => ?_)).mono ?_
  · have : j = 0 ∨ j = 1 := by simp at hj; omega
    rcases this with rfl | rfl
    · exact hc
    · exact hc1
  · simp at hx; rcases hx with rfl | rfl <;> decide
  · rintro e w' ⟨he, hb⟩
    unfold ReadEnd at he
    rw [h] at he
    obtain ⟨s', rfl⟩ := he
    exact ⟨s', rfl, hb⟩
theorem read_two_yes (s : ByteArray) (mb : Nat) (w : World) (hs : s.size ≤ 1048576) (hmb : mb < w.heap.size) (hc : w.cell? ⟨mb, 0, none⟩ = some (.int .i32 46)) (hc1 : w.cell? ⟨mb, 1, none⟩ = some (.int .i32 47)) {a b c : Int} (h : readN [46, 47] s.data.toList = some [c, b, a]) :
    Calls Tryd.prog 29 #[.string s, .slice (some ⟨mb, 0, none⟩) 2 2] w fun e w' => ∃ (g cap : Nat), e = .returned (.tuple #[.slice (some ⟨g, 0, none⟩) 3 cap, .nilIface]) ∧ w'.cell? ⟨g, 0, none⟩ = some (.int .i64 a) ∧ w'.cell? ⟨g, 1, none⟩ = some (.int .i64 b) ∧ w'.cell? ⟨g, 2, none⟩ = some (.int .i64 c) ∧
      (-1 ≤ a ∧ a ≤ 255 ∧ -1 ≤ b ∧ b ≤ 255) ∧ Below w.heap.size w w' := by
  refine (read_any s [46, 47] mb w hs (by simp) hmb (fun j hj => ?_) (fun x hx => ?_)).mono ?_
  · have : j = 0 ∨ j = 1 := by simp at hj; omega
    rcases this with rfl | rfl
    · exact hc
    · exact hc1
  · simp at hx; rcases hx with rfl | rfl <;> decide
  · rintro e w' ⟨he, hb⟩
    unfold ReadEnd at he
    rw [h] at he
    obtain ⟨g, cap, rfl, hl, hcell, hbd⟩ := he
    have h1 := hbd a (by simp)
    have h2 := hbd b (by simp)
    exact ⟨g, cap, rfl, hcell 0 a rfl, hcell 1 b rfl, hcell 2 c rfl, ⟨h1.1, h1.2, h2.1, h2.2⟩, hb⟩

/-- how readPrefix ends -/
def PrsEnd (o : Option (Int × Int)) (e : Ending) : Prop :=
  match o with
  | none => ∃ s', e = .returned (.tuple #[.agg #[.int .i64 0, .int .i64 0], .iface 52 (.string s')])
  | some (a, l) => e = .returned (.tuple #[.agg #[.int .i64 a, .int .i64 l], .nilIface])
theorem implP_none {l : List UInt8} (h : readN [46, 47] l = none) : implParse okP l = none := by unfold implParse; rw [h]
theorem implP_some {l : List UInt8} {a b c : Int} (h : readN [46, 47] l = some [c, b, a]) : implParse okP l = if okP (a * 256 + b) c = true then some (a * 256 + b, c) else none := by unfold implParse; rw [h]

set_option maxRecDepth 100000 in
set_option maxHeartbeats 400000 in
theorem readPrefix_no (s : ByteArray) (w : World) (hs : s.size ≤ 1048576) (h : readN [46, 47] s.data.toList = none) :
    Calls Tryd.prog 27 #[.string s] w fun e w' => PrsEnd (implParse okP s.data.toList) e ∧ Below w.heap.size w w' := by
  have HS : Hid (implParse okP s.data.toList = none) := implP_none h
  have hr := read_two_no s (w.heap.size + 1) ((w.alloc (.cells #[.int .i64 0, .int .i64 0] 29)).alloc (.cells #[.int .i32 46, .int .i32 47] 21)) hs (by simp) (by simp) (by simp) h
  have b0 : Below w.heap.size w ((w.alloc (.cells #[.int .i64 0, .int .i64 0] 29)).alloc (.cells #[.int .i32 46, .int .i32 47] 21)) := ((Below.refl _ _).more _).more _
  clear h
  go_enter Tryd.func27, Tryd.ntmps27
  go_wp2_with (go_at_call 29; refine hr.mono ?_; rintro e w1 ⟨s', rfl, hb⟩; obtain ⟨r1, r2, r3, r4, r5⟩ := old_box hb)
  refine bodyPost_ret (v := .tuple #[.agg #[.int .i64 0, .int .i64 0], .iface 52 (.string s')]) (by simp [results, Tryd.results27, go_sem, *]) rfl ⟨by rw [HS.out]; exact ⟨s', rfl⟩, ?_⟩
  repeat (refine Below.setCell ?_ (by first | (simp; done) | (simp; omega) | omega) _)
  exact below_then b0 hb

set_option maxRecDepth 100000 in
theorem join2_any (a b : Int) (w : World) (h1 : -1 ≤ a) (h2 : a ≤ 255) (h3 : -1 ≤ b) (h4 : b ≤ 255) :
    Calls Tryd.prog 30 #[.int .i64 a, .int .i64 b] w fun e w' => e = .returned (.int .i64 (a * 256 + b)) ∧ w' = w := by
  go_enter Tryd.func30, Tryd.ntmps30
  go_wp2
  go_ret
  exact ⟨rfl, rfl⟩

set_option maxRecDepth 100000 in
set_option maxHeartbeats 400000 in
theorem readPrefix_yes (s : ByteArray) (w : World) (hs : s.size ≤ 1048576) {a b c : Int} (h : readN [46, 47] s.data.toList = some [c, b, a]) :
    Calls Tryd.prog 27 #[.string s] w fun e w' => PrsEnd (implParse okP s.data.toList) e ∧ Below w.heap.size w w' := by
  have HS : Hid (implParse okP s.data.toList = if okP (a * 256 + b) c = true then some (a * 256 + b, c) else none) := implP_some h
  have hr := read_two_yes s (w.heap.size + 1) ((w.alloc (.cells #[.int .i64 0, .int .i64 0] 29)).alloc (.cells #[.int .i32 46, .int .i32 47] 21)) hs (by simp) (by simp) (by simp) h
  have b0 : Below w.heap.size w ((w.alloc (.cells #[.int .i64 0, .int .i64 0] 29)).alloc (.cells #[.int .i32 46, .int .i32 47] 21)) := ((Below.refl _ _).more _).more _
  clear h
  go_enter Tryd.func27, Tryd.ntmps27
  go_wp2_with (go_at_call 29; refine hr.mono ?_; rintro e w1 ⟨g, cap, rfl, c0, c1, c2, ⟨l1, l2, l3, l4⟩, hb⟩; obtain ⟨r1, r2, r3, r4, hB⟩ := old_box hb)
  have B1 : Hid (Below w.heap.size w w1) := below_then b0 hb
  have hg := cell_lt c0
  clear hr hb b0
  go_cut [6] (fun v W => ∃ K, v = .pointer (some ⟨K, 0, none⟩) ∧ Boxed2 w1 K (a * 256 + b) c W)
  case first =>
    go_region_held3 (fun w' => w'.cell? ⟨g, 0, none⟩ = some (.int .i64 a) ∧ w'.cell? ⟨g, 1, none⟩ = some (.int .i64 b) ∧ w'.cell? ⟨g, 2, none⟩ = some (.int .i64 c)) (first | assumption | (go_keep; done)) (first
      | (go_at_call 30; refine (join2_any _ _ _ l1 l2 l3 l4).mono ?_; rintro e w3 ⟨rfl, rfl⟩))
    all_goals
      go_wp2_with fail
      go_meet
      case rel => exact ⟨_, rfl, box_here _ _ _ _⟩
  case rest =>
    obtain ⟨K, rfl, hbox⟩ := hcut
    have H1 := hbox.1
    have H2 := hbox.2.1
    have HK : w1.heap.size ≤ K := hbox.2.2.1
    have HKl : K < wc.heap.size := hbox.2.2.2.1
    have HBx := hbox.2.2.2.2
    have e1 : wc.cell? ⟨w.heap.size, 0, none⟩ = some (.int .i64 0) := by rw [HBx.cell (p := ⟨w.heap.size, 0, none⟩) hB]; exact r1
    have e2 : wc.cell? ⟨w.heap.size, 1, none⟩ = some (.int .i64 0) := by rw [HBx.cell (p := ⟨w.heap.size, 1, none⟩) hB]; exact r2
    have e3 : wc.frozen? ⟨w.heap.size, 0, none⟩ = false := by rw [HBx.frozen (p := ⟨w.heap.size, 0, none⟩) hB]; exact r3
    have e4 : wc.frozen? ⟨w.heap.size, 1, none⟩ = false := by rw [HBx.frozen (p := ⟨w.heap.size, 1, none⟩) hB]; exact r4
    have hBc : w.heap.size < wc.heap.size := Nat.lt_of_lt_of_le hB HBx.size
    have B2 : Hid (Below w.heap.size w wc) := below_then B1.out HBx
    obtain ⟨p, hp⟩ : ∃ p, p = a * 256 + b := ⟨_, rfl⟩
    rw [← hp] at H1 HS
    clear hbox HBx r1 r2 r3 r4 B1 c0 c1 c2 hg hB hp
    cases ho : okP p c with
    | true =>
      have HV : Hid (implParse okP s.data.toList = some (p, c)) := by unfold Hid; rw [HS.out, if_pos ho]
      go_wp2_with (go_at_call 26; refine (iok_any _ _ _).mono ?_; rintro e w4 ⟨rfl, hb4⟩; obtain ⟨hc4, hf4⟩ := bcell hb4)
      refine bodyPost_ret (v := .tuple #[.agg #[.int .i64 p, .int .i64 c], .nilIface]) (by simp [results, Tryd.results27, go_sem, *]) rfl ⟨by rw [HV.out]; rfl, ?_⟩
      repeat (refine Below.setCell ?_ (by first | (simp; done) | (simp; omega) | omega) _)
      exact below_then B2.out hb4
    | false =>
      have HV : Hid (implParse okP s.data.toList = none) := by unfold Hid; rw [HS.out, if_neg (by simp [ho])]
      go_wp2_with (go_at_call 26; refine (iok_any _ _ _).mono ?_; rintro e w4 ⟨rfl, hb4⟩; obtain ⟨hc4, hf4⟩ := bcell hb4)
      refine bodyPost_ret (v := .tuple #[.agg #[.int .i64 0, .int .i64 0], .iface 52 (.string ⟨#[97, 32, 112, 114, 101, 102, 105, 120, 32, 116, 104, 97, 116, 32, 105, 115, 32, 110, 111, 116, 32, 111, 107]⟩)]) (by simp [results, Tryd.results27, go_sem, *]) rfl ⟨by rw [HV.out]; exact ⟨_, rfl⟩, ?_⟩
      repeat (refine Below.setCell ?_ (by first | (simp; done) | (simp; omega) | omega) _)
      exact below_then B2.out hb4
end Go.Proofs.YtaoahghfmlegbabDoor
