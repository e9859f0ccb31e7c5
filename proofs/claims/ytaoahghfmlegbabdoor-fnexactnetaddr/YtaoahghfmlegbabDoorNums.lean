/- The contracts of the two readers of one number: the program's addFigure (one figure more) and the model's l2Num. -/
import Derived.Test.YtaoahghfmlegbabDoorBase
import Derived.Test.YtaoahghfmlegbabDoorTxt
import Derived.WalkKit
import Derived.ProofKit
import Derived.WalkSpells
import Derived.WalkLawsBesides
namespace Go.Proofs.YtaoahghfmlegbabDoor
open Go.RowKit Go.Lib Txt

set_option maxRecDepth 100000 in
set_option maxHeartbeats 400000 in
/-- addFigure where no figure can be added: a fault -/
theorem figure_no (cur c : Int) (w : World) (h0 : -1 ≤ cur) (h1 : cur ≤ 255) (h : addF cur c = none) :
    Calls Tryd.prog 35 #[.int .i64 cur, .int .i32 c] w fun e w' => (∃ s, e = .returned (.tuple #[.int .i64 0, .iface 52 (.string s)])) ∧ w' = w := by
  by_cases hc : c < 48
  · clear h
    go_enter Tryd.func35, Tryd.ntmps35
    go_wp2
    go_ret2
    exact ⟨⟨_, rfl⟩, rfl⟩
  by_cases hc2 : 57 < c
  · clear h
    have hd : decide (c < 48) = false := by simpa using hc
    go_enter Tryd.func35, Tryd.ntmps35
    go_wp2
    go_ret2
    exact ⟨⟨_, rfl⟩, rfl⟩
  have hn : ¬ (c < 48 ∨ 57 < c) := by omega
  by_cases e1 : cur = -1
  · subst e1; rw [addF_first hn] at h; cases h
  by_cases e2 : cur = 0
  · subst e2; clear h
    have hd : decide (c < 48) = false := by simpa using hc
    have hd2 : decide (57 < c) = false := by simpa using hc2
    go_enter Tryd.func35, Tryd.ntmps35
    go_wp2
    go_ret2
    exact ⟨⟨_, rfl⟩, rfl⟩
  have hbig : 256 ≤ cur * 10 + (c - 48) := by
    rw [addF_more (by omega) hn] at h
    by_cases hh : 256 ≤ cur * 10 + (c - 48)
    · exact hh
    · rw [if_neg hh] at h; cases h
  clear h
  have hcp : 1 ≤ cur := by omega
  have hd : decide (c < 48) = false := by simpa using hc
  have hd2 : decide (57 < c) = false := by simpa using hc2
  go_enter Tryd.func35, Tryd.ntmps35
  go_wp2
  go_ret2
  exact ⟨⟨_, rfl⟩, rfl⟩

set_option maxRecDepth 100000 in
set_option maxHeartbeats 400000 in
/-- addFigure where one can be added -/
theorem figure_yes (cur c v : Int) (w : World) (h0 : -1 ≤ cur) (h1 : cur ≤ 255) (h : addF cur c = some v) :
    Calls Tryd.prog 35 #[.int .i64 cur, .int .i32 c] w fun e w' => e = .returned (.tuple #[.int .i64 v, .nilIface]) ∧ w' = w := by
  by_cases hc : c < 48 ∨ 57 < c
  · rw [addF_no hc] at h; cases h
  have hc1 : ¬ c < 48 := by omega
  have hc2 : ¬ 57 < c := by omega
  have hd : decide (c < 48) = false := by simpa using hc1
  have hd2 : decide (57 < c) = false := by simpa using hc2
  by_cases e1 : cur = -1
  · subst e1; rw [addF_first hc] at h
    have hv : c - 48 = v := Option.some.inj h
    have HV : Hid (c - 48 = v) := hv
    clear h hv hc
    go_enter Tryd.func35, Tryd.ntmps35
    go_wp2
    go_ret2
    exact ⟨ret_pair HV.out, rfl⟩
  by_cases e2 : cur = 0
  · subst e2; rw [addF_zero] at h; cases h
  have hcp : 1 ≤ cur := by omega
  rw [addF_more hcp hc] at h
  by_cases hh : 256 ≤ cur * 10 + (c - 48)
  · rw [if_pos hh] at h; cases h
  rw [if_neg hh] at h
  have HV : Hid (cur * 10 + (c - 48) = v) := Option.some.inj h
  clear h hc
  go_enter Tryd.func35, Tryd.ntmps35
  go_wp2
  go_ret2
  exact ⟨ret_pair HV.out, rfl⟩

theorem valFrom_snoc (l : List UInt8) (c : UInt8) : valFrom 0 (l ++ [c]) = valFrom 0 l * 10 + ((c.toNat : Int) - 48) := by simp [valFrom]
theorem digs_snoc (l : List UInt8) (c : UInt8) (h : digs l = true) (h1 : 48 ≤ (c.toNat : Int)) (h2 : (c.toNat : Int) ≤ 57) : digs (l ++ [c]) = true := by
  unfold digs at h ⊢
  rw [List.all_append, h]
  simp
  omega
theorem digs_take_no (s : ByteArray) (k : Nat) (h : k < s.size) (hc : ((s[k]).toNat : Int) < 48 ∨ 57 < ((s[k]).toNat : Int)) : digs s.data.toList = false := by
  unfold digs
  rw [List.all_eq_false]
  exact ⟨s[k], List.getElem_mem (l := s.data.toList) (n := k) (by simpa using h), by simp; omega⟩
theorem valFrom_bd : ∀ (l : List UInt8), digs l = true → 0 ≤ valFrom 0 l ∧ valFrom 0 l < 10 ^ l.length := by
  intro l h
  have key : ∀ (l : List UInt8) (cur : Int), 0 ≤ cur → digs l = true → 0 ≤ valFrom cur l ∧ valFrom cur l < (cur + 1) * 10 ^ l.length := by
    intro l
    induction l with
    | nil => intro cur h _; simp [valFrom]; omega
    | cons c l ih =>
      intro cur h hd
      simp only [digs, List.all_cons, Bool.and_eq_true, decide_eq_true_eq] at hd
      have := ih (cur * 10 + ((c.toNat : Int) - 48)) (by omega) hd.2
      have e : valFrom cur (c :: l) = valFrom (cur * 10 + ((c.toNat : Int) - 48)) l := rfl
      rw [e]
      refine ⟨this.1, Int.lt_of_lt_of_le this.2 ?_⟩
      rw [List.length_cons, Int.pow_succ, Int.mul_comm (10 ^ l.length) 10, ← Int.mul_assoc]
      exact Int.mul_le_mul_of_nonneg_right (by omega) (Int.pow_nonneg (by decide))
  have := key l 0 (by decide) h
  simpa using this

theorem val_take (s : ByteArray) (k : Nat) (h5 : s.size ≤ 5) (hd : digs (s.data.toList.take k) = true) : 0 ≤ valFrom 0 (s.data.toList.take k) ∧ valFrom 0 (s.data.toList.take k) < 100000 := by
  have h := valFrom_bd _ hd
  have hl : (s.data.toList.take k).length ≤ 5 := by
    have : s.data.toList.length = s.size := by simp
    simp only [List.length_take]; omega
  have p : (10 : Int) ^ (s.data.toList.take k).length ≤ 10 ^ 5 := by
    exact_mod_cast Nat.pow_le_pow_right (by decide) hl
  exact ⟨h.1, by have q : (10 : Int) ^ 5 = 100000 := by decide
                 omega⟩
theorem head_eq (s : ByteArray) (hp : 0 < s.size) : s.data.toList.head? = some s[0] := by
  rw [List.head?_eq_getElem?]
  exact List.getElem?_eq_getElem (by simpa using hp)

set_option maxRecDepth 100000 in
set_option maxHeartbeats 400000 in
theorem num_loop (s : ByteArray) (w : World) (h1 : 1 ≤ s.size) (h5 : s.size ≤ 5) (hz : ¬ (1 < s.size ∧ s.data.toList.head? = some 48)) :
    Calls Tryd.prog 22 #[.string s] w fun e w' => e = .returned (.int .i64 (num5 s.data.toList)) ∧ w' = w := by
  have hIn : inB (s.size : Int) 1 5 = true := inB_yes (by omega)
  have HN : Hid (num5 s.data.toList = if digs s.data.toList then valFrom 0 s.data.toList else -1) := by
    unfold Hid num5
    rw [if_neg]
    rw [len_eq]
    intro h
    rcases h with h | h | h
    · omega
    · omega
    · exact hz h
  have hp : 0 < s.size := by omega
  have hf : 1 < s.size → (((s[0]'hp).toNat : Int) == 48) = false := by
    intro h
    rw [beq_eq_false_iff_ne]
    intro e
    apply hz
    refine ⟨h, ?_⟩
    rw [head_eq s hp]
    congr 1
    apply UInt8.toNat_inj.1
    have : (48 : UInt8).toNat = 48 := rfl
    omega
  clear hz
  by_cases hone : 1 < s.size
  · have hf := hf hone
    go_enter Tryd.func22, Tryd.ntmps22
    go_wp2_with (go_at_call 17; refine (in_any _ _ _ _).mono ?_; rintro e w' ⟨rfl, rfl⟩)
    clear hf
    go_loop [3, 4] (fun n i => ∃ k : Nat, k ≤ s.size ∧ i = .int .i64 k ∧ Hid (digs (s.data.toList.take k) = true) ∧ n = .int .i64 (valFrom 0 (s.data.toList.take k))) (fun _ i => s.size - (intOf i).toNat)
    case atStart => exact ⟨0, Nat.zero_le _, rfl, rfl, rfl⟩
    case round =>
      obtain ⟨k, hk, rfl, hd, rfl⟩ := hrel
      have hb := val_take s k h5 hd.out
      by_cases hlt : k < s.size
      · by_cases hc : ((s[k].toNat : Nat) : Int) < 48 ∨ 57 < ((s[k].toNat : Nat) : Int)
        · have hno := digs_take_no s k hlt hc
          have HF : Hid (digs s.data.toList = false) := hno
          clear hno
          rcases hc with hc | hc
          all_goals
            go_wp2
            go_ret
            exact ⟨ret_int (by rw [HN.out, HF.out]; rfl), rfl⟩
        · have hc1 : ¬ ((s[k].toNat : Nat) : Int) < 48 := by omega
          have hc2 : ¬ 57 < ((s[k].toNat : Nat) : Int) := by omega
          have hsn : Hid (valFrom 0 (s.data.toList.take (k + 1)) = valFrom 0 (s.data.toList.take k) * 10 + ((s[k].toNat : Int) - 48)) := by
            unfold Hid; rw [take_snoc s k hlt, valFrom_snoc]
          have hds : Hid (digs (s.data.toList.take (k + 1)) = true) := by
            unfold Hid; rw [take_snoc s k hlt]; exact digs_snoc _ _ hd.out (by omega) (by omega)
          clear hc
          go_wp2
          go_round
          case rel => exact ⟨k + 1, by omega, by go_num, hds, by rw [hsn.out]⟩
          case measure => simp [intOf]; omega
      · go_wp2
        go_ret
        have hall : s.data.toList.take k = s.data.toList := List.take_of_length_le (by simp; omega)
        rw [hall] at hd ⊢
        exact ⟨ret_int (by rw [HN.out, hd.out]; rfl), rfl⟩
  · have hd1 : decide (1 < (s.size : Int)) = false := decide_eq_false (by omega)
    go_enter Tryd.func22, Tryd.ntmps22
    go_wp2_with (go_at_call 17; refine (in_any _ _ _ _).mono ?_; rintro e w' ⟨rfl, rfl⟩)
    clear hf
    go_loop [3, 4] (fun n i => ∃ k : Nat, k ≤ s.size ∧ i = .int .i64 k ∧ Hid (digs (s.data.toList.take k) = true) ∧ n = .int .i64 (valFrom 0 (s.data.toList.take k))) (fun _ i => s.size - (intOf i).toNat)
    case atStart => exact ⟨0, Nat.zero_le _, rfl, rfl, rfl⟩
    case round =>
      obtain ⟨k, hk, rfl, hd, rfl⟩ := hrel
      have hb := val_take s k h5 hd.out
      by_cases hlt : k < s.size
      · by_cases hc : ((s[k].toNat : Nat) : Int) < 48 ∨ 57 < ((s[k].toNat : Nat) : Int)
        · have hno := digs_take_no s k hlt hc
          have HF : Hid (digs s.data.toList = false) := hno
          clear hno
          rcases hc with hc | hc
          all_goals
            go_wp2
            go_ret
            exact ⟨ret_int (by rw [HN.out, HF.out]; rfl), rfl⟩
        · have hc1 : ¬ ((s[k].toNat : Nat) : Int) < 48 := by omega
          have hc2 : ¬ 57 < ((s[k].toNat : Nat) : Int) := by omega
          have hsn : Hid (valFrom 0 (s.data.toList.take (k + 1)) = valFrom 0 (s.data.toList.take k) * 10 + ((s[k].toNat : Int) - 48)) := by
            unfold Hid; rw [take_snoc s k hlt, valFrom_snoc]
          have hds : Hid (digs (s.data.toList.take (k + 1)) = true) := by
            unfold Hid; rw [take_snoc s k hlt]; exact digs_snoc _ _ hd.out (by omega) (by omega)
          clear hc
          go_wp2
          go_round
          case rel => exact ⟨k + 1, by omega, by go_num, hds, by rw [hsn.out]⟩
          case measure => simp [intOf]; omega
      · go_wp2
        go_ret
        have hall : s.data.toList.take k = s.data.toList := List.take_of_length_le (by simp; omega)
        rw [hall] at hd ⊢
        exact ⟨ret_int (by rw [HN.out, hd.out]; rfl), rfl⟩

set_option maxRecDepth 100000 in
set_option maxHeartbeats 400000 in
theorem num_no (s : ByteArray) (w : World) (hs : s.size ≤ 1048576) (h : s.size < 1 ∨ 5 < s.size) :
    Calls Tryd.prog 22 #[.string s] w fun e w' => e = .returned (.int .i64 (num5 s.data.toList)) ∧ w' = w := by
  have hIn : inB (s.size : Int) 1 5 = false := inB_no (by omega)
  have HN : Hid (num5 s.data.toList = -1) := by
    unfold Hid num5
    rw [if_pos]
    rw [len_eq]
    omega
  clear h
  go_enter Tryd.func22, Tryd.ntmps22
  go_wp2_with (go_at_call 17; refine (in_any _ _ _ _).mono ?_; rintro e w' ⟨rfl, rfl⟩)
  go_ret
  exact ⟨ret_int HN.out.symm, rfl⟩

set_option maxRecDepth 100000 in
set_option maxHeartbeats 400000 in
theorem num_nought (s : ByteArray) (w : World) (h5 : s.size ≤ 5) (h : 1 < s.size ∧ s.data.toList.head? = some 48) :
    Calls Tryd.prog 22 #[.string s] w fun e w' => e = .returned (.int .i64 (num5 s.data.toList)) ∧ w' = w := by
  have h1 := h.1
  have hp : 0 < s.size := by omega
  have hIn : inB (s.size : Int) 1 5 = true := inB_yes (by omega)
  have HN : Hid (num5 s.data.toList = -1) := by
    unfold Hid num5
    rw [if_pos]
    rw [len_eq]
    exact .inr (.inr h)
  have hf : (((s[0]'hp).toNat : Int) == 48) = true := by
    have e := h.2
    rw [head_eq s hp] at e
    rw [Option.some.inj e]
    rfl
  clear h
  go_enter Tryd.func22, Tryd.ntmps22
  go_wp2_with (go_at_call 17; refine (in_any _ _ _ _).mono ?_; rintro e w' ⟨rfl, rfl⟩)
  go_ret
  exact ⟨ret_int HN.out.symm, rfl⟩

/-- spec.l2Num of every text -/
theorem num_any (s : ByteArray) (w : World) (hs : s.size ≤ 1048576) :
    Calls Tryd.prog 22 #[.string s] w fun e w' => e = .returned (.int .i64 (num5 s.data.toList)) ∧ w' = w := by
  by_cases h : s.size < 1 ∨ 5 < s.size
  · exact num_no s w hs h
  · by_cases hz : 1 < s.size ∧ s.data.toList.head? = some 48
    · exact num_nought s w (by omega) hz
    · exact num_loop s w (by omega) (by omega) hz
end Go.Proofs.YtaoahghfmlegbabDoor
