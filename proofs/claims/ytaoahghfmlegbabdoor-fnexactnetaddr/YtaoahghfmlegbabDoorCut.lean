/- The contract of the model's l2Cut: a text cut at a byte. -/
import Derived.Test.YtaoahghfmlegbabDoorNums
import Derived.OwnWalk
import Derived.Lib.Strings
import Derived.Deep.RegionWith
namespace Go.Proofs.YtaoahghfmlegbabDoor
open Go.RowKit Go.Lib Txt

theorem infoStr : (Tryd.prog.info? 9).map (fun i => (i.zero, i.size, i.bytes)) = some (some (.string ⟨#[]⟩), 1, 16) := by kernel_rfl

theorem ext_snoc (s : ByteArray) (a k : Nat) (h : k < s.size) (ha : a ≤ k) : (s.extract a (k + 1)).data.toList = (s.extract a k).data.toList ++ [s[k]] := by
  rw [extract_data, extract_data]
  have e : k + 1 - a = (k - a) + 1 := by omega
  have hl : s.data.toList.length = s.size := by simp
  rw [e, List.take_succ_eq_append_getElem (by rw [List.length_drop]; omega), List.getElem_drop]
  congr 2
  simp only [show a + (k - a) = k by omega]
  rfl
theorem ext_nil (s : ByteArray) (k : Nat) : (s.extract k k).data.toList = [] := by
  rw [extract_data]; simp
theorem ext_size (s : ByteArray) (a b : Nat) (h : b ≤ s.size) : (s.extract a b).size ≤ s.size := by
  rw [ByteArray.size_extract]; omega
theorem cutR_snoc (c0 : UInt8) (l : List UInt8) (c : UInt8) : cutR c0 (l ++ [c]) = cutStep c0 (cutR c0 l) c := by
  simp [cutR]

/-- a round at the byte of the cut -/
theorem cut_hit {s : ByteArray} {c0 : UInt8} {k a : Nat} {bs : List ByteArray} (hlt : k < s.size) (hc : s[k] = c0)
    (h : cutR c0 (s.data.toList.take k) = (s.extract a k).data.toList :: (bs.map (·.data.toList)).reverse) :
    cutR c0 (s.data.toList.take (k + 1)) = (s.extract (k + 1) (k + 1)).data.toList :: ((bs ++ [s.extract a k]).map (·.data.toList)).reverse := by
  rw [take_snoc s k hlt, cutR_snoc, h, cutStep, if_pos hc, ext_nil]
  simp
/-- a round at another one -/
theorem cut_miss {s : ByteArray} {c0 : UInt8} {k a : Nat} {bs : List ByteArray} (hlt : k < s.size) (ha : a ≤ k) (hc : ¬ s[k] = c0)
    (h : cutR c0 (s.data.toList.take k) = (s.extract a k).data.toList :: (bs.map (·.data.toList)).reverse) :
    cutR c0 (s.data.toList.take (k + 1)) = (s.extract a (k + 1)).data.toList :: (bs.map (·.data.toList)).reverse := by
  rw [take_snoc s k hlt, cutR_snoc, h, cutStep, if_neg hc, ext_snoc s a k hlt ha]
theorem below_app {w wr w1 : World} {o : Obj} {v : Value} {e : TypeId} {n : Nat} {xs : List Value} (hown : wr.ownsRow w.heap.size e 1 v n xs) (hbel : Below w.heap.size w wr) (hg : (wr.alloc o).grownBy w1 v.ownBlock) : Below w.heap.size w w1 :=
  (hbel.alloc hbel.size o).grown hg (by have := hbel.size; simp; omega) (fun k hk => (hown.lt k hk).1)

set_option maxRecDepth 100000 in
set_option maxHeartbeats 400000 in
theorem cut_any (s : ByteArray) (c0 : UInt8) (w : World) (hs : s.size ≤ 1048576) :
    Calls Tryd.prog 21 #[.string s, .int .u8 c0.toNat] w fun e w' => ∃ (v : Value) (bs : List ByteArray), e = .returned v ∧ w'.ownsRow w.heap.size 9 1 v bs.length (bs.map Value.string) ∧
      (bs.map (·.data.toList)).reverse = cutR c0 s.data.toList ∧ Below w.heap.size w w' ∧ ∀ b ∈ bs, b.size ≤ s.size := by
  obtain ⟨i0, hi, hz0, hz1, hz2⟩ := info_parts infoStr
  go_enter Tryd.func21, Tryd.ntmps21
  go_wp2_with fail
  go_loopw [5, 6, 7] (fun v f i wr => ∃ (k a : Nat) (bs : List ByteArray), k ≤ s.size ∧ a ≤ k ∧ f = .int .i64 a ∧ i = .int .i64 k ∧ wr.ownsRow w.heap.size 9 1 v bs.length (bs.map Value.string) ∧
      Below w.heap.size w wr ∧ Hid (cutR c0 (s.data.toList.take k) = (s.extract a k).data.toList :: (bs.map (·.data.toList)).reverse) ∧ bs.length ≤ k ∧ Hid (∀ b ∈ bs, b.size ≤ s.size))
    (fun _ _ i _ => s.size - (intOf i).toNat)
  case atStart =>
    refine ⟨0, 0, [], Nat.zero_le _, Nat.le_refl _, rfl, rfl, ⟨rfl, .inr ⟨w.heap.size, 0, #[], rfl, Nat.le_refl _, heap_new _ _, Nat.le_refl _, by unfold maxLen; omega, rfl, rfl⟩⟩, (Below.refl _ _).alloc (Nat.le_refl _) _, ?_, Nat.le_refl _, ?_⟩
    · unfold Hid; rw [ext_nil]; rfl
    · unfold Hid; intro b hb; cases hb
  case round =>
    obtain ⟨k, a, bs, hk, ha, rfl, rfl, hown, hbel, hcut, hlen, hall⟩ := hrel
    by_cases hlt : k < s.size
    · by_cases hc : s[k] = c0
      · have ht : ((s[k].toNat : Int) == (c0.toNat : Int)) = true := by rw [hc]; simp
        have HC : Hid (s[k] = c0) := hc
        clear hc
        go_wp2_with (at_builtin; refine wpList_append_own _ rfl _ _ 36 rfl w.heap.size 9 i0 (.string ⟨#[]⟩) 1 16 Tryd.underlying36 hi hz0 hz1 hz2 rfl (by decide) _ _ _ rfl (hown.alloc _) ⟨wr.heap.size, 0, none⟩ 1 1 [.string (s.extract a k)] rfl rfl (cell_one _ _ _) ?c2 ?c3 ?c4 ?c5 ?_)
        case c2 => intro u hu; simp at hu; subst hu; rfl
        case c3 => unfold maxLen; omega
        case c4 => omega
        case c5 => have := hbel.size; simp; omega
        · intro v' w1 hown' hgrow _
          have hb1 := below_app hown hbel hgrow
          have HR := cut_hit hlt HC.out hcut.out
          have HR' : Hid (cutR c0 (s.data.toList.take (k + 1)) = (s.extract (k + 1) (k + 1)).data.toList :: ((bs ++ [s.extract a k]).map (·.data.toList)).reverse) := HR
          have HA : Hid (∀ b ∈ bs ++ [s.extract a k], b.size ≤ s.size) := by
            unfold Hid
            intro b hb
            rcases List.mem_append.1 hb with hb | hb
            · exact hall.out b hb
            · simp at hb; subst hb; exact ext_size s a k hk
          clear HR hcut hall hgrow hown hbel
          go_wp2
          go_roundw
          case rel =>
            refine ⟨k + 1, k + 1, bs ++ [s.extract a k], by omega, Nat.le_refl _, by go_num, by go_num, ?_, hb1, HR', by simp; omega, HA⟩
            simpa using hown'
          case measure => simp [intOf]; omega
      · have ht : ((s[k].toNat : Int) == (c0.toNat : Int)) = false := by
          rw [beq_eq_false_iff_ne]
          intro e
          exact hc (UInt8.toNat_inj.1 (by omega))
        have HR' : Hid (cutR c0 (s.data.toList.take (k + 1)) = (s.extract a (k + 1)).data.toList :: (bs.map (·.data.toList)).reverse) := cut_miss hlt ha hc hcut.out
        clear hc hcut
        go_wp2
        go_roundw
        case rel => exact ⟨k + 1, a, bs, by omega, by omega, rfl, by go_num, hown, hbel, HR', by omega, hall⟩
        case measure => simp [intOf]; omega
    · have hks : k = s.size := by omega
      have HK : Hid (k = s.size) := hks
      clear hks
      go_wp2_with (at_builtin; refine wpList_append_own _ rfl _ _ 36 rfl w.heap.size 9 i0 (.string ⟨#[]⟩) 1 16 Tryd.underlying36 hi hz0 hz1 hz2 rfl (by decide) _ _ _ rfl (hown.alloc _) ⟨wr.heap.size, 0, none⟩ 1 1 [.string (s.extract a s.size)] rfl rfl (cell_one _ _ _) ?c2 ?c3 ?c4 ?c5 ?_)
      case c2 => intro u hu; simp at hu; subst hu; rfl
      case c3 => unfold maxLen; omega
      case c4 => omega
      case c5 => have := hbel.size; simp; omega
      · intro v' w1 hown' hgrow _
        have hb1 := below_app hown hbel hgrow
        go_wp2
        go_ret
        refine ⟨v', bs ++ [s.extract a s.size], rfl, by simpa using hown', ?_, hb1, ?_⟩
        · have h := hcut.out
          rw [HK.out] at h
          rw [List.take_of_length_le (by simp)] at h
          rw [h]
          simp
        · intro b hb
          rcases List.mem_append.1 hb with hb | hb
          · exact hall.out b hb
          · simp at hb; subst hb; exact ext_size s a _ (Nat.le_refl _)

/-- cut into two parts -/
theorem cut_two (s : ByteArray) (c0 : UInt8) (w : World) (hs : s.size ≤ 1048576) {x y : List UInt8} (h : cutR c0 s.data.toList = [y, x]) :
    Calls Tryd.prog 21 #[.string s, .int .u8 c0.toNat] w fun e w' => ∃ (g cap : Nat) (a b : ByteArray), e = .returned (.slice (some ⟨g, 0, none⟩) 2 cap) ∧
      w'.cell? ⟨g, 0, none⟩ = some (.string a) ∧ w'.cell? ⟨g, 1, none⟩ = some (.string b) ∧ Hid (a.data.toList = x) ∧ Hid (b.data.toList = y) ∧ Below w.heap.size w w' ∧ a.size ≤ 1048576 ∧ b.size ≤ 1048576 := by
  refine (cut_any s c0 w hs).mono ?_
  rintro e w' ⟨v, bs, rfl, hown, hcut, hb, hall⟩
  rw [h] at hcut
  match bs, hown, hcut, hall with
  | [], _, hcut, _ => simp at hcut
  | [_], _, hcut, _ => simp at hcut
  | _ :: _ :: _ :: _, _, hcut, _ => have := congrArg List.length hcut; simp at this
  | [a, b], hown, hcut, hall =>
    simp at hcut
    rcases hown.2 with ⟨_, h0⟩ | ⟨g, cap, cur, hv, hg⟩
    · simp at h0
    have hc := hown.cells (g := g) (by rw [hv]; rfl)
    have c0 := hc 0 (.string a) rfl
    have c1 := hc 1 (.string b) rfl
    refine ⟨g, cap, a, b, by rw [hv]; rfl, by simpa [Addr.add] using c0, by simpa [Addr.add] using c1, hcut.2, hcut.1, hb, ?_, ?_⟩
    · have := hall a (by simp); omega
    · have := hall b (by simp); omega
/-- cut into one part, or more than two -/
theorem cut_other (s : ByteArray) (c0 : UInt8) (w : World) (hs : s.size ≤ 1048576) (h : (cutR c0 s.data.toList).length ≠ 2) :
    Calls Tryd.prog 21 #[.string s, .int .u8 c0.toNat] w fun e w' => ∃ (a : Option Addr) (n cap : Nat), e = .returned (.slice a n cap) ∧ ((n : Int) != 2) = true ∧ Below w.heap.size w w' := by
  refine (cut_any s c0 w hs).mono ?_
  rintro e w' ⟨v, bs, rfl, hown, hcut, hb, hall⟩
  have hn : bs.length ≠ 2 := by
    rw [← hcut] at h
    simpa using h
  rcases hown.2 with ⟨hv, h0⟩ | ⟨g, cap, cur, hv, hg⟩
  · exact ⟨none, 0, 0, by rw [hv], rfl, hb⟩
  · refine ⟨_, bs.length, cap, by rw [hv], ?_, hb⟩
    simp
    omega

theorem spec_other {l : List UInt8} (h : (cutR 46 l).length ≠ 2) : specAddr l = -1 := by
  unfold specAddr
  split
  · rename_i e; rw [e] at h; simp at h
  · rfl
theorem spec_two {l x y : List UInt8} (h : cutR 46 l = [y, x]) : specAddr l = if 0 ≤ num5 x ∧ num5 x ≤ 255 ∧ 0 ≤ num5 y ∧ num5 y ≤ 255 then 256 * num5 x + num5 y else -1 := by
  unfold specAddr
  rw [h]

set_option maxRecDepth 100000 in
set_option maxHeartbeats 400000 in
theorem spec_addr_other (s : ByteArray) (w : World) (hs : s.size ≤ 1048576) (h : (cutR 46 s.data.toList).length ≠ 2) :
    Calls Tryd.prog 9 #[.string s] w fun e w' => e = .returned (.int .i64 (specAddr s.data.toList)) ∧ Below w.heap.size w w' := by
  have HS : Hid (specAddr s.data.toList = -1) := spec_other h
  have hcut := fun w => cut_other s 46 w hs h
  have e46 : (((46 : UInt8).toNat : Nat) : Int) = 46 := rfl
  rw [e46] at hcut
  clear h e46
  go_enter Tryd.func9, Tryd.ntmps9
  go_wp2_with (go_at_call 21; refine (hcut _).mono ?_; rintro e w1 ⟨a, n, cap, rfl, hn, hb⟩)
  go_ret
  exact ⟨ret_int HS.out.symm, hb⟩

set_option maxRecDepth 100000 in
set_option maxHeartbeats 400000 in
theorem spec_addr_two (s : ByteArray) (w : World) (hs : s.size ≤ 1048576) {x y : List UInt8} (h : cutR 46 s.data.toList = [y, x]) :
    Calls Tryd.prog 9 #[.string s] w fun e w' => e = .returned (.int .i64 (specAddr s.data.toList)) ∧ Below w.heap.size w w' := by
  have HS : Hid (specAddr s.data.toList = if 0 ≤ num5 x ∧ num5 x ≤ 255 ∧ 0 ≤ num5 y ∧ num5 y ≤ 255 then 256 * num5 x + num5 y else -1) := spec_two h
  have hcut := fun w => cut_two s 46 w hs h
  have e46 : (((46 : UInt8).toNat : Nat) : Int) = 46 := rfl
  rw [e46] at hcut
  clear h e46
  obtain ⟨p, hp⟩ : ∃ p, p = num5 x := ⟨_, rfl⟩
  obtain ⟨q, hq⟩ : ∃ q, q = num5 y := ⟨_, rfl⟩
  rw [← hp, ← hq] at HS
  have HP : Hid (p = num5 x) := hp
  have HQ : Hid (q = num5 y) := hq
  clear hp hq
  by_cases h1 : 0 ≤ p ∧ p ≤ 255
  · by_cases h2 : 0 ≤ q ∧ q ≤ 255
    · have i1 := inB_yes h1
      have i2 := inB_yes h2
      obtain ⟨l1, u1⟩ := h1
      obtain ⟨l2, u2⟩ := h2
      go_enter Tryd.func9, Tryd.ntmps9
      go_wp2_with (first
        | (go_at_call 21; refine (hcut _).mono ?_; rintro e w1 ⟨g, cap, a, b, rfl, ca, cb, ha, hb2, hb, za, zb⟩; clear hcut)
        | (go_at_call_of 22 a; refine (num_any a _ za).mono ?_; rintro e w' ⟨rfl, rfl⟩; rw [ha.out, ← HP.out])
        | (go_at_call_of 22 b; refine (num_any b _ zb).mono ?_; rintro e w' ⟨rfl, rfl⟩; rw [hb2.out, ← HQ.out])
        | (go_at_call 17; refine (in_any _ _ _ _).mono ?_; rintro e w' ⟨rfl, rfl⟩))
      go_ret
      exact ⟨ret_int (by rw [HS.out, if_pos ⟨l1, u1, l2, u2⟩]), hb⟩
    · have i1 := inB_yes h1
      have i2 := inB_no h2
      have HX : Hid (¬ (0 ≤ p ∧ p ≤ 255 ∧ 0 ≤ q ∧ q ≤ 255)) := fun h => h2 h.2.2
      clear h1 h2
      go_enter Tryd.func9, Tryd.ntmps9
      go_wp2_with (first
        | (go_at_call 21; refine (hcut _).mono ?_; rintro e w1 ⟨g, cap, a, b, rfl, ca, cb, ha, hb2, hb, za, zb⟩; clear hcut)
        | (go_at_call_of 22 a; refine (num_any a _ za).mono ?_; rintro e w' ⟨rfl, rfl⟩; rw [ha.out, ← HP.out])
        | (go_at_call_of 22 b; refine (num_any b _ zb).mono ?_; rintro e w' ⟨rfl, rfl⟩; rw [hb2.out, ← HQ.out])
        | (go_at_call 17; refine (in_any _ _ _ _).mono ?_; rintro e w' ⟨rfl, rfl⟩))
      go_ret
      exact ⟨ret_int (by rw [HS.out, if_neg HX.out]), hb⟩
  · have i1 := inB_no h1
    have HX : Hid (¬ (0 ≤ p ∧ p ≤ 255 ∧ 0 ≤ q ∧ q ≤ 255)) := fun h => h1 ⟨h.1, h.2.1⟩
    clear h1
    go_enter Tryd.func9, Tryd.ntmps9
    go_wp2_with (first
      | (go_at_call 21; refine (hcut _).mono ?_; rintro e w1 ⟨g, cap, a, b, rfl, ca, cb, ha, hb2, hb, za, zb⟩; clear hcut)
      | (go_at_call_of 22 a; refine (num_any a _ za).mono ?_; rintro e w' ⟨rfl, rfl⟩; rw [ha.out, ← HP.out])
      | (go_at_call_of 22 b; refine (num_any b _ zb).mono ?_; rintro e w' ⟨rfl, rfl⟩; rw [hb2.out, ← HQ.out])
      | (go_at_call 17; refine (in_any _ _ _ _).mono ?_; rintro e w' ⟨rfl, rfl⟩))
    go_ret
    exact ⟨ret_int (by rw [HS.out, if_neg HX.out]), hb⟩

/-- spec.NetAddr of every text -/
theorem spec_addr (s : ByteArray) (w : World) (hs : s.size ≤ 1048576) :
    Calls Tryd.prog 9 #[.string s] w fun e w' => e = .returned (.int .i64 (specAddr s.data.toList)) ∧ Below w.heap.size w w' := by
  match h : cutR 46 s.data.toList with
  | [] => exact spec_addr_other s w hs (by rw [h]; simp)
  | [_] => exact spec_addr_other s w hs (by rw [h]; simp)
  | [y, x] => exact spec_addr_two s w hs h
  | _ :: _ :: _ :: _ => exact spec_addr_other s w hs (by rw [h]; simp)
end Go.Proofs.YtaoahghfmlegbabDoor
