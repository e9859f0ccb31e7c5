/- Lists written over by marks, and read again: laws.markNetPrefixS, laws.heldNetPrefixS. -/
import Derived.Test.YtaoahghfmlegbabToS
namespace Go.Proofs.Ytaoahghfmlegbab
open Go.RowKit Go.Lib

/-- marks from k on -/
def marks (k : Int) (n : Nat) : List (Int × Int) := (List.range n).map fun i : Nat => (k + 2 * (i : Int), k + 2 * (i : Int) + 1)
theorem marks_len (k : Int) (n : Nat) : (marks k n).length = n := by simp [marks]
theorem marks_succ (k : Int) (n : Nat) : marks k (n + 1) = marks k n ++ [(k + 2 * (n : Int), k + 2 * (n : Int) + 1)] := by simp [marks, List.range_succ]
theorem marks_at {k : Int} {n i : Nat} (h : i < (marks k n).length) : (marks k n)[i] = (k + 2 * (i : Int), k + 2 * (i : Int) + 1) := by simp [marks]
theorem mark_step (k : Int) {M : List (Int × Int)} {i : Nat} (h : i < M.length) : (marks k i ++ M.drop i).set i (k + 2 * (i : Int), k + 2 * (i : Int) + 1) = marks k (i + 1) ++ M.drop (i + 1) := by
  rw [List.set_append_right _ _ (by rw [marks_len]; exact Nat.le_refl _), marks_len, Nat.sub_self, List.drop_eq_getElem_cons h, List.set_cons_zero, marks_succ, List.append_assoc]
  rfl
theorem mark_len (k : Int) {M : List (Int × Int)} {i : Nat} (h : i ≤ M.length) : (marks k i ++ M.drop i).length = M.length := by simp [marks_len]; omega
theorem Row.grown {w w' : World} {b : Nat} {v : Value} {L : List (Int × Int)} {row : Option Nat} (h : Row w b v L) (hg : w.grownBy w' row) (hne : v.ownBlock = none ∨ v.ownBlock ≠ row) : Row w' b v L := World.ownsRow.kept h hg hne
theorem grown_trans {a b c : World} {row : Option Nat} (h : a.grownBy b row) (k : b.grownBy c row) : a.grownBy c row :=
  ⟨k.os.trans h.os, k.tape.trans h.tape, k.output.trans h.output, Nat.le_trans h.size k.size, fun i hi hr => (k.block i (Nat.lt_of_lt_of_le hi h.size) hr).trans (h.block i hi hr)⟩
theorem grown_refl (a : World) (row : Option Nat) : a.grownBy a row := ⟨rfl, rfl, rfl, Nat.le_refl _, fun _ _ _ => rfl⟩
theorem grown_set (w : World) (g j : Nat) (u : Value) : w.grownBy (w.setCell ⟨g, j, none⟩ u) (some g) := ⟨rfl, rfl, rfl, by simp, fun k _ hk => Below.heap_setCell _ _ _ _ (fun e => hk (by simp [e]))⟩

set_option maxRecDepth 100000 in
set_option maxHeartbeats 1000000 in
theorem mark_any (M : List (Int × Int)) (v : Value) (b : Nat) (k : Int) (w : World) (hr : Row w b v M) (hlen : M.length ≤ 1048576) (k1 : 0 ≤ k) (k2 : k ≤ 1073741824) :
    Calls Try.prog 21 #[v, .int .i64 k] w fun e w' => e = .returned (.int .i64 (k + 2 * (M.length : Int))) ∧ Row w' b v (marks k M.length) ∧ w.grownBy w' v.ownBlock := by
  obtain ⟨p, cap, rfl⟩ := hr.form
  have HR : Hid (Row w b (.slice p M.length cap) M) := hr
  clear hr
  go_enter Try.func21, Try.ntmps21
  go_wp2_with fail
  go_loopw [1, 5] (fun s i wr => ∃ j : Nat, j ≤ M.length ∧ s = .int .i64 (k + 2 * (j : Int)) ∧ i = .int .i64 j ∧ Hid (wr.ownsRow b 24 2 (.slice p M.length cap) M.length (flat (marks k j ++ M.drop j))) ∧ Hid (w.grownBy wr (Value.slice p M.length cap).ownBlock)) (fun _ i _ => M.length - (intOf i).toNat)
  case atStart => exact ⟨0, Nat.zero_le _, by simp, rfl, by unfold Hid; have h := HR.out; unfold Row at h; simpa [marks] using h, grown_refl _ _⟩
  case round =>
    obtain ⟨j, hj, rfl, rfl, hrow, hg⟩ := hrel
    by_cases hlt : j < M.length
    · have hform : ∃ g, p = some ⟨g, 0, none⟩ := by
        rcases HR.out.2 with ⟨_, h0⟩ | ⟨g, cap', cur, hv, _⟩
        · omega
        · cases hv; exact ⟨g, rfl⟩
      obtain ⟨g, rfl⟩ := hform
      obtain ⟨u0, u1, d0, d1, f0, f1⟩ := row_cells hrow.out (Below.refl _ _) (mark_len k hj) hlt
      have HP := row_put hrow.out (Below.refl _ _) (k + 2 * (j : Int), k + 2 * (j : Int) + 1) j
      rw [mark_step k hlt] at HP
      have HG := grown_trans hg.out (grown_trans (grown_set wr g (j * 2) (.int .i64 (k + 2 * (j : Int)))) (grown_set _ g (j * 2 + 1) (.int .i64 (k + 2 * (j : Int) + 1))))
      have HP : Hid _ := HP
      have HG : Hid _ := HG
      clear hrow hg
      go_wp2
      go_roundw
      case rel => exact ⟨j + 1, hlt, by congr 1; omega, rfl, HP, HG⟩
      case measure => simp [intOf]; omega
    · have : j = M.length := by omega
      subst this
      go_wp2
      go_ret
      refine ⟨rfl, ?_, hg.out⟩
      have h := hrow.out
      rw [List.drop_length, List.append_nil] at h
      unfold Row
      rw [marks_len]
      exact h

set_option maxRecDepth 100000 in
set_option maxHeartbeats 1000000 in
theorem held_any (n : Nat) (v : Value) (k : Int) (w : World) (hr : Rd w v (marks k n)) (hlen : n ≤ 1048576) (k1 : 0 ≤ k) (k2 : k ≤ 1073741824) :
    Calls Try.prog 22 #[v, .int .i64 k] w fun e w' => e = .returned (.int .i64 (k + 2 * (n : Int))) ∧ w' = w := by
  obtain ⟨p, cap, rfl⟩ := hr.form
  have HR : Hid (Rd w (.slice p (marks k n).length cap) (marks k n)) := hr
  have hl := marks_len k n
  rw [hl] at HR ⊢
  clear hr
  go_enter Try.func22, Try.ntmps22
  go_wp2_with fail
  go_loop [1, 5] (fun s i => ∃ j : Nat, j ≤ n ∧ s = .int .i64 (k + 2 * (j : Int)) ∧ i = .int .i64 j) (fun _ i => n - (intOf i).toNat)
  case atStart => exact ⟨0, Nat.zero_le _, by simp, rfl⟩
  case round =>
    obtain ⟨j, hj, rfl, rfl⟩ := hrel
    by_cases hlt : j < n
    · obtain ⟨g, rfl, hg, c0, c1⟩ := HR.out.at (i := j) (by rw [hl]; exact hlt)
      rw [marks_at] at c0 c1
      simp only at c0 c1
      have ne1 : ((k + 2 * (j : Int)) != (k + 2 * (j : Int))) = false := by simp
      go_wp2
      go_round
      case rel => exact ⟨j + 1, hlt, by congr 1; omega, rfl⟩
      case measure => simp [intOf]; omega
    · have : j = n := by omega
      subst this
      go_wp2
      go_ret
      exact ⟨rfl, rfl⟩
end Go.Proofs.Ytaoahghfmlegbab
