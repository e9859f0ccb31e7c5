/- The program's AclSays. -/
import Derived.Test.YtaoahghfmlegbaaMt3
namespace Go.Proofs.Ytaoahghfmlegbaa
open Go.RowKit Go.Lib

/-- a list as it is made -/
abbrev newL (v : Value) : Obj := .cells #[v, .int .u32 0, .int .i32 0, .int .u32 0, .slice none 0 0] 97
theorem new_list {w : World} {v : Value} {L : List Ru} (h : RdR w v L) : Lst (w.alloc (newL v)) w.heap.size v L :=
  .inl ⟨by simp, by simp, by simp, by simp, by simp, by simp, by simp, h.below ((Below.refl _ _).more _)⟩
theorem below_new {w w' : World} {o : Obj} (hg : (w.alloc o).grownBy w' (some w.heap.size)) : Below w.heap.size w w' :=
  ((Below.refl w.heap.size w).more o).grown hg (by simp) (fun k e => by cases e; exact Nat.le_refl _)

set_option maxRecDepth 100000 in
set_option maxHeartbeats 1600000 in
theorem iaclsays_any (L : List Ru) (f t n : Int) (v : Value) (w : World) (hr : RdR w v L) (hlen : L.length ≤ 1048576) :
    Calls Try.prog 26 #[v, pkV (f, t, n)] w fun e w' => e = .returned (.tuple #[.int .i64 (aclN L (f, t, n)), .bool (aclB L (f, t, n))]) ∧ Below w.heap.size w w' := by
  obtain ⟨p, cap, rfl⟩ := hr.form
  have HB : Below w.heap.size w w := Below.refl _ _
  cases h1 : okRs L with
  | false =>
    have HE : Hid (aclN L (f, t, n) = -1 ∧ aclB L (f, t, n) = false) := by
      unfold Hid aclN aclB; simp [h1]
    go_enter Try.func26, Try.ntmps26
    go_wp2_with (go_at_call 56; refine (iaclok_any L _ _ (hr.below (HB.more _)) hlen).mono ?_; rintro e w1 ⟨rfl, hb⟩; obtain ⟨hc, hf⟩ := bcell hb; replace HB := below_then (HB.more _) hb)
    go_ret2
    exact ⟨ret_says HE.out.1.symm HE.out.2.symm, HB⟩
  | true =>
    cases h2 : okK (f, t, n) with
    | false =>
      have HE : Hid (aclN L (f, t, n) = -1 ∧ aclB L (f, t, n) = false) := by
        unfold Hid aclN aclB; simp [h2]
      go_enter Try.func26, Try.ntmps26
      go_wp2_with (first | (go_at_call 56; refine (iaclok_any L _ _ (hr.below (HB.more _)) hlen).mono ?_; rintro e w1 ⟨rfl, hb⟩; obtain ⟨hc, hf⟩ := bcell hb; have hs := new_lt hb; replace HB := below_then (HB.more _) hb) | (go_at_call 57; refine (ipkok_any _ _ _ _).mono ?_; rintro e w2 ⟨rfl, hb⟩; obtain ⟨hc, hf⟩ := bcell hb; replace HB := below_then HB hb))
      go_ret2
      exact ⟨ret_says HE.out.1.symm HE.out.2.symm, HB⟩
    | true =>
      have HE : Hid (aclN L (f, t, n) = saysN L (f, t, n) ∧ aclB L (f, t, n) = saysB L (f, t, n)) := by
        unfold Hid aclN aclB; simp [h1, h2]
      have HK := okK_iff.1 h2
      have HX : Hid (f ≤ 9223372036854775807 ∧ t ≤ 9223372036854775807) := ⟨Int.le_trans HK.1.2 (by decide), Int.le_trans HK.2.1.2 (by decide)⟩
      clear HK
      go_enter Try.func26, Try.ntmps26
      go_wp2_with (first | (go_at_call 56; refine (iaclok_any L _ _ (hr.below (HB.more _)) hlen).mono ?_; rintro e w1 ⟨rfl, hb⟩; obtain ⟨hc, hf⟩ := bcell hb; have hs := new_lt hb; replace HB := below_then (HB.more _) hb) | (go_at_call 57; refine (ipkok_any _ _ _ _).mono ?_; rintro e w2 ⟨rfl, hb⟩; obtain ⟨hc, hf⟩ := bcell hb; have hs2 := Nat.lt_of_lt_of_le hs hb.size; replace HB := below_then HB hb) | (go_at_call 58; refine (isays_any w2.heap.size _ L _ _ _ _ (new_list (hr.below HB)) h1 HX.out.1 HX.out.2).mono ?_; rintro e w3 ⟨rfl, hl3, hg3⟩))
      go_ret2
      exact ⟨ret_says HE.out.1.symm HE.out.2.symm, below_then HB (below_new hg3)⟩
end Go.Proofs.Ytaoahghfmlegbaa
