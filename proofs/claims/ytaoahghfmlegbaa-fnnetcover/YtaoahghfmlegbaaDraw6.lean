/- The draws of NetBest's arguments. -/
import Derived.Test.YtaoahghfmlegbaaDraw5
namespace Go.Proofs.Ytaoahghfmlegbaa
open Go.RowKit Go.Lib

theorem drew_below {w W1 W2 : World} {R n cap : Nat} {q : Option Addr} {p c : Int} (hb : Below w.heap.size w W1) (hd : Drew W1 R q n cap p c W2) (hR : w.heap.size ≤ R) : Below w.heap.size w W2 := by
  obtain ⟨hg, _⟩ := hd
  exact ⟨hg.os.trans hb.os, hg.tape.trans hb.tape, hg.output.trans hb.output, Nat.le_trans hb.size hg.size, fun k hk => (hg.block k (Nat.lt_of_lt_of_le hk hb.size) (by simp; omega)).trans (hb.block k hk)⟩

set_option maxRecDepth 100000 in
set_option maxHeartbeats 2000000 in
theorem drawBest_any (v : Value) (w : World) (h : BytA w v) :
    Calls Try.prog 21 #[v] w fun e w' => ∃ u L x, e = .returned (.tuple #[u, .int .i64 x]) ∧ Row w' w.heap.size u L ∧ L.length < 10 ∧ (∀ y ∈ L, Mid y.1 ∧ Mid y.2) ∧ Mid x ∧ Below w.heap.size w w' := by
  go_enter Try.func21, Try.ntmps21
  go_wp2_with (first
    | (go_at_call 39; refine (open_any _ _ h).mono ?_; rintro e W1 ⟨rfl, ⟨q, n, cap, hr⟩, hb⟩; have hRs := hr.lt)
    | (go_at_call 40; refine (list_any _ q n cap 0 10 W1 hr (by omega) (by omega) (by omega)).mono ?_; rintro e W2 ⟨u, L, rfl, HX, hl, hm, HD⟩; obtain ⟨pv, cv, rfl⟩ := HX.form; clear hr))
  · go_wp2_with (first
      | (go_at_call 41; refine (pick_more HD _ (by omega) (by omega) (by omega)).mono ?_; clear HD; rintro e W3 ⟨r3, rfl, b3, HD, g3⟩; replace HX := row_drew HX g3 hRs; obtain ⟨gr, hpv, hgr, d0, d1⟩ := HX.rd.at (i := r3) (by omega); subst hpv; clear g3)
      | (go_at_call 50; refine (addr_more HD (by omega)).mono ?_; clear HD; rintro e W4 ⟨x4, rfl, m4, HD, g4⟩; replace HX := row_drew HX g4 hRs; clear g4))
    refine bodyPost_ret (v := .tuple #[.slice (some ⟨gr, 0, none⟩) L.length cv, .int .i64 x4]) (by simp [results, Try.results21, go_sem]) rfl ?_
    exact ⟨_, L, x4, rfl, HX.mono hb.size, hl, hm, m4, drew_below hb HD (Nat.le_refl _)⟩
  · go_wp2_with (go_at_call 41; refine (pick_more HD _ (by omega) (by omega) (by omega)).mono ?_; clear HD; rintro e W3 ⟨r3, rfl, b3, HD, g3⟩; replace HX := row_drew HX g3 hRs; clear g3)
    refine bodyPost_ret (v := .tuple #[.slice pv L.length cv, .int .i64 (r3 : Int)]) (by simp [results, Try.results21, go_sem]) rfl ?_
    exact ⟨_, L, _, rfl, HX.mono hb.size, hl, hm, by unfold Mid; omega, drew_below hb HD (Nat.le_refl _)⟩
end Go.Proofs.Ytaoahghfmlegbaa
