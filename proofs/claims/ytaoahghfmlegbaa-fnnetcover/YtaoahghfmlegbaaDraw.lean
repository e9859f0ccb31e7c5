/- The draws' reader: l1Open and pick: numbers in bounds, the reader's own block alone written. -/
import Derived.Test.YtaoahghfmlegbaaSl
import Derived.BigQuiet
import Derived.Laws.BitsLemmas
namespace Go.Proofs.Ytaoahghfmlegbaa
open Go.RowKit Go.Lib

/-- bytes that can be read, not in the block R -/
def Byt (w : World) (R : Nat) (q : Option Addr) (n : Nat) : Prop := n = 0 ∨ ∃ g o, q = some ⟨g, o, none⟩ ∧ g ≠ R ∧ g < w.heap.size ∧ ∀ i, i < n → ∃ y : Int, w.cell? ⟨g, o + i, none⟩ = some (.int .u8 y) ∧ 0 ≤ y ∧ y ≤ 255
/-- a reader at R, p numbers drawn -/
def Rdr (w : World) (R : Nat) (q : Option Addr) (n cap : Nat) (p : Int) : Prop :=
  w.cell? ⟨R, 0, none⟩ = some (.slice q n cap) ∧ w.cell? ⟨R, 1, none⟩ = some (.int .i64 p) ∧ w.frozen? ⟨R, 1, none⟩ = false ∧ n ≤ 2000 ∧ 0 ≤ p ∧ Byt w R q n
theorem Byt.grown {w w' : World} {R n : Nat} {q : Option Addr} (h : Byt w R q n) (hg : w.grownBy w' (some R)) : Byt w' R q n := by
  rcases h with h | ⟨g, o, hq, hR, hl, hc⟩
  · exact .inl h
  · refine .inr ⟨g, o, hq, hR, Nat.lt_of_lt_of_le hl hg.size, fun i hi => ?_⟩
    obtain ⟨y, hy, h1, h2⟩ := hc i hi
    exact ⟨y, (World.cell?_of_block (hg.block g hl (by simp [hR]))).trans hy, h1, h2⟩
theorem Rdr.below {w w' : World} {R n cap : Nat} {q : Option Addr} {p : Int} (h : Rdr w R q n cap p) (hb : Below w.heap.size w w') : Rdr w' R q n cap p := by
  obtain ⟨h1, h2, h3, h4, h5, h6⟩ := h
  have hR := cell_lt h1
  refine ⟨(hb.cell (p := ⟨R, 0, none⟩) hR).trans h1, (hb.cell (p := ⟨R, 1, none⟩) hR).trans h2, (hb.frozen (p := ⟨R, 1, none⟩) hR).trans h3, h4, h5, ?_⟩
  rcases h6 with h | ⟨g, o, hq, hR, hl, hc⟩
  · exact .inl h
  · refine .inr ⟨g, o, hq, hR, Nat.lt_of_lt_of_le hl hb.size, fun i hi => ?_⟩
    obtain ⟨y, hy, k1, k2⟩ := hc i hi
    exact ⟨y, (hb.cell (p := ⟨g, o + i, none⟩) hl).trans hy, k1, k2⟩
theorem Rdr.lt {w : World} {R n cap : Nat} {q : Option Addr} {p : Int} (h : Rdr w R q n cap p) : R < w.heap.size := cell_lt h.1
/-- one number drawn -/
theorem Rdr.next {w : World} {R n cap : Nat} {q : Option Addr} {p : Int} (h : Rdr w R q n cap p) : Rdr (w.setCell ⟨R, 1, none⟩ (.int .i64 (p + 1))) R q n cap (p + 1) ∧ w.grownBy (w.setCell ⟨R, 1, none⟩ (.int .i64 (p + 1))) (some R) := by
  obtain ⟨h1, h2, h3, h4, h5, h6⟩ := h
  have hg : w.grownBy (w.setCell ⟨R, 1, none⟩ (.int .i64 (p + 1))) (some R) := ⟨rfl, rfl, rfl, by simp, fun k _ hk => Below.heap_setCell _ _ _ _ (fun e => hk (by simp [e]))⟩
  refine ⟨⟨?_, ?_, ?_, h4, by omega, h6.grown hg⟩, hg⟩
  · rw [World.cell?_setCell_other _ _ _ _ (fun e => by cases e)]; exact h1
  · exact World.cell?_setCell_same' _ _ _ (by rw [h2]; rfl)
  · rw [World.frozen?_setCell]; exact h3
theorem grown_drew {w w' : World} {row : Option Nat} (h : w.grownBy w' row) (n : Nat) : w.grownBy (w'.drewN n) row := ⟨h.os, h.tape, h.output, h.size, h.block⟩
theorem Rdr.drewN {w : World} {R n cap : Nat} {q : Option Addr} {p : Int} (h : Rdr w R q n cap p) (k : Nat) : Rdr (w.drewN k) R q n cap p := h
/-- what a draw leaves -/
def Drew (w : World) (R : Nat) (q : Option Addr) (n cap : Nat) (p : Int) (c : Int) (w' : World) : Prop := w.grownBy w' (some R) ∧ ∃ p', p ≤ p' ∧ p' ≤ p + c ∧ Rdr w' R q n cap p'

theorem xor_ok (x y : Int) (x0 : 0 ≤ x) (x1 : x < 4611686018427387904) (y0 : 0 ≤ y) (y1 : y < 4611686018427387904) : 0 ≤ bits .xor .i64 x y := by
  obtain ⟨a, rfl⟩ := Int.eq_ofNat_of_zero_le x0
  obtain ⟨b, rfl⟩ := Int.eq_ofNat_of_zero_le y0
  have e' : (2 : Nat) ^ 62 = 4611686018427387904 := by decide
  have e64 : (2 : Nat) ^ 64 = 18446744073709551616 := by decide
  have hx : a ^^^ b < 2 ^ 62 := Nat.xor_lt_two_pow (by omega) (by omega)
  have ha' : a % 2 ^ 64 = a := Nat.mod_eq_of_lt (by omega)
  have hb' : b % 2 ^ 64 = b := Nat.mod_eq_of_lt (by omega)
  have h : bits .xor .i64 (a : Int) (b : Int) = ((a ^^^ b : Nat) : Int) := by
    show IntKind.i64.wrap ((BitVec.ofInt 64 (a : Int) ^^^ BitVec.ofInt 64 (b : Int)).toNat : Int) = _
    simp only [BitVec.ofInt_natCast, BitVec.toNat_xor, BitVec.toNat_ofNat, ha', hb']
    rw [IntKind.wrap_i64]
    omega
  rw [h]
  exact Int.natCast_nonneg _
theorem tmod_in {x m : Int} (h0 : 0 ≤ x) (hm : 1 ≤ m) : 0 ≤ x.tmod m ∧ x.tmod m < m := ⟨Int.tmod_nonneg _ h0, Int.tmod_lt_of_pos _ (by omega)⟩

set_option maxRecDepth 100000 in
set_option maxHeartbeats 2000000 in
theorem pick_any (R : Nat) (q : Option Addr) (n cap : Nat) (p m : Int) (w : World) (h : Rdr w R q n cap p) (hp : p ≤ 1073741824) (m1 : 1 ≤ m) (m2 : m ≤ 65536) :
    Calls Try.prog 41 #[.pointer (some ⟨R, 0, none⟩), .int .i64 m] w fun e w' => ∃ r : Int, e = .returned (.int .i64 r) ∧ 0 ≤ r ∧ r < m ∧ Drew w R q n cap p 1 w' := by
  have hN := h.next
  have HD : Hid (∀ k, Drew w R q n cap p 1 ((w.setCell ⟨R, 1, none⟩ (.int .i64 (p + 1))).drewN k)) := fun k => ⟨grown_drew hN.2 k, p + 1, by omega, by omega, hN.1.drewN k⟩
  have HD0 : Hid (Drew w R q n cap p 1 (w.setCell ⟨R, 1, none⟩ (.int .i64 (p + 1)))) := ⟨hN.2, p + 1, by omega, by omega, hN.1⟩
  have hm1 : decide (m < 1) = false := decide_eq_false (by omega)
  have hm0 : (m == 0) = false := by rw [beq_eq_false_iff_ne]; omega
  have hm00 : ¬ m = 0 := by omega
  obtain ⟨c0, c1, c2, n2000, p0, hby⟩ := h
  by_cases hn : n = 0
  · subst hn
    clear hby hN
    go_enter Try.func41, Try.ntmps41
    go_wp2
    go_ret
    exact ⟨0, rfl, by omega, by omega, HD0.out⟩
  · obtain ⟨g, o, rfl, hgR, hgl, hcell⟩ := hby.resolve_left hn
    have hn0 : ((n : Int) == 0) = false := by rw [beq_eq_false_iff_ne]; omega
    have hn00 : ¬ (n : Int) = 0 := by omega
    obtain ⟨k, rfl⟩ := Int.eq_ofNat_of_zero_le p0
    by_cases hk : k < n
    · obtain ⟨y, hy, y1, y2⟩ := hcell k hk
      have HT : Hid (0 ≤ y % m ∧ y % m < m) := ⟨Int.emod_nonneg _ (by omega), Int.emod_lt_of_pos _ (by omega)⟩
      clear hcell hN hby
      go_enter Try.func41, Try.ntmps41
      go_wp2
      go_ret
      exact ⟨_, rfl, HT.out.1, HT.out.2, HD0.out⟩
    · obtain ⟨j1, hj1, l1⟩ : ∃ j1 : Nat, ((k : Int) % (n : Int)) = (j1 : Int) ∧ j1 < n := ⟨k % n, (Int.natCast_emod k n).symm, Nat.mod_lt _ (by omega)⟩
      obtain ⟨j2, hj2, l2⟩ : ∃ j2 : Nat, (((k : Int) * 7 + 3) % (n : Int)) = (j2 : Int) ∧ j2 < n := ⟨(k * 7 + 3) % n, by rw [Int.natCast_emod, Int.natCast_add, Int.natCast_mul]; rfl, Nat.mod_lt _ (by omega)⟩
      obtain ⟨y, hy, y1, y2⟩ := hcell j1 l1
      obtain ⟨z, hz, z1, z2⟩ := hcell j2 l2
      obtain ⟨t, ht, t1, t2⟩ : ∃ t : Int, ((k : Int) / (n : Int)) = t ∧ 0 ≤ t ∧ t ≤ k := ⟨_, rfl, Int.ediv_nonneg (by omega) (by omega), Int.ediv_le_self _ (by omega)⟩
      have HX : Hid (∀ x : Int, x = y * 131 + z * 1117 + (k : Int) * 29 + t * 53 → 0 ≤ (bits .xor .i64 x (x / 64)).tmod m ∧ (bits .xor .i64 x (x / 64)).tmod m < m) := by
        intro x hx
        have hxx := xor_ok x (x / 64) (by omega) (by omega) (by omega) (by omega)
        exact tmod_in hxx m1
      clear hcell hN hby
      go_enter Try.func41, Try.ntmps41
      go_wp2_with fail
      go_quiet (fail)
      go_wp2
      go_ret
      exact ⟨_, rfl, (HX.out _ rfl).1, (HX.out _ rfl).2, HD.out _⟩

/-- what came in: bytes -/
def BytA (w : World) (v : Value) : Prop := ∃ q n cap, v = .slice q n cap ∧ n ≤ cap ∧ (n : Int) ≤ 9223372036854775807 ∧ (n = 0 ∨ ∃ g o, q = some ⟨g, o, none⟩ ∧ g < w.heap.size ∧ ∀ i, i < n → ∃ y : Int, w.cell? ⟨g, o + i, none⟩ = some (.int .u8 y) ∧ 0 ≤ y ∧ y ≤ 255)
theorem rdr_new {w : World} {q : Option Addr} {n cap : Nat} {t : TypeId} (hn : n ≤ 2000) (hb : n = 0 ∨ ∃ g o, q = some ⟨g, o, none⟩ ∧ g < w.heap.size ∧ ∀ i, i < n → ∃ y : Int, w.cell? ⟨g, o + i, none⟩ = some (.int .u8 y) ∧ 0 ≤ y ∧ y ≤ 255) : Rdr (w.alloc (.cells #[.slice q n cap, .int .i64 0] t)) w.heap.size q n cap 0 := by
  refine ⟨by simp, by simp, fz_new _ _ _ _, hn, Int.le_refl _, ?_⟩
  rcases hb with h | ⟨g, o, h1, h2, h3⟩
  · exact .inl h
  · refine .inr ⟨g, o, h1, by omega, by simp; omega, fun i hi => ?_⟩
    obtain ⟨y, hy, k⟩ := h3 i hi
    exact ⟨y, (World.cell?_alloc_lt _ _ _ h2).trans hy, k⟩
set_option maxRecDepth 100000 in
set_option maxHeartbeats 1000000 in
theorem open_any (v : Value) (w : World) (h : BytA w v) :
    Calls Try.prog 39 #[v] w fun e w' => e = .returned (.pointer (some ⟨w.heap.size, 0, none⟩)) ∧ (∃ q n cap, Rdr w' w.heap.size q n cap 0) ∧ Below w.heap.size w w' := by
  obtain ⟨q, n, cap, rfl, hc, hl, hb⟩ := h
  by_cases h2 : n ≤ 2000
  · have h2' : decide (2000 < (n : Int)) = false := decide_eq_false (by omega)
    go_enter Try.func39, Try.ntmps39
    go_wp2
    go_ret
    exact ⟨rfl, ⟨q, n, cap, rdr_new h2 hb⟩, (Below.refl _ _).more _⟩
  · go_enter Try.func39, Try.ntmps39
    go_wp2
    go_ret
    exact ⟨rfl, ⟨q, 2000, cap, rdr_new (Nat.le_refl _) (hb.imp (fun h => by omega) (fun ⟨g, o, h1, h3, h4⟩ => ⟨g, o, h1, h3, fun i hi => h4 i (by omega)⟩))⟩, (Below.refl _ _).more _⟩

theorem Drew.refl {w : World} {R n cap : Nat} {q : Option Addr} {p : Int} (h : Rdr w R q n cap p) : Drew w R q n cap p 0 w := ⟨⟨rfl, rfl, rfl, Nat.le_refl _, fun _ _ _ => rfl⟩, p, by omega, by omega, h⟩
theorem Drew.alloc {w W : World} {R n cap : Nat} {q : Option Addr} {p c : Int} (h : Drew w R q n cap p c W) (o : Obj) : Drew w R q n cap p c (W.alloc o) := by
  obtain ⟨hg, p', h1, h2, h3⟩ := h
  have hb : Below W.heap.size W (W.alloc o) := (Below.refl _ _).more _
  exact ⟨⟨hb.os.trans hg.os, hb.tape.trans hg.tape, hb.output.trans hg.output, Nat.le_trans hg.size hb.size, fun k hk hr => (hb.block k (Nat.lt_of_lt_of_le hk hg.size)).trans (hg.block k hk hr)⟩, p', h1, h2, h3.below hb⟩
theorem Drew.below {w W W' : World} {R n cap : Nat} {q : Option Addr} {p c : Int} (h : Drew w R q n cap p c W) (hb : Below W.heap.size W W') : Drew w R q n cap p c W' := by
  obtain ⟨hg, p', h1, h2, h3⟩ := h
  exact ⟨⟨hb.os.trans hg.os, hb.tape.trans hg.tape, hb.output.trans hg.output, Nat.le_trans hg.size hb.size, fun k hk hr => (hb.block k (Nat.lt_of_lt_of_le hk hg.size)).trans (hg.block k hk hr)⟩, p', h1, h2, h3.below hb⟩
theorem Drew.more {w W W' : World} {R n cap : Nat} {q : Option Addr} {p c : Int} (h : Drew w R q n cap p c W) {d : Int} (k : ∀ p', p ≤ p' → p' ≤ p + c → Rdr W R q n cap p' → Drew W R q n cap p' d W') : Drew w R q n cap p (c + d) W' := by
  obtain ⟨hg, p', h1, h2, h3⟩ := h
  obtain ⟨hg2, p'', k1, k2, k3⟩ := k p' h1 h2 h3
  exact ⟨⟨hg2.os.trans hg.os, hg2.tape.trans hg.tape, hg2.output.trans hg.output, Nat.le_trans hg.size hg2.size, fun k hk hr => (hg2.block k (Nat.lt_of_lt_of_le hk hg.size) hr).trans (hg.block k hk hr)⟩, p'', by omega, by omega, k3⟩
/-- one number more -/
theorem pick_more {w W : World} {R n cap : Nat} {q : Option Addr} {p c : Int} (h : Drew w R q n cap p c W) (m : Int) (hp : p + c ≤ 1073741824) (m1 : 1 ≤ m) (m2 : m ≤ 65536) :
    Calls Try.prog 41 #[.pointer (some ⟨R, 0, none⟩), .int .i64 m] W fun e W' => ∃ r : Nat, e = .returned (.int .i64 (r : Int)) ∧ (r : Int) < m ∧ Drew w R q n cap p (c + 1) W' ∧ W.grownBy W' (some R) := by
  obtain ⟨hg, p', h1, h2, h3⟩ := h
  refine (pick_any R q n cap p' m W h3 (by omega) m1 m2).mono ?_
  rintro e W' ⟨r, rfl, r0, r1, hd⟩
  obtain ⟨k, rfl⟩ := Int.eq_ofNat_of_zero_le r0
  refine ⟨k, rfl, r1, ?_, hd.1⟩
  obtain ⟨hg2, p'', k1, k2, k3⟩ := hd
  exact ⟨⟨hg2.os.trans hg.os, hg2.tape.trans hg.tape, hg2.output.trans hg.output, Nat.le_trans hg.size hg2.size, fun k hk hr => (hg2.block k (Nat.lt_of_lt_of_le hk hg.size) hr).trans (hg.block k hk hr)⟩, p'', by omega, by omega, k3⟩
theorem grown_cell {w W : World} {R K j : Nat} {v : Value} (hg : w.grownBy W (some R)) (hK : K ≠ R) (h : w.cell? ⟨K, j, none⟩ = some v) : W.cell? ⟨K, j, none⟩ = some v := (World.cell?_of_block (hg.block K (cell_lt h) (by simp [hK]))).trans h
theorem grown_fz {w W : World} {R K j : Nat} {v : Value} (hg : w.grownBy W (some R)) (hK : K ≠ R) (hc : w.cell? ⟨K, j, none⟩ = some v) (h : w.frozen? ⟨K, j, none⟩ = false) : W.frozen? ⟨K, j, none⟩ = false := (World.frozen?_of_block (hg.block K (cell_lt hc) (by simp [hK]))).trans h
end Go.Proofs.Ytaoahghfmlegbaa
