/- The contract of the program's readNumbers: the numbers of a text with given marks between them. -/
import Derived.Test.YtaoahghfmlegbabDoorCut
import Derived.WalkSmall
import Derived.Deep.LoopGhost
import Derived.Lib.OthersKept
import Derived.Laws.OwnMore
namespace Go.Proofs.YtaoahghfmlegbabDoor
open Go.RowKit Go.Lib Txt

theorem infoInt : (Tryd.prog.info? 3).map (fun i => (i.zero, i.size, i.bytes)) = some (some (.int .i64 0), 1, 8) := by kernel_rfl

/-- what holds in the loop: the iterator stands at p; of the first k bytes the numbers are read: the last one (cur) and the others (old, the last of them first) -/
def RS (w : World) (s : ByteArray) (ms : List Int) (p k : Nat) (cur : Int) (old : List Int) (g cap : Nat) (wr : World) : Prop :=
  wr.heap[w.heap.size + 1]? = some (.stringIter s p) ∧
  wr.ownsRow w.heap.size 3 1 (.slice (some ⟨g, 0, none⟩) (old.length + 1) cap) (old.length + 1) ((old.reverse ++ [cur]).map (Value.int .i64)) ∧
  Below w.heap.size w wr ∧ tnums ms [-1] (s.data.toList.take k) = some (cur :: old) ∧ old.length ≤ ms.length ∧ ∀ x ∈ cur :: old, -1 ≤ x ∧ x ≤ 255

section
variable {w wr : World} {s : ByteArray} {ms : List Int} {p k : Nat} {cur : Int} {old : List Int} {g cap : Nat}

theorem rs_start (w : World) (s : ByteArray) (ms : List Int) : RS w s ms 0 0 (-1) [] w.heap.size 1 ((w.alloc (.cells #[.int .i64 (-1)] 3)).iter s 0) := by
  refine ⟨?_, ?_, ((Below.refl _ _).alloc (Nat.le_refl _) _).alloc (by simp) _, rfl, by simp, by intro x hx; simp at hx; omega⟩
  · have := World.iter_heap (w.alloc (.cells #[.int .i64 (-1)] 3)) s 0
    simpa using this
  · refine ⟨rfl, .inr ⟨w.heap.size, 1, #[.int .i64 (-1)], rfl, Nat.le_refl _, ?_, Nat.le_refl _, by unfold maxLen; omega, rfl, rfl⟩⟩
    unfold World.iter
    rw [Below.heap_alloc _ _ _ (by simp)]
    exact heap_new _ _

theorem RS.ne (h : RS w s ms p k cur old g cap wr) : g ≠ w.heap.size + 1 := by
  intro e
  rcases h.2.1.2 with ⟨h0, _⟩ | ⟨g', cap', c, hv, _, hh, _⟩
  · cases h0
  · cases hv
    rw [e, h.1] at hh
    cases hh
theorem RS.next (h : RS w s ms p k cur old g cap wr) (p' : Nat) : RS w s ms p' k cur old g cap (wr.iterAt (w.heap.size + 1) s p') := by
  refine ⟨iterAt_heap wr _ s p p' h.1, ?_, below_iterAt h.2.2.1 (by omega) s p', h.2.2.2⟩
  obtain ⟨h1, h2⟩ := h.2.1
  refine ⟨h1, ?_⟩
  rcases h2 with ⟨h0, _⟩ | ⟨g', cap', c, hv, a, hh, d⟩
  · cases h0
  · have e : g = g' := by cases hv; rfl
    have hne := h.ne
    exact .inr ⟨g', cap', c, hv, a, by rw [iterAt_other _ _ _ _ _ (by omega)]; exact hh, d⟩
theorem RS.cell (h : RS w s ms p k cur old g cap wr) : wr.cell? ⟨g, old.length, none⟩ = some (.int .i64 cur) := by
  have := h.2.1.cells (g := g) rfl old.length (.int .i64 cur) (by simp)
  have e : (⟨g, 0, none⟩ : Addr).add old.length = ⟨g, old.length, none⟩ := by unfold Addr.add; split <;> simp_all
  rw [e] at this
  exact this
theorem RS.frozen (h : RS w s ms p k cur old g cap wr) : wr.frozen? ⟨g, old.length, none⟩ = false := h.2.1.frozenAt _
theorem RS.low (h : RS w s ms p k cur old g cap wr) : w.heap.size ≤ g := (h.2.1.lt g rfl).1
theorem RS.size (h : RS w s ms p k cur old g cap wr) : w.heap.size + 1 < wr.heap.size := by
  have := (Array.getElem?_eq_some_iff.1 h.1).1
  exact this
theorem step_take (hlt : k < s.size) (h : tnums ms [-1] (s.data.toList.take k) = some (cur :: old)) : tnums ms [-1] (s.data.toList.take (k + 1)) = stepN ms (cur :: old) (s[k]).toNat := by
  rw [take_snoc s k hlt, tnums_append, h]
  simp only [Option.bind_some, tnums]
  cases stepN ms (cur :: old) (s[k]).toNat <;> rfl
theorem addF_le {cur c v : Int} (h : addF cur c = some v) (hc : -1 ≤ cur) : 0 ≤ v ∧ v ≤ 255 := by
  refine ⟨addF_ne h hc, ?_⟩
  unfold addF at h
  by_cases h1 : c < 48 ∨ 57 < c
  · rw [if_pos h1] at h; cases h
  · rw [if_neg h1] at h
    by_cases h2 : cur = -1
    · rw [if_pos h2] at h; cases h; omega
    · rw [if_neg h2] at h
      by_cases h3 : cur = 0
      · rw [if_pos h3] at h; cases h
      · rw [if_neg h3] at h
        by_cases h4 : 256 ≤ cur * 10 + (c - 48)
        · rw [if_pos h4] at h; cases h
        · rw [if_neg h4] at h; cases h; omega
theorem RS.store (h : RS w s ms (k + 1) k cur old g cap wr) (hlt : k < s.size) {v : Int} (hv : -1 ≤ v ∧ v ≤ 255) (hst : stepN ms (cur :: old) (s[k]).toNat = some (v :: old)) :
    RS w s ms (k + 1) (k + 1) v old g cap (wr.setCell ⟨g, old.length, none⟩ (.int .i64 v)) := by
  have hs := h.2.1.stored old.length (.int .i64 v)
  refine ⟨?_, ?_, h.2.2.1.setCell h.low _, ?_, h.2.2.2.2.1, ?_⟩
  · rw [Below.heap_setCell _ _ _ _ (by have := h.ne; simp; omega)]
    exact h.1
  · have e : ((old.reverse ++ [cur]).map (Value.int .i64)).set old.length (.int .i64 v) = (old.reverse ++ [v]).map (Value.int .i64) := by
      rw [List.map_append, List.set_append_right _ _ (by simp)]
      simp
    rw [e] at hs
    exact hs.1
  · rw [step_take hlt h.2.2.2.1, hst]
  · intro x hx
    rcases List.mem_cons.1 hx with rfl | hx
    · exact hv
    · exact h.2.2.2.2.2 x (by simp [hx])
theorem RS.app (h : RS w s ms (k + 1) k cur old g cap wr) (hlt : k < s.size) (hst : stepN ms (cur :: old) (s[k]).toNat = some (-1 :: cur :: old)) (hl : old.length < ms.length) {o : Obj} {v' : Value} {w2 : World}
    (hown : w2.ownsRow w.heap.size 3 1 v' (old.length + 1 + 1) ((old.reverse ++ [cur]).map (Value.int .i64) ++ [.int .i64 (-1)])) (hgrow : (wr.alloc o).grownBy w2 (some g)) :
    ∃ g' cap', v' = .slice (some ⟨g', 0, none⟩) (old.length + 1 + 1) cap' ∧ RS w s ms (k + 1) (k + 1) (-1) (cur :: old) g' cap' w2 := by
  rcases hown.2 with ⟨_, h0⟩ | ⟨g', cap', c, hv, hrest⟩
  · omega
  refine ⟨g', cap', hv, ?_, ?_, ?_, ?_, by simp; omega, ?_⟩
  · rw [hgrow.block (w.heap.size + 1) (by have := h.size; simp; omega) (fun e => h.ne (Option.some.inj e).symm), Below.heap_alloc _ _ _ h.size]
    exact h.1
  · subst hv
    have e : (((cur :: old).reverse ++ [-1]).map (Value.int .i64)) = (old.reverse ++ [cur]).map (Value.int .i64) ++ [.int .i64 (-1)] := by simp
    rw [e]
    exact hown
  · exact (h.2.2.1.alloc h.2.2.1.size o).grown hgrow (by have := h.size; simp; omega) (fun j hj => by cases hj; exact h.low)
  · rw [step_take hlt h.2.2.2.1, hst]
  · intro x hx
    rcases List.mem_cons.1 hx with rfl | hx
    · omega
    · exact h.2.2.2.2.2 x hx
theorem RS.fail (h : RS w s ms p k cur old g cap wr) (hlt : k < s.size) (hst : stepN ms (cur :: old) (s[k]).toNat = none) : readN ms s.data.toList = none := by
  have e : s.data.toList = s.data.toList.take (k + 1) ++ s.data.toList.drop (k + 1) := (List.take_append_drop _ _).symm
  unfold readN
  rw [e, tnums_append, step_take hlt h.2.2.2.1, hst]
  rfl
theorem RS.done (h : RS w s ms p k cur old g cap wr) (hk : k = s.size) : readN ms s.data.toList = if old.length + 1 ≤ ms.length ∨ cur = -1 then none else some (cur :: old) := by
  have e : s.data.toList.take k = s.data.toList := List.take_of_length_le (by simp [hk])
  have hr := h.2.2.2.1
  rw [e] at hr
  unfold readN
  rw [hr]
  simp
end

/-- how readNumbers ends -/
def ReadEnd (ms : List Int) (l : List UInt8) (e : Ending) (w' : World) : Prop :=
  match readN ms l with
  | none => ∃ s', e = .returned (.tuple #[.slice none 0 0, .iface 52 (.string s')])
  | some ns => ∃ g cap, e = .returned (.tuple #[.slice (some ⟨g, 0, none⟩) (ms.length + 1) cap, .nilIface]) ∧ ns.length = ms.length + 1 ∧
      (∀ j x, ns.reverse[j]? = some x → w'.cell? ⟨g, j, none⟩ = some (.int .i64 x)) ∧ ∀ x ∈ ns, -1 ≤ x ∧ x ≤ 255
theorem readEnd_no {ms : List Int} {l : List UInt8} {w' : World} {s' : ByteArray} (h : readN ms l = none) : ReadEnd ms l (.returned (.tuple #[.slice none 0 0, .iface 52 (.string s')])) w' := by
  unfold ReadEnd
  rw [h]
  exact ⟨s', rfl⟩
theorem RS.fine {w wr : World} {s : ByteArray} {ms : List Int} {p k : Nat} {cur : Int} {old : List Int} {g cap : Nat} (h : RS w s ms p k cur old g cap wr) (hk : k = s.size) (hl : old.length = ms.length) (hc : ¬ cur = -1) :
    ReadEnd ms s.data.toList (.returned (.tuple #[.slice (some ⟨g, 0, none⟩) (ms.length + 1) cap, .nilIface])) wr := by
  unfold ReadEnd
  rw [h.done hk, if_neg (by omega)]
  refine ⟨g, cap, rfl, by simp [hl], ?_, h.2.2.2.2.2⟩
  intro j x hj
  have := h.2.1.cells (g := g) rfl j (.int .i64 x) (by
    rw [List.reverse_cons] at hj
    rw [List.getElem?_map, hj]
    rfl)
  have e : (⟨g, 0, none⟩ : Addr).add j = ⟨g, j, none⟩ := by unfold Addr.add; split <;> simp_all
  rw [e] at this
  exact this
/-- the next rune: the byte itself, or none of the signs that count -/
theorem rune_at (w wr : World) (s : ByteArray) (ms : List Int) (k : Nat) (cur : Int) (old : List Int) (g cap : Nat) (h : RS w s ms k k cur old g cap wr) (hlt : k < s.size) :
    ∃ (r : Int) (W1 : World) (p : Nat), (∀ ty, (Instr.next (.pointer (some ⟨w.heap.size + 1, 0, none⟩)) true ty).run Tryd.prog wr = .ok (.tuple #[.bool true, .int .i64 k, .int .i32 r]) W1) ∧
      RS w s ms p k cur old g cap W1 ∧ 0 ≤ r ∧ ((r = (s[k]).toNat ∧ p = k + 1) ∨ (128 ≤ r ∧ 128 ≤ (s[k]).toNat)) := by
  by_cases ha : (s[k]).toNat < 128
  · exact ⟨(s[k]).toNat, _, k + 1, fun ty => run_next_ascii_at wr (w.heap.size + 1) s k ty h.1 hlt ha, h.next _, by omega, .inl ⟨rfl, rfl⟩⟩
  · have hd := decode_high s k hlt (by omega)
    exact ⟨(Utf8.decode s k).1, _, _, fun ty => run_next_any_at wr (w.heap.size + 1) s k ty h.1 hlt, h.next _, by omega, .inr ⟨by omega, by omega⟩⟩
/-- no mark, and no figure: the step fails -/
theorem step_no {ms : List Int} {cur : Int} {old : List Int} {c r : Int} (hlow : ∀ x ∈ ms, 0 ≤ x ∧ x < 48) (hr : r = c ∨ (128 ≤ r ∧ 128 ≤ c)) (hmark : ¬ (ms[old.length]? = some r ∧ cur ≠ -1)) (hadd : addF cur r = none) : stepN ms (cur :: old) c = none := by
  unfold stepN
  rcases hr with rfl | ⟨_, hc⟩
  · simp only
    rw [if_neg hmark, hadd]; rfl
  · simp only
    rw [if_neg, addF_no (.inr (by omega))]
    · rfl
    · intro hh
      have := hlow c (List.mem_of_getElem? hh.1)
      omega
theorem step_fig {ms : List Int} {cur : Int} {old : List Int} {r v : Int} (hmark : ¬ (ms[old.length]? = some r ∧ cur ≠ -1)) (hadd : addF cur r = some v) : stepN ms (cur :: old) r = some (v :: old) := by
  unfold stepN
  simp only
  rw [if_neg hmark, hadd]; rfl
theorem step_mark {ms : List Int} {cur : Int} {old : List Int} {r : Int} (h : ms[old.length]? = some r) (hc : cur ≠ -1) : stepN ms (cur :: old) r = some (-1 :: cur :: old) := by
  unfold stepN
  simp only
  rw [if_pos ⟨h, hc⟩]
theorem addF_some_dig {cur c v : Int} (h : addF cur c = some v) : 48 ≤ c ∧ c ≤ 57 := by
  by_cases hc : c < 48 ∨ 57 < c
  · rw [addF_no hc] at h; cases h
  · omega

set_option maxRecDepth 100000 in
set_option maxHeartbeats 1000000 in
theorem read_any (s : ByteArray) (ms : List Int) (mb : Nat) (w : World) (_hs : s.size ≤ 1048576) (hm : ms.length ≤ 2) (hmb : mb < w.heap.size)
    (hmc : ∀ j (hj : j < ms.length), w.cell? ⟨mb, j, none⟩ = some (.int .i32 ms[j])) (hlow : Hid (∀ x ∈ ms, 0 ≤ x ∧ x < 48)) :
    Calls Tryd.prog 29 #[.string s, .slice (some ⟨mb, 0, none⟩) ms.length ms.length] w fun e w' => ReadEnd ms s.data.toList e w' ∧ Below w.heap.size w w' := by
  obtain ⟨i0, hi, hz0, hz1, hz2⟩ := info_parts infoInt
  go_enter Tryd.func29, Tryd.ntmps29
  go_wp2_with fail
  go_loopg [6] s.size (fun gk v wr => ∃ (k : Nat) (cur : Int) (old : List Int) (g cap : Nat), k + gk = s.size ∧ v = .slice (some ⟨g, 0, none⟩) (old.length + 1) cap ∧ RS w s ms k k cur old g cap wr)
  case atStart => exact ⟨0, -1, [], w.heap.size, 1, by omega, rfl, rs_start w s ms⟩
  case round =>
    obtain ⟨k, cur, old, g, cap, hk, rfl, hrs⟩ := hrel
    obtain ⟨n, hn⟩ : ∃ n, n = old.length := ⟨_, rfl⟩
    have hnm : n ≤ ms.length := by rw [hn]; exact hrs.2.2.2.2.1
    have hcb := hrs.2.2.2.2.2 cur (by simp)
    obtain ⟨hcb1, hcb2⟩ := hcb
    by_cases hlt : k < s.size
    · obtain ⟨r, W1, p, hnx, hrs1, hr0, hr⟩ := rune_at w wr s ms k cur old g cap hrs hlt
      have hcell : W1.cell? ⟨g, n, none⟩ = some (.int .i64 cur) := by rw [hn]; exact hrs1.cell
      have hfz : W1.frozen? ⟨g, n, none⟩ = false := by rw [hn]; exact hrs1.frozen
      have HR : Hid (RS w s ms p k cur old g cap W1) := hrs1
      have HN : Hid (n = old.length) := hn
      have Hr : Hid ((r = (s[k]).toNat ∧ p = k + 1) ∨ (128 ≤ r ∧ 128 ≤ (s[k]).toNat)) := hr
      have Hr2 : Hid (r = ((s[k]).toNat : Int) ∨ (128 ≤ r ∧ 128 ≤ ((s[k]).toNat : Int))) := by
        unfold Hid
        rcases hr with h | h
        · exact .inl h.1
        · exact .inr ⟨h.1, by omega⟩
      have hmk : ∀ hj : n < ms.length, W1.cell? ⟨mb, n, none⟩ = some (.int .i32 ms[n]) := fun hj => by
        rw [hrs1.2.2.1.cell (p := ⟨mb, n, none⟩) hmb]; exact hmc n hj
      rw [← hn]
      clear hn hr hrs hrs1 hmc
      by_cases hj : n < ms.length
      · have hmk1 := hmk hj
        clear hmk
        obtain ⟨mk, hmkd⟩ : ∃ mk, mk = ms[n] := ⟨_, rfl⟩
        rw [← hmkd] at hmk1
        have HM : Hid (ms[n]? = some mk) := by unfold Hid; rw [hmkd]; exact List.getElem?_eq_getElem hj
        clear hmkd
        by_cases he : r = mk
        · have hmlow : 0 ≤ mk ∧ mk < 48 := hlow.out mk (List.mem_of_getElem? HM.out)
          obtain ⟨hml, hmu⟩ := hmlow
          subst he
          by_cases hc : cur = -1
          · subst hc
            have HA : Hid (addF (-1) r = none) := addF_no (.inl hmu)
            have HX : Hid (¬ (ms[old.length]? = some r ∧ (-1 : Int) ≠ -1)) := fun h => h.2 rfl
            go_wp2_with (go_at_call 35; refine (figure_no (-1) r _ hcb1 hcb2 HA.out).mono ?_; rintro e w' ⟨⟨sf, rfl⟩, rfl⟩)
            go_ret2
            exact ⟨readEnd_no (HR.out.fail hlt (step_no hlow.out Hr2.out HX.out HA.out)), HR.out.2.2.1⟩
          · have ht3 : (cur != -1) = true := by simpa using hc
            have HC : Hid (cur ≠ -1) := hc
            clear hc
            have hown : W1.ownsRow w.heap.size 3 1 (.slice (some ⟨g, 0, none⟩) (n + 1) cap) (n + 1) ((old.reverse ++ [cur]).map (Value.int .i64)) := by rw [HN.out]; exact HR.out.2.1
            go_wp2_with (at_builtin; refine wpList_append_own _ rfl _ _ 48 rfl w.heap.size 3 i0 (.int .i64 0) 1 8 Tryd.underlying48 hi hz0 hz1 hz2 rfl (by decide) _ _ _ rfl (hown.alloc _) ⟨W1.heap.size, 0, none⟩ 1 1 [.int .i64 (-1)] rfl rfl (cell_one _ _ _) ?c2 ?c3 ?c4 ?c5 ?_)
            case c2 => intro u hu; simp at hu; subst hu; rfl
            case c3 => unfold maxLen; omega
            case c4 => omega
            case c5 => have := HR.out.size; simp; omega
            · intro v' w2 hown' hgrow _
              have hp : r = ((s[k]).toNat : Int) ∧ p = k + 1 := by
                rcases Hr.out with h | h
                · exact h
                · omega
              have HR1 := HR.out
              rw [hp.2] at HR1
              have hst : stepN ms (cur :: old) r = some (-1 :: cur :: old) := step_mark (by rw [← HN.out]; exact HM.out) HC.out
              rw [hp.1] at hst
              rw [HN.out] at hown'
              obtain ⟨g', cap', hv', hrs2⟩ := HR1.app hlt hst (by rw [← HN.out]; exact hj) (by simpa using hown') hgrow
              rw [hv']
              have HF : Hid (RS w s ms (k + 1) (k + 1) (-1) (cur :: old) g' cap' w2) := hrs2
              clear hown' hgrow hown hrs2 hst HR1 hp hv'
              go_wp2
              go_roundg (gk - 1)
              case measure => omega
              case rel => exact ⟨k + 1, -1, cur :: old, g', cap', by omega, rfl, HF.out⟩
        · have ht2 : (r == mk) = false := by rw [beq_eq_false_iff_ne]; exact he
          have HX : Hid (¬ (ms[n]? = some r ∧ cur ≠ -1)) := fun h => he (Option.some.inj (h.1.symm.trans HM.out))
          clear he
          have HX' : Hid (¬ (ms[old.length]? = some r ∧ cur ≠ -1)) := by unfold Hid; rw [← HN.out]; exact HX.out
          cases ha : addF cur r with
          | none =>
            have HA : Hid (addF cur r = none) := ha
            clear ha
            go_wp2_with (go_at_call 35; refine (figure_no cur r _ hcb1 hcb2 HA.out).mono ?_; rintro e w' ⟨⟨sf, rfl⟩, rfl⟩)
            go_ret2
            exact ⟨readEnd_no (HR.out.fail hlt (step_no hlow.out Hr2.out HX'.out HA.out)), HR.out.2.2.1⟩
          | some v =>
            have HA : Hid (addF cur r = some v) := ha
            clear ha
            go_wp2_with (go_at_call 35; refine (figure_yes cur r v _ hcb1 hcb2 HA.out).mono ?_; rintro e w' ⟨rfl, rfl⟩)
            go_roundg (gk - 1)
            case measure => omega
            case rel =>
              have hd := addF_some_dig HA.out
              have hp : r = ((s[k]).toNat : Int) ∧ p = k + 1 := by
                rcases Hr.out with h | h
                · exact h
                · omega
              have hst := step_fig HX'.out HA.out
              have HR1 := HR.out
              rw [hp.2] at HR1
              rw [hp.1] at hst
              have h2 := HR1.store hlt (by have := addF_le HA.out hcb1; omega) hst
              rw [← HN.out] at h2
              exact ⟨k + 1, v, old, g, cap, by omega, by rw [HN.out], h2⟩
      · have ht1 : decide ((n : Int) < (ms.length : Int)) = false := decide_eq_false (by omega)
        have HX : Hid (¬ (ms[n]? = some r ∧ cur ≠ -1)) := fun h => by
          rw [List.getElem?_eq_none (by omega)] at h
          exact absurd h.1 (by simp)
        clear hmk
        have HX' : Hid (¬ (ms[old.length]? = some r ∧ cur ≠ -1)) := by unfold Hid; rw [← HN.out]; exact HX.out
        cases ha : addF cur r with
        | none =>
          have HA : Hid (addF cur r = none) := ha
          clear ha
          go_wp2_with (go_at_call 35; refine (figure_no cur r _ hcb1 hcb2 HA.out).mono ?_; rintro e w' ⟨⟨sf, rfl⟩, rfl⟩)
          go_ret2
          exact ⟨readEnd_no (HR.out.fail hlt (step_no hlow.out Hr2.out HX'.out HA.out)), HR.out.2.2.1⟩
        | some v =>
          have HA : Hid (addF cur r = some v) := ha
          clear ha
          go_wp2_with (go_at_call 35; refine (figure_yes cur r v _ hcb1 hcb2 HA.out).mono ?_; rintro e w' ⟨rfl, rfl⟩)
          go_roundg (gk - 1)
          case measure => omega
          case rel =>
            have hd := addF_some_dig HA.out
            have hp : r = ((s[k]).toNat : Int) ∧ p = k + 1 := by
              rcases Hr.out with h | h
              · exact h
              · omega
            have hst := step_fig HX'.out HA.out
            have HR1 := HR.out
            rw [hp.2] at HR1
            rw [hp.1] at hst
            have h2 := HR1.store hlt (by have := addF_le HA.out hcb1; omega) hst
            rw [← HN.out] at h2
            exact ⟨k + 1, v, old, g, cap, by omega, by rw [HN.out], h2⟩
    · have hnx : ∀ ty, (Instr.next (.pointer (some ⟨w.heap.size + 1, 0, none⟩)) true ty).run Tryd.prog wr = _ := fun ty => run_next_end_at wr (w.heap.size + 1) s k ty hrs.1 hlt
      have hcell : wr.cell? ⟨g, n, none⟩ = some (.int .i64 cur) := by rw [hn]; exact hrs.cell
      have HR : Hid (RS w s ms k k cur old g cap wr) := hrs
      have HK : Hid (k = s.size) := by unfold Hid; omega
      rw [← hn]
      have HN : Hid (n = old.length) := hn
      clear hn hrs hmc hlow
      by_cases hfew : n + 1 ≤ ms.length
      · go_wp2_with fail
        go_ret2
        exact ⟨readEnd_no (by rw [HR.out.done HK.out, if_pos (.inl (by rw [← HN.out]; exact hfew))]), HR.out.2.2.1⟩
      · obtain rfl : n = ms.length := by omega
        by_cases hc : cur = -1
        · have ht : (cur == -1) = true := by rw [hc]; rfl
          have HC : Hid (cur = -1) := hc
          clear hc
          go_wp2_with fail
          go_ret2
          exact ⟨readEnd_no (by rw [HR.out.done HK.out, if_pos (.inr HC.out)]), HR.out.2.2.1⟩
        · have ht : (cur == -1) = false := by rw [beq_eq_false_iff_ne]; exact hc
          have HC : Hid (¬ cur = -1) := hc
          clear hc
          go_wp2_with fail
          go_ret2
          exact ⟨HR.out.fine HK.out HN.out.symm HC.out, HR.out.2.2.1⟩
end Go.Proofs.YtaoahghfmlegbabDoor
