/- The least packet of which something holds, among the edges: least, at one closure. -/
import Derived.Test.YtaoahghfmlegbaaEd5
import Derived.Test.YtaoahghfmlegbaaEd6
namespace Go.Proofs.Ytaoahghfmlegbaa
open Go.RowKit Go.Lib Go.Maps


set_option maxRecDepth 100000 in
set_option maxHeartbeats 4000000 in
theorem leastD (z1 z2 : Nat) (P : Pk → Bool) (I : World → Prop) (Z : Nat → Prop) (mb : Nat) (E : List (Int × Int)) (w : World) (hm : EdM w mb 1000 E) (e0 : (0, 0) ∈ E) (e1 : (1, 0) ∈ E) (e2 : (2, 1) ∈ E)
    (hE : ∀ p a, (p, a) ∈ E → 0 ≤ a ∧ a ≤ 65535) (hI : I w) (hIb : ∀ W W', I W → Below W.heap.size W W' → I W') (hZ : ∀ k, Z k → k < w.heap.size)
    (hcl : ∀ W f t n, I W → 0 ≤ f → f ≤ 65535 → 0 ≤ t → t ≤ 65535 → Calls Try.prog 65 #[pkV (f, t, n), .pointer (some ⟨z1, 0, none⟩), .pointer (some ⟨z2, 0, none⟩)] W fun e W' => e = .returned (.bool (P (f, t, n))) ∧ I W' ∧ KeepZ Z W W') :
    Calls Try.prog 64 #[.map (some mb), .func (.func 65) #[] #[.pointer (some ⟨z1, 0, none⟩), .pointer (some ⟨z2, 0, none⟩)]] w fun e w' => ∃ r, e = .returned (pkO r) ∧ (∃ F T K, IsPart E 0 F ∧ IsPart E 1 T ∧ IsPart E 2 K ∧ Found F T K (fun p => P p = true) r) ∧ KeepZ Z w w' := by
  have wf0 : i64ok 0 := i64_of (by omega) (by omega)
  have wf1 : i64ok 1 := i64_of (by omega) (by omega)
  have wf2 : i64ok 2 := i64_of (by omega) (by omega)
  have hmw := hm.lt
  have HB : Below (w.alloc (.cells #[.int .i64 0, .int .i64 0, .int .i64 0] 42)).heap.size (w.alloc (.cells #[.int .i64 0, .int .i64 0, .int .i64 0] 42)) (w.alloc (.cells #[.int .i64 0, .int .i64 0, .int .i64 0] 42)) := Below.refl _ _
  have HX : Below w.heap.size w (w.alloc (.cells #[.int .i64 0, .int .i64 0, .int .i64 0] 42)) := (Below.refl _ _).more _
  have hX1 : w.heap.size < (w.alloc (.cells #[.int .i64 0, .int .i64 0, .int .i64 0] 42)).heap.size := by simp
  have hX2 := box3n w 0 0 0 42
  have hX3 : ∀ j, (w.alloc (.cells #[.int .i64 0, .int .i64 0, .int .i64 0] 42)).frozen? ⟨w.heap.size, j, none⟩ = false := fun j => fz_new _ _ _ _
  have T1 : Hid True := trivial
  have T2 : Hid True := trivial
  have T3 : Hid True := trivial
  have mX := hm.below HX
  have HI : Hid (I w) := hI
  have HIb : Hid (∀ W W', I W → Below W.heap.size W W' → I W') := hIb
  have HC : Hid (∀ W f t n, I W → 0 ≤ f → f ≤ 65535 → 0 ≤ t → t ≤ 65535 → Calls Try.prog 65 #[pkV (f, t, n), .pointer (some ⟨z1, 0, none⟩), .pointer (some ⟨z2, 0, none⟩)] W fun e W' => e = .returned (.bool (P (f, t, n))) ∧ I W' ∧ KeepZ Z W W') := hcl
  clear hI hIb hcl
  go_enter Try.func64, Try.ntmps64
  go_wp2_with (first | (go_at_call 90; clear T1; refine (of_any mb 1000 E 0 0 _ mX (by omega) wf0 wf0 e0).mono ?_; rintro e W1 ⟨v1, rfl, F, rF, aF, pF, lF, hb1⟩; have b1 := below_then HB hb1; have mX1 := mX.below hb1; replace rF := rF.mono (Nat.le_succ_of_le hX1); obtain ⟨qF, cF, rfl⟩ := rF.form) | (go_at_call 90; clear T2; refine (of_any mb 1000 E 1 0 _ mX1 (by omega) wf1 wf0 e1).mono ?_; rintro e W2 ⟨v2, rfl, T, rT, aT, pT, lT, hb2⟩; have b2 := below_then b1 hb2; have mX2 := mX1.below hb2; replace rF := rF.below hb2; replace rT := rT.mono (Nat.le_trans hX1 (Nat.le_succ_of_le b1.size)); obtain ⟨qT, cT, rfl⟩ := rT.form) | (go_at_call 90; clear T3; refine (of_any mb 1000 E 2 1 _ mX2 (by omega) wf2 wf1 e2).mono ?_; rintro e W3 ⟨v3, rfl, K, rK, aK, pK, lK, hb3⟩; have b3 := below_then b2 hb3; replace rF := rF.below hb3; replace rT := rT.below hb3; replace rK := rK.mono (Nat.le_trans hX1 (Nat.le_succ_of_le b2.size)); obtain ⟨qK, cK, rfl⟩ := rK.form))
  have posF : 0 < F.length := List.length_pos_of_mem ((pF 0).2 ⟨wf0, e0⟩)
  have posT : 0 < T.length := List.length_pos_of_mem ((pT 0).2 ⟨wf0, e1⟩)
  have posK : 0 < K.length := List.length_pos_of_mem ((pK 1).2 ⟨wf1, e2⟩)
  have hz1 : ∀ k, Z k → k < w.heap.size + 1 := fun k h => Nat.lt_succ_of_lt (hZ k h)
  have RF : ∀ W, KeepZ Z W3 W → RdI W (.slice qF F.length cF) F := fun W h => rF.keepZ h hz1
  have RT : ∀ W, KeepZ Z W3 W → RdI W (.slice qT T.length cT) T := fun W h => rT.keepZ h hz1
  have RK : ∀ W, KeepZ Z W3 W → RdI W (.slice qK K.length cK) K := fun W h => rK.keepZ h hz1
  obtain ⟨gF, rfl, _, _, xF⟩ := (RF _ (.refl _ _)).at posF
  clear xF
  obtain ⟨gT, rfl, _, _, xT⟩ := (RT _ (.refl _ _)).at posT
  clear xT
  obtain ⟨gK, rfl, _, _, xK⟩ := (RK _ (.refl _ _)).at posK
  clear xK
  have hzr : ¬ Z w.heap.size := fun h => Nat.lt_irrefl _ (hZ _ h)
  have hlV : w.heap.size < W3.heap.size := Nat.lt_of_lt_of_le hX1 b3.size
  have hres : ∀ W, KeepZ Z W3 W → (W.cell? ⟨w.heap.size, 0, none⟩ = some (.int .i64 0) ∧ W.cell? ⟨w.heap.size, 1, none⟩ = some (.int .i64 0) ∧ W.cell? ⟨w.heap.size, 2, none⟩ = some (.int .i64 0)) ∧ ∀ j, W.frozen? ⟨w.heap.size, j, none⟩ = false := fun W h => by
    have e : ∀ j, W.cell? ⟨w.heap.size, j, none⟩ = (w.alloc (.cells #[.int .i64 0, .int .i64 0, .int .i64 0] 42)).cell? ⟨w.heap.size, j, none⟩ := fun j => ((h.2.1 _ j hlV hzr).1).trans (b3.cell (p := ⟨w.heap.size, j, none⟩) hX1)
    have e2 : ∀ j, W.frozen? ⟨w.heap.size, j, none⟩ = false := fun j => ((h.2.1 _ j hlV hzr).2).trans ((b3.frozen (p := ⟨w.heap.size, j, none⟩) hX1).trans (hX3 j))
    exact ⟨⟨(e 0).trans hX2.1, (e 1).trans hX2.2.1, (e 2).trans hX2.2.2⟩, e2⟩
  have hIV : Hid (I W3) := HIb.out _ _ HI.out (below_then HX b3)
  have hKw : Hid (∀ W, KeepZ Z W3 W → KeepZ Z w W) := fun W h => (KeepZ.of_below (below_then HX b3)).trans h
  have PF : Hid (IsPart E 0 F) := ⟨aF, pF⟩
  have PT : Hid (IsPart E 1 T) := ⟨aT, pT⟩
  have PK : Hid (IsPart E 2 K) := ⟨aK, pK⟩
  have BF : Hid (∀ x (h : x < F.length), 0 ≤ F[x] ∧ F[x] ≤ 65535) := fun x h => hE _ _ ((pF _).1 (List.getElem_mem h)).2
  have BT : Hid (∀ x (h : x < T.length), 0 ≤ T[x] ∧ T[x] ≤ 65535) := fun x h => hE _ _ ((pT _).1 (List.getElem_mem h)).2
  have HZ : Hid (∀ k, Z k → k < w.heap.size) := hZ
  clear hE hZ hz1 rF rT rK aF pF aT pT aK pK HB HX hX1 hX2 hX3 hb1 hb2 hb3 b1 b2 b3 mX mX1 mX2 hm e0 e1 e2 HI wf0 wf1 wf2 hzr
  go_loopw [24] (fun i wr => ∃ x : Nat, x ≤ F.length ∧ i = .int .i64 x ∧ Hid (∀ i' (h : i' < F.length), i' < x → ∀ t ∈ T, ∀ c ∈ K, ¬ P (F[i'], t, c) = true) ∧ Hid (I wr ∧ KeepZ Z W3 wr)) (fun i _ => F.length - (intOf i).toNat)
  case atStart => exact ⟨0, Nat.zero_le _, rfl, fun i' _ h => absurd h (Nat.not_lt_zero _), hIV.out, .refl _ _⟩
  case round =>
    obtain ⟨x, hx, rfl, n1, hB1⟩ := hrel
    by_cases hltx : x < F.length
    · obtain ⟨_, ee, _, _, cf⟩ := (RF _ hB1.out.2).at hltx
      cases ee
      obtain ⟨f, hFx⟩ : ∃ f, F[x] = f := ⟨_, rfl⟩
      have hbf := BF.out x hltx
      rw [hFx] at cf hbf
      have HFx : Hid (F[x] = f) := hFx
      have Hbf : Hid (0 ≤ f ∧ f ≤ 65535) := hbf
      clear hFx hbf
      go_wp2_with fail
      go_loopw [30] (fun i wr => ∃ y : Nat, y ≤ T.length ∧ i = .int .i64 y ∧ Hid (∀ j' (h : j' < T.length), j' < y → ∀ c ∈ K, ¬ P (f, T[j'], c) = true) ∧ Hid (I wr ∧ KeepZ Z W3 wr)) (fun i _ => T.length - (intOf i).toNat)
      case atStart => exact ⟨0, Nat.zero_le _, rfl, fun i' _ h => absurd h (Nat.not_lt_zero _), hB1⟩
      case round =>
        obtain ⟨y, hy, rfl, n2, hB2⟩ := hrel
        by_cases hlty : y < T.length
        · obtain ⟨_, ee, _, _, ct⟩ := (RT _ hB2.out.2).at hlty
          cases ee
          obtain ⟨t, hTy⟩ : ∃ t, T[y] = t := ⟨_, rfl⟩
          have hbt := BT.out y hlty
          rw [hTy] at ct hbt
          have HTy : Hid (T[y] = t) := hTy
          have Hbt : Hid (0 ≤ t ∧ t ≤ 65535) := hbt
          clear hTy hbt cf
          go_wp2_with fail
          go_loopw [36] (fun i wr => ∃ d : Nat, d ≤ K.length ∧ i = .int .i64 d ∧ Hid (∀ c (h : c < K.length), c < d → ¬ P (f, t, K[c]) = true) ∧ Hid (I wr ∧ KeepZ Z W3 wr)) (fun i _ => K.length - (intOf i).toNat)
          case atStart => exact ⟨0, Nat.zero_le _, rfl, fun i' _ h => absurd h (Nat.not_lt_zero _), hB2⟩
          case round =>
            obtain ⟨d, hd, rfl, n3, hB3⟩ := hrel
            by_cases hltd : d < K.length
            · obtain ⟨_, ee, _, _, ck⟩ := (RK _ hB3.out.2).at hltd
              cases ee
              obtain ⟨c, hKd⟩ : ∃ c, K[d] = c := ⟨_, rfl⟩
              rw [hKd] at ck
              have HKd : Hid (K[d] = c) := hKd
              have bn : Below wr.heap.size wr (wr.alloc (.cells #[.int .i64 f, .int .i64 t, .int .i64 c] 42)) := (Below.refl _ _).more _
              have C := HC.out (wr.alloc (.cells #[.int .i64 f, .int .i64 t, .int .i64 c] 42)) f t c (HIb.out _ _ hB3.out.1 bn) Hbf.out.1 Hbf.out.2 Hbt.out.1 Hbt.out.2
              have bx := box3n wr f t c 42
              have hKn : KeepZ Z W3 (wr.alloc (.cells #[.int .i64 f, .int .i64 t, .int .i64 c] 42)) := hB3.out.2.trans (.of_below bn)
              have hwl : wr.heap.size < (wr.alloc (.cells #[.int .i64 f, .int .i64 t, .int .i64 c] 42)).heap.size := by simp
              have hnz : ¬ Z wr.heap.size := fun h => by have := HZ.out _ h; have := hB3.out.2.1; omega
              clear hKd bn
              cases hso : P (f, t, c) with
              | false =>
                rw [hso] at C
                have N3 : Hid (∀ c (h : c < K.length), c < d + 1 → ¬ P (f, t, K[c]) = true) := fun c' h1 h2 => by
                  by_cases e : c' = d
                  · subst e; rw [HKd.out, hso]; simp
                  · exact n3.out c' h1 (by omega)
                clear hso n3 bx
                go_wp2_with (go_at_call 65; refine C.mono ?_; clear C; rintro e w4 ⟨rfl, hI4, hK4⟩)
                go_roundw
                case rel => exact ⟨d + 1, hltd, rfl, N3, hI4, hKn.trans hK4⟩
                case measure => simp [intOf]; omega
              | true =>
                rw [hso] at C
                have hL : Found F T K (fun p => P p = true) (some (F[x], T[y], K[d])) := found_at PF.out.1 PT.out.1 PK.out.1 hltx hlty hltd (by show P (F[x], T[y], K[d]) = true; rw [HFx.out, HTy.out, HKd.out]; exact hso) n1.out (by intro j' hj' hlt' c hc; show ¬ P (F[x], T[j'], c) = true; rw [HFx.out]; exact n2.out j' hj' hlt' c hc) (by intro k' hk' hlt'; show ¬ P (F[x], T[y], K[k']) = true; rw [HFx.out, HTy.out]; exact n3.out k' hk' hlt')
                rw [HKd.out, HFx.out, HTy.out] at hL
                have HL : Hid (Found F T K (fun p => P p = true) (some (f, t, c))) := hL
                clear hL hso n1 n2 n3
                obtain ⟨x0, x1, x2⟩ := bx
                go_wp2_with (go_at_call 65; refine C.mono ?_; clear C; rintro e w4 ⟨rfl, hI4, hK4⟩; have y0 := (hK4.2.1 _ 0 hwl hnz).1.trans x0; have y1 := (hK4.2.1 _ 1 hwl hnz).1.trans x1; have y2 := (hK4.2.1 _ 2 hwl hnz).1.trans x2; have hV4 := hKn.trans hK4; obtain ⟨⟨r0, r1, r2⟩, zf⟩ := hres _ hV4; clear x0 x1 x2)
                refine bodyPost_ret (v := pkO (some (f, t, c))) (by simp [results, Try.results64, go_sem, r0, r1, r2]) rfl ⟨_, rfl, ⟨F, T, K, PF.out, PT.out, PK.out, HL.out⟩, ?_⟩
                exact ((hKw.out _ hV4).set3 _ _ _)
            · obtain rfl : d = K.length := by omega
              have N2 : Hid (∀ j' (h : j' < T.length), j' < y + 1 → ∀ c ∈ K, ¬ P (f, T[j'], c) = true) := fun j' hj' hlt' c hc => by
                by_cases e : j' = y
                · subst e
                  obtain ⟨k', hk', rfl⟩ := List.getElem_of_mem hc
                  rw [HTy.out]
                  exact n3.out k' hk' hk'
                · exact n2.out j' hj' (by omega) c hc
              clear n2 n3
              go_wp2
              go_roundw
              case rel => exact ⟨y + 1, hlty, rfl, N2, hB3⟩
              case measure => simp [intOf]; omega
        · obtain rfl : y = T.length := by omega
          have N1 : Hid (∀ i' (h : i' < F.length), i' < x + 1 → ∀ t ∈ T, ∀ c ∈ K, ¬ P (F[i'], t, c) = true) := fun i' hi' hlt' t ht c hc => by
            by_cases e : i' = x
            · subst e
              obtain ⟨j', hj', rfl⟩ := List.getElem_of_mem ht
              rw [HFx.out]
              exact n2.out j' hj' hj' c hc
            · exact n1.out i' hi' (by omega) t ht c hc
          clear n1 n2
          go_wp2
          go_roundw
          case rel => exact ⟨x + 1, hltx, rfl, N1, hB2⟩
          case measure => simp [intOf]; omega
    · obtain rfl : x = F.length := by omega
      have HL : Hid (Found F T K (fun p => P p = true) none) := found_none fun i' hi' t ht c hc => n1.out i' hi' hi' t ht c hc
      obtain ⟨⟨r0, r1, r2⟩, zf⟩ := hres _ hB1.out.2
      clear n1
      go_wp2
      refine bodyPost_ret (v := pkO none) (by simp [results, Try.results64, go_sem, r0, r1, r2]) rfl ⟨_, rfl, ⟨F, T, K, PF.out, PT.out, PK.out, HL.out⟩, ?_⟩
      exact ((hKw.out _ hB1.out.2).set3 _ _ _)
end Go.Proofs.Ytaoahghfmlegbaa
