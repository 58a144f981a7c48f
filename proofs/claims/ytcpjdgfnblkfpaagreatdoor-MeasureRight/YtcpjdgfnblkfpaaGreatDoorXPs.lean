/-
  Package expansion: scale, with blocks that stay, by their contracts.
-/
import Derived.Test.YtcpjdgfnblkfpaaGreatDoorXP
import Derived.Test.YtcpjdgfnblkfpaaGreatDoorX9
namespace Go.Proofs.YtcpjdgfnblkfpaaGreatDoor
open Go Go.RowKit Go.Proofs.YtcpjdgfnblkfpaaGreatDoor.M
set_option linter.unusedSimpArgs false
set_option linter.unusedVariables false

set_option maxRecDepth 100000 in
set_option maxHeartbeats 1000000 in
theorem xscaleP {P : Nat → Prop} {v : Value} {s : Ls} {eo : Option Addr} {N ec : Nat} {d : Nat → Int} {b : Int} (w : World) (h : OutP P w v s) (hE : ∀ W, BelP P w W → Row W eo (N + 1) ec d) (hd : ∀ i, i ≤ N → rng (d i) ∧ pok (d i) = true) (hb : rng b) (pb : pok b = true) (h0 : ¬ rg b = 0) (hn : s.n + 2 * N ≤ 700000) (hB : PB P w) (H : ∀ W, BelP P w W → Hold4 W) :
    Calls Tryz.prog 85 #[v, .slice eo (N + 1) ec, .int .i64 b] w fun e w' => (sx d b N = true ∧ ∃ v', e = .returned v' ∧ OutP P w' v' (scl s d b N) ∧ BelP P w w') ∨ (sx d b N = false ∧ e = gaveX ∧ BelP P w w') := by
  have hz := fun W => xnought hb W
  rw [decide_eq_false h0] at hz
  have hR := hE w (BelP.refl _ _)
  have hle := hR.le
  have hmx := hR.max
  obtain ⟨bb, off, rfl, hbb, hc⟩ := hR.spot (by omega)
  have c0 := hc 0 (by omega)
  rw [Nat.add_zero] at c0
  have HE : Hid (∀ W, BelP P w W → Row W (some ⟨bb, off, none⟩) (N + 1) ec d) := hE
  have HH : Hid (∀ W, BelP P w W → Hold4 W) := H
  have HD : Hid (∀ i, i ≤ N → rng (d i) ∧ pok (d i) = true) := hd
  have HSQ : Hid (∀ k, k ≤ N → sx d b k = true → rng (sq d b k) ∧ pok (sq d b k) = true) := sq_fin hd hb
  have HSL := ss_le s d b
  have HB : Hid (rng b ∧ pok b = true) := ⟨hb, pb⟩
  have CP : Hid (∀ W, Hold4 W → Calls Tryz.prog 116 #[.int .i64 (d 0), .int .i64 b] W fun e w' => e = .returned (.tuple #[.int .i64 (sq d b 0), .int .i64 (prL (d 0) b), .bool (sx d b 0)]) ∧ Below W.heap.size W w') := fun W hW => xtwoProd (hd 0 (by omega)).1 hb (hd 0 (by omega)).2 pb W hW
  have HS0 : Hid (ss s d b 0 = s.add (prL (d 0) b)) := rfl
  have rl0 : rng (prL (d 0) b) := prL_rng (hd 0 (by omega)).1 hb
  have HNO : Hid (sx d b 0 = false → sx d b N = false) := fun hno => by
    cases hx : sx d b N
    · rfl
    · have := sx_mono (Nat.zero_le N) hx
      rw [hno] at this
      cases this
  clear hE H hd hc hR hb pb
  have hN1 : ((N : Int) + 1 == 0) = false := by simp; omega
  obtain ⟨ao0, cap0, rfl⟩ := h.shape
  cases hx0 : sx d b 0
  · rw [hx0] at CP
    generalize sq d b 0 = q0 at *
    generalize prL (d 0) b = l0 at *
    generalize d 0 = d0 at *
    go_enter Tryz.func85, Tryz.ntmps85
    go_wp2_with (go_at_call 114; refine (hz _).mono ?_; rintro _ wz ⟨rfl, hw⟩; replace hw := hw.symm; subst hw)
    refine (CP.out _ (HH.out _ (BelP.refl _ _))).mono ?_
    rintro _ w1 ⟨rfl, hb1⟩
    have hB1 : BelP P w w1 := BelP.of hb1 hB
    go_wp2_with fail
    refine (xsure_no _ _ _).mono ?_
    rintro _ wz ⟨rfl, hw⟩
    replace hw := hw.symm
    subst hw
    unfold gaveX
    go_wp2
    exact ⟨rfl, .inr ⟨HNO.out hx0, rfl, hB1⟩⟩
  · rw [hx0] at CP
    have CA : Hid (∀ W, BelP P w W → OutP P W (.slice ao0 s.n cap0) s → Calls Tryz.prog 117 #[.slice ao0 s.n cap0, .int .i64 (prL (d 0) b)] W fun e w' => ∃ v', e = .returned v' ∧ OutP P w' v' (ss s d b 0) ∧ BelP P W w') := fun W hW hL => by
      rw [HS0.out]
      exact xaddP W hL rl0 (by omega) (PB.le hB hW.size)
    have HK : Hid (∀ W, Below w.heap.size w W → OutP P W (.slice ao0 s.n cap0) s) := fun W hW => h.stays hW
    clear h
    obtain ⟨q0, hq0⟩ : ∃ q0, sq d b 0 = q0 := ⟨_, rfl⟩
    obtain ⟨l0, hl0⟩ : ∃ l0, prL (d 0) b = l0 := ⟨_, rfl⟩
    rw [hq0, hl0] at CP
    rw [hl0] at CA
    have HQ0 : Hid (sq d b 0 = q0) := hq0
    clear hq0 hl0 rl0 HS0 HNO
    generalize hd0 : d 0 = d0 at c0 CP
    clear hd0
    go_enter Tryz.func85, Tryz.ntmps85
    go_wp2_with (go_at_call 114; refine (hz _).mono ?_; rintro _ wz ⟨rfl, hw⟩; replace hw := hw.symm; subst hw)
    refine (CP.out _ (HH.out _ (BelP.refl _ _))).mono ?_
    rintro _ w1 ⟨rfl, hb1⟩
    have hB1 : BelP P w w1 := BelP.of hb1 hB
    go_wp2_with fail
    refine (xsure_yes _ _ _).mono ?_
    rintro _ wz ⟨rfl, hw⟩
    replace hw := hw.symm
    subst hw
    go_wp2_with fail
    refine (CA.out _ hB1 (HK.out _ hb1)).mono ?_
    rintro _ w2 ⟨v2, rfl, hL2, hb2⟩
    have hB2 := hB1.trans hb2
    clear CP CA HK hz
    go_wp2_with fail
    · have hN0 : N = 0 := by omega
      go_loopw [0, 7, 39] (fun hv qv iv wr => ∃ (k : Nat) (v0 : Value), k ≤ N ∧ iv = .int .i64 k ∧ hv = v0 ∧ qv = .int .i64 (sq d b k) ∧ Hid (sx d b k = true) ∧ Hid (OutP P wr v0 (ss s d b k)) ∧ Hid (BelP P w wr)) (fun _ _ iv _ => N - (intOf iv).toNat)
      case atStart => exact ⟨0, _, Nat.zero_le _, rfl, rfl, by rw [HQ0.out], hx0, hL2, hB2⟩
      case round =>
        obtain ⟨k, hv, hk, rfl, hve, rfl, HX, HL, HBW⟩ := hrel
        replace hve := hve.symm
        subst hve
        clear hL2 hB2 HQ0
        have hLk := HSL k
        obtain rfl : k = N := by omega
        obtain ⟨r1, r2⟩ := HSQ.out k hk HX.out
        have hwr : PB P wr := PB.le hB HBW.out.size
        have CA : Hid (∀ W, W = wr → Calls Tryz.prog 117 #[hv, .int .i64 (sq d b k)] W fun e w' => ∃ v', e = .returned v' ∧ OutP P w' v' (scl s d b k) ∧ BelP P W w') := fun W hW => by
          subst hW
          exact xaddP W HL.out r1 (by omega) hwr
        clear r1 r2
        generalize sq d b k = qk at *
        go_wp2_with fail
        refine (CA.out _ rfl).mono ?_
        rintro _ w3 ⟨v3, rfl, hL3, hb3⟩
        go_wp2
        go_ret
        exact .inl ⟨HX.out, v3, rfl, hL3, HBW.out.trans hb3⟩
    · go_loopw [0, 7, 39] (fun hv qv iv wr => ∃ (k : Nat) (v0 : Value), k ≤ N ∧ iv = .int .i64 k ∧ hv = v0 ∧ qv = .int .i64 (sq d b k) ∧ Hid (sx d b k = true) ∧ Hid (OutP P wr v0 (ss s d b k)) ∧ Hid (BelP P w wr)) (fun _ _ iv _ => N - (intOf iv).toNat)
      case atStart => exact ⟨0, _, Nat.zero_le _, rfl, rfl, by rw [HQ0.out], hx0, hL2, hB2⟩
      case round =>
        obtain ⟨k, hv, hk, rfl, hve, rfl, HX, HL, HBW⟩ := hrel
        replace hve := hve.symm
        subst hve
        clear hL2 hB2 HQ0
        have hLk := HSL k
        by_cases hlt : k < N
        · obtain ⟨bb', off', e1, hbb', hc⟩ := (HE.out _ HBW.out).spot (by omega)
          simp only [Option.some.injEq, Addr.mk.injEq, and_true] at e1
          obtain ⟨rfl, rfl⟩ := e1
          have c1 := hc (k + 1) (by omega)
          rw [show off + (k + 1) = off + 1 + k by omega] at c1
          clear hc
          obtain ⟨d1, d2⟩ := HD.out (k + 1) (by omega)
          obtain ⟨r1, r2⟩ := HSQ.out k hk HX.out
          obtain ⟨b1, b2⟩ := HB.out
          have hwr : PB P wr := PB.le hB HBW.out.size
          have C1 : Hid (∀ W, Hold4 W → Calls Tryz.prog 116 #[.int .i64 (d (k + 1)), .int .i64 b] W fun e w' => e = .returned (.tuple #[.int .i64 (fprod (d (k + 1)) b), .int .i64 (prL (d (k + 1)) b), .bool (pX (d (k + 1)) b)]) ∧ Below W.heap.size W w') := fun W hW => xtwoProd d1 b1 d2 b2 W hW
          have rt : rng (fprod (d (k + 1)) b) := fprod_rng d1 b1
          have ru : rng (prL (d (k + 1)) b) := prL_rng d1 b1
          have HP : Hid (pX (d (k + 1)) b = true → pok (fprod (d (k + 1)) b) = true ∧ pok (prL (d (k + 1)) b) = true) := pX_fin d1 b1
          have HXS : Hid (sx d b (k + 1) = (sx d b k && (pX (d (k + 1)) b && (pok (sL (sq d b k) (prL (d (k + 1)) b)) && fX (fprod (d (k + 1)) b) (fsum (sq d b k) (prL (d (k + 1)) b)))))) := sx_succ d b k
          have HQS : Hid (sq d b (k + 1) = fsum (fprod (d (k + 1)) b) (fsum (sq d b k) (prL (d (k + 1)) b))) := sq_succ d b k
          have HSS : Hid (ss s d b (k + 1) = ((ss s d b k).add (sL (sq d b k) (prL (d (k + 1)) b))).add (fL (fprod (d (k + 1)) b) (fsum (sq d b k) (prL (d (k + 1)) b)))) := ss_succ s d b k
          have HNO : Hid (sx d b (k + 1) = false → sx d b N = false) := fun hno => by
            cases hx : sx d b N
            · rfl
            · have := sx_mono (show k + 1 ≤ N by omega) hx
              rw [hno] at this
              cases this
          generalize fprod (d (k + 1)) b = t at *
          generalize prL (d (k + 1)) b = u at *
          generalize pX (d (k + 1)) b = x1 at *
          generalize d (k + 1) = dk at *
          obtain ⟨qk, hqk⟩ : ∃ qk, sq d b k = qk := ⟨_, rfl⟩
          rw [hqk] at HXS HQS HSS r1 r2 ⊢
          obtain ⟨sk, hsk⟩ : ∃ sk, ss s d b k = sk := ⟨_, rfl⟩
          rw [hsk] at HL HSS hLk
          clear hqk hsk d1 d2 HSQ HD HSL
          have i0 : (0 : Int) ≤ (k : Int) := by omega
          have i1 : (k : Int) < (N : Int) := by omega
          cases hx1 : x1
          · rw [hx1] at C1
            have hno : sx d b N = false := HNO.out (by rw [HXS.out, hx1]; simp)
            go_wp2_with fail
            refine (C1.out _ (HH.out _ HBW.out)).mono ?_
            rintro _ w3 ⟨rfl, hb3⟩
            go_wp2_with fail
            refine (xsure_no _ _ _).mono ?_
            rintro _ wz ⟨rfl, hw⟩
            replace hw := hw.symm
            subst hw
            unfold gaveX
            go_wp2
            exact ⟨rfl, .inr ⟨hno, rfl, HBW.out.trans (BelP.of hb3 hwr)⟩⟩
          · rw [hx1] at C1
            obtain ⟨pt, pu⟩ := HP.out hx1
            have C2 : Hid (∀ W, Calls Tryz.prog 108 #[.int .i64 qk, .int .i64 u] W fun e w' => e = .returned (.tuple #[.int .i64 (fsum qk u), .int .i64 (sL qk u), .bool (pok (sL qk u))]) ∧ Below W.heap.size W w') := fun W => xtwoSum r1 ru r2 pu W
            have rl1 : rng (sL qk u) := sL_rng r1 ru
            have rq1 : rng (fsum qk u) := fsum_rng r1 ru
            have HP2 : Hid (pok (sL qk u) = true → pok (fsum qk u) = true) := fun hh => (sL_exact r1 ru hh).2.1
            clear HP r1 r2 ru pu
            generalize sL qk u = l1 at *
            generalize fsum qk u = q1 at *
            cases hx2 : pok l1
            · rw [hx2] at C2
              have hno : sx d b N = false := HNO.out (by rw [HXS.out, hx2]; simp)
              go_wp2_with fail
              refine (C1.out _ (HH.out _ HBW.out)).mono ?_
              rintro _ w3 ⟨rfl, hb3⟩
              go_wp2_with fail
              refine (xsure_yes _ _ _).mono ?_
              rintro _ wz ⟨rfl, hw⟩
              replace hw := hw.symm
              subst hw
              go_wp2_with fail
              refine (C2.out _).mono ?_
              rintro _ w4 ⟨rfl, hb4⟩
              go_wp2_with fail
              refine (xsure_no _ _ _).mono ?_
              rintro _ wz ⟨rfl, hw⟩
              replace hw := hw.symm
              subst hw
              unfold gaveX
              go_wp2
              exact ⟨rfl, .inr ⟨hno, rfl, HBW.out.trans (BelP.of (bel_trans hb3 hb4) hwr)⟩⟩
            · rw [hx2] at C2
              have pq1 := HP2.out hx2
              have C3 : Hid (∀ W, Calls Tryz.prog 118 #[.int .i64 t, .int .i64 q1] W fun e w' => e = .returned (.tuple #[.int .i64 (fsum t q1), .int .i64 (fL t q1), .bool (fX t q1)]) ∧ Below W.heap.size W w') := fun W => xfast rt rq1 pt pq1 W
              have rl2 : rng (fL t q1) := fL_rng rt rq1
              have hA1 := (sk.add_le l1).2
              have CA1 : Hid (∀ W, BelP P wr W → OutP P W hv sk → Calls Tryz.prog 117 #[hv, .int .i64 l1] W fun e w' => ∃ v', e = .returned v' ∧ OutP P w' v' (sk.add l1) ∧ BelP P W w') := fun W hW hL => xaddP W hL rl1 (by omega) (PB.le hwr hW.size)
              have CA2 : Hid (∀ W v', BelP P wr W → OutP P W v' (sk.add l1) → Calls Tryz.prog 117 #[v', .int .i64 (fL t q1)] W fun e w' => ∃ v'', e = .returned v'' ∧ OutP P w' v'' ((sk.add l1).add (fL t q1)) ∧ BelP P W w') := fun W v' hW hL => xaddP W hL rl2 (by omega) (PB.le hwr hW.size)
              have HKP : Hid (∀ {W W' v' s'}, OutP P W v' s' → Below W.heap.size W W' → OutP P W' v' s') := fun {W W' v' s'} hL hW => hL.stays hW
              clear HP2 rl1 rl2 rq1 rt pt pq1 b1 b2
              generalize fL t q1 = l2 at *
              generalize fsum t q1 = q2 at *
              cases hx3 : fX t q1
              · rw [hx3] at C3
                have hno : sx d b N = false := HNO.out (by rw [HXS.out, hx3]; simp)
                go_wp2_with fail
                refine (C1.out _ (HH.out _ HBW.out)).mono ?_
                rintro _ w3 ⟨rfl, hb3⟩
                go_wp2_with fail
                refine (xsure_yes _ _ _).mono ?_
                rintro _ wz ⟨rfl, hw⟩
                replace hw := hw.symm
                subst hw
                go_wp2_with fail
                refine (C2.out _).mono ?_
                rintro _ w4 ⟨rfl, hb4⟩
                go_wp2_with fail
                refine (xsure_yes _ _ _).mono ?_
                rintro _ wz ⟨rfl, hw⟩
                replace hw := hw.symm
                subst hw
                have hb34 := bel_trans hb3 hb4
                go_wp2_with fail
                refine (CA1.out _ (BelP.of hb34 hwr) (HKP.out HL.out hb34)).mono ?_
                rintro _ w5 ⟨v5, rfl, hL5, hb5⟩
                go_wp2_with fail
                refine (C3.out _).mono ?_
                rintro _ w6 ⟨rfl, hb6⟩
                go_wp2_with fail
                refine (xsure_no _ _ _).mono ?_
                rintro _ wz ⟨rfl, hw⟩
                replace hw := hw.symm
                subst hw
                have hb56 := ((BelP.of hb34 hwr).trans hb5).trans (BelP.of hb6 (PB.le hwr ((BelP.of hb34 hwr).trans hb5).size))
                unfold gaveX
                go_wp2
                exact ⟨rfl, .inr ⟨hno, rfl, HBW.out.trans hb56⟩⟩
              · rw [hx3] at C3
                have hyes : sx d b (k + 1) = true := by rw [HXS.out, HX.out, hx1, hx2, hx3]; rfl
                go_wp2_with fail
                refine (C1.out _ (HH.out _ HBW.out)).mono ?_
                rintro _ w3 ⟨rfl, hb3⟩
                go_wp2_with fail
                refine (xsure_yes _ _ _).mono ?_
                rintro _ wz ⟨rfl, hw⟩
                replace hw := hw.symm
                subst hw
                go_wp2_with fail
                refine (C2.out _).mono ?_
                rintro _ w4 ⟨rfl, hb4⟩
                go_wp2_with fail
                refine (xsure_yes _ _ _).mono ?_
                rintro _ wz ⟨rfl, hw⟩
                replace hw := hw.symm
                subst hw
                have hb34 := bel_trans hb3 hb4
                go_wp2_with fail
                refine (CA1.out _ (BelP.of hb34 hwr) (HKP.out HL.out hb34)).mono ?_
                rintro _ w5 ⟨v5, rfl, hL5, hb5⟩
                go_wp2_with fail
                refine (C3.out _).mono ?_
                rintro _ w6 ⟨rfl, hb6⟩
                go_wp2_with fail
                refine (xsure_yes _ _ _).mono ?_
                rintro _ wz ⟨rfl, hw⟩
                replace hw := hw.symm
                subst hw
                have hb56 := ((BelP.of hb34 hwr).trans hb5).trans (BelP.of hb6 (PB.le hwr ((BelP.of hb34 hwr).trans hb5).size))
                go_wp2_with fail
                refine (CA2.out _ _ hb56 (HKP.out hL5 hb6)).mono ?_
                rintro _ w7 ⟨v7, rfl, hL7, hb7⟩
                go_wp2
                go_roundw
                case rel => exact ⟨k + 1, _, by omega, by go_num, rfl, by rw [HQS.out], hyes, by show OutP _ _ _ _; rw [HSS.out]; exact hL7, HBW.out.trans (hb56.trans hb7)⟩
                case measure => simp [intOf]; omega
        · obtain rfl : k = N := by omega
          obtain ⟨r1, r2⟩ := HSQ.out k hk HX.out
          have hwr : PB P wr := PB.le hB HBW.out.size
          have CA : Hid (∀ W, W = wr → Calls Tryz.prog 117 #[hv, .int .i64 (sq d b k)] W fun e w' => ∃ v', e = .returned v' ∧ OutP P w' v' (scl s d b k) ∧ BelP P W w') := fun W hW => by
            subst hW
            exact xaddP W HL.out r1 (by omega) hwr
          clear r1 r2
          generalize sq d b k = qk at *
          go_wp2_with fail
          refine (CA.out _ rfl).mono ?_
          rintro _ w3 ⟨v3, rfl, hL3, hb3⟩
          go_wp2
          go_ret
          exact .inl ⟨HX.out, v3, rfl, hL3, HBW.out.trans hb3⟩
end Go.Proofs.YtcpjdgfnblkfpaaGreatDoor
