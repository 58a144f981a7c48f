/-
  Parts of the proof, one behind another.
-/
import Derived.Test.YtmghplbmfjhkcaaDoorPart10
import Derived.Test.YtmghplbmfjhkcaaDoorPart2
import Derived.Test.YtmghplbmfjhkcaaDoorPart4
import Derived.Test.YtmghplbmfjhkcaaDoorPart3
/-
  Package expansion: scale, by its contract.
-/
namespace Go.Proofs.YtmghplbmfjhkcaaDoor
open Go Go.RowKit Go.Proofs.YtmghplbmfjhkcaaDoor.M
set_option linter.unusedSimpArgs false
set_option linter.unusedVariables false

theorem xtwoProd {p q : Int} (hp : rng p) (hq : rng q) (pp : pok p = true) (pq : pok q = true) (w : World) (H : Hold4 w) :
    Calls Tryd.prog 72 #[.int .i64 p, .int .i64 q] w fun e w' => e = .returned (.tuple #[.int .i64 (fprod p q), .int .i64 (prL p q), .bool (pX p q)]) ∧ Below w.heap.size w w' := by
  have := twoProd_any hp hq w H
  rw [told_ok pp hp, told_ok pq hq] at this
  exact this
theorem xfast {p q : Int} (hp : rng p) (hq : rng q) (pp : pok p = true) (pq : pok q = true) (w : World) :
    Calls Tryd.prog 73 #[.int .i64 p, .int .i64 q] w fun e w' => e = .returned (.tuple #[.int .i64 (fsum p q), .int .i64 (fL p q), .bool (fX p q)]) ∧ Below w.heap.size w w' := by
  have := fastTwoSum_any hp hq w
  rw [told_ok pp hp, told_ok pq hq] at this
  exact this
set_option maxRecDepth 100000 in
theorem xscale_empty {v : Value} {eo : Option Addr} {ec : Nat} {b : Int} (w : World) :
    Calls Tryd.prog 49 #[v, .slice eo 0 ec, .int .i64 b] w fun e w' => e = .returned v ∧ w' = w := by
  go_enter Tryd.func49, Tryd.ntmps49
  go_wp2
  go_ret
  exact ⟨rfl, rfl⟩
set_option maxRecDepth 100000 in
theorem xscale_nought {v : Value} {eo : Option Addr} {n ec : Nat} {b : Int} (w : World) (hb : rng b) (h0 : rg b = 0) (hn : n ≤ 9223372036854775807) :
    Calls Tryd.prog 49 #[v, .slice eo n ec, .int .i64 b] w fun e w' => e = .returned v ∧ w' = w := by
  have hz := fun W => xnought hb W
  rw [decide_eq_true h0] at hz
  go_enter Tryd.func49, Tryd.ntmps49
  go_wp2_with (go_at_call 71; refine (hz _).mono ?_; rintro _ _ ⟨rfl, rfl⟩)
  all_goals go_ret
  all_goals exact ⟨rfl, rfl⟩
set_option maxRecDepth 100000 in
set_option maxHeartbeats 1000000 in
theorem xscale_some {B : Nat} {v : Value} {s : Ls} {eo : Option Addr} {N ec : Nat} {d : Nat → Int} {b : Int} (w : World) (h : LsO B w v s) (hE : ∀ W, Below B w W → Row W eo (N + 1) ec d) (hd : ∀ i, i ≤ N → rng (d i) ∧ pok (d i) = true) (hb : rng b) (pb : pok b = true) (h0 : ¬ rg b = 0) (hn : s.n + 2 * N ≤ 700000) (hB : B ≤ w.heap.size) (H : ∀ W, Below B w W → Hold4 W) :
    Calls Tryd.prog 49 #[v, .slice eo (N + 1) ec, .int .i64 b] w fun e w' => (sx d b N = true ∧ ∃ v', e = .returned v' ∧ LsO B w' v' (scl s d b N) ∧ Below B w w') ∨ (sx d b N = false ∧ e = gaveX ∧ Below B w w') := by
  have hz := fun W => xnought hb W
  rw [decide_eq_false h0] at hz
  have hR := hE w (Below.refl _ _)
  have hle := hR.le
  have hmx := hR.max
  obtain ⟨bb, off, rfl, hbb, hc⟩ := hR.spot (by omega)
  have c0 := hc 0 (by omega)
  rw [Nat.add_zero] at c0
  have HE : Hid (∀ W, Below B w W → Row W (some ⟨bb, off, none⟩) (N + 1) ec d) := hE
  have HH : Hid (∀ W, Below B w W → Hold4 W) := H
  have HD : Hid (∀ i, i ≤ N → rng (d i) ∧ pok (d i) = true) := hd
  have HSQ : Hid (∀ k, k ≤ N → sx d b k = true → rng (sq d b k) ∧ pok (sq d b k) = true) := sq_fin hd hb
  have HSL := ss_le s d b
  have HB : Hid (rng b ∧ pok b = true) := ⟨hb, pb⟩
  have CP : Hid (∀ W, Hold4 W → Calls Tryd.prog 72 #[.int .i64 (d 0), .int .i64 b] W fun e w' => e = .returned (.tuple #[.int .i64 (sq d b 0), .int .i64 (prL (d 0) b), .bool (sx d b 0)]) ∧ Below W.heap.size W w') := fun W hW => xtwoProd (hd 0 (by omega)).1 hb (hd 0 (by omega)).2 pb W hW
  have HS0 : Hid (ss s d b 0 = s.add (prL (d 0) b)) := rfl
  have rl0 : rng (prL (d 0) b) := prL_rng (hd 0 (by omega)).1 hb
  have HNO : Hid (sx d b 0 = false → sx d b N = false) := fun hno => by
    cases hx : sx d b N
    · rfl
    · have := sx_mono (Nat.zero_le N) hx
      rw [hno] at this
      cases this
  clear hE H hd hc hR hb pb
  have hN1 : ((N : Int) + 1 == 0) = false := by simp; omega
  obtain ⟨ao0, cap0, rfl⟩ := h.shape
  cases hx0 : sx d b 0
  · rw [hx0] at CP
    generalize sq d b 0 = q0 at *
    generalize prL (d 0) b = l0 at *
    generalize d 0 = d0 at *
    go_enter Tryd.func49, Tryd.ntmps49
    go_wp2_with (go_at_call 71; refine (hz _).mono ?_; rintro _ wz ⟨rfl, hw⟩; replace hw := hw.symm; subst hw)
    refine (CP.out _ (HH.out _ (Below.refl _ _))).mono ?_
    rintro _ w1 ⟨rfl, hb1⟩
    have hB1 : Below B w w1 := hb1.mono hB
    go_wp2_with fail
    refine (xsure_no _ _ _).mono ?_
    rintro _ wz ⟨rfl, hw⟩
    replace hw := hw.symm
    subst hw
    unfold gaveX
    go_wp2
    exact ⟨rfl, .inr ⟨HNO.out hx0, rfl, hB1⟩⟩
  · rw [hx0] at CP
    have CA : Hid (∀ W, Below B w W → LsO B W (.slice ao0 s.n cap0) s → Calls Tryd.prog 70 #[.slice ao0 s.n cap0, .int .i64 (prL (d 0) b)] W fun e w' => ∃ v', e = .returned v' ∧ LsO B w' v' (ss s d b 0) ∧ Below B W w') := fun W hW hL => by
      rw [HS0.out]
      exact xadd_L W hL rl0 (by omega) (Nat.le_trans hB hW.size)
    have HK : Hid (∀ W, Below w.heap.size w W → LsO B W (.slice ao0 s.n cap0) s) := fun W hW => by
      rcases h with h | h
      · exact .inl (h.stays hW)
      · exact .inr h
    clear h
    obtain ⟨q0, hq0⟩ : ∃ q0, sq d b 0 = q0 := ⟨_, rfl⟩
    obtain ⟨l0, hl0⟩ : ∃ l0, prL (d 0) b = l0 := ⟨_, rfl⟩
    rw [hq0, hl0] at CP
    rw [hl0] at CA
    have HQ0 : Hid (sq d b 0 = q0) := hq0
    clear hq0 hl0 rl0 HS0 HNO
    generalize hd0 : d 0 = d0 at c0 CP
    clear hd0
    go_enter Tryd.func49, Tryd.ntmps49
    go_wp2_with (go_at_call 71; refine (hz _).mono ?_; rintro _ wz ⟨rfl, hw⟩; replace hw := hw.symm; subst hw)
    refine (CP.out _ (HH.out _ (Below.refl _ _))).mono ?_
    rintro _ w1 ⟨rfl, hb1⟩
    have hB1 : Below B w w1 := hb1.mono hB
    go_wp2_with fail
    refine (xsure_yes _ _ _).mono ?_
    rintro _ wz ⟨rfl, hw⟩
    replace hw := hw.symm
    subst hw
    go_wp2_with fail
    refine (CA.out _ hB1 (HK.out _ hb1)).mono ?_
    rintro _ w2 ⟨v2, rfl, hL2, hb2⟩
    have hB2 := hB1.trans hb2
    clear CP CA HK hz
    go_wp2_with fail
    · have hN0 : N = 0 := by omega
      go_loopw [0, 7, 39] (fun hv qv iv wr => ∃ (k : Nat) (v0 : Value), k ≤ N ∧ iv = .int .i64 k ∧ hv = v0 ∧ qv = .int .i64 (sq d b k) ∧ Hid (sx d b k = true) ∧ Hid (LsO B wr v0 (ss s d b k)) ∧ Hid (Below B w wr)) (fun _ _ iv _ => N - (intOf iv).toNat)
      case atStart => exact ⟨0, _, Nat.zero_le _, rfl, rfl, by rw [HQ0.out], hx0, hL2, hB2⟩
      case round =>
        obtain ⟨k, hv, hk, rfl, hve, rfl, HX, HL, HBW⟩ := hrel
        replace hve := hve.symm
        subst hve
        clear hL2 hB2 HQ0
        have hLk := HSL k
        obtain rfl : k = N := by omega
        obtain ⟨r1, r2⟩ := HSQ.out k hk HX.out
        have hwr : B ≤ wr.heap.size := Nat.le_trans hB HBW.out.size
        have CA : Hid (∀ W, W = wr → Calls Tryd.prog 70 #[hv, .int .i64 (sq d b k)] W fun e w' => ∃ v', e = .returned v' ∧ LsO B w' v' (scl s d b k) ∧ Below B W w') := fun W hW => by
          subst hW
          exact xadd_L W HL.out r1 (by omega) hwr
        clear r1 r2
        generalize sq d b k = qk at *
        go_wp2_with fail
        refine (CA.out _ rfl).mono ?_
        rintro _ w3 ⟨v3, rfl, hL3, hb3⟩
        go_wp2
        go_ret
        exact .inl ⟨HX.out, v3, rfl, hL3, HBW.out.trans hb3⟩
    · go_loopw [0, 7, 39] (fun hv qv iv wr => ∃ (k : Nat) (v0 : Value), k ≤ N ∧ iv = .int .i64 k ∧ hv = v0 ∧ qv = .int .i64 (sq d b k) ∧ Hid (sx d b k = true) ∧ Hid (LsO B wr v0 (ss s d b k)) ∧ Hid (Below B w wr)) (fun _ _ iv _ => N - (intOf iv).toNat)
      case atStart => exact ⟨0, _, Nat.zero_le _, rfl, rfl, by rw [HQ0.out], hx0, hL2, hB2⟩
      case round =>
        obtain ⟨k, hv, hk, rfl, hve, rfl, HX, HL, HBW⟩ := hrel
        replace hve := hve.symm
        subst hve
        clear hL2 hB2 HQ0
        have hLk := HSL k
        by_cases hlt : k < N
        · obtain ⟨bb', off', e1, hbb', hc⟩ := (HE.out _ HBW.out).spot (by omega)
          simp only [Option.some.injEq, Addr.mk.injEq, and_true] at e1
          obtain ⟨rfl, rfl⟩ := e1
          have c1 := hc (k + 1) (by omega)
          rw [show off + (k + 1) = off + 1 + k by omega] at c1
          clear hc
          obtain ⟨d1, d2⟩ := HD.out (k + 1) (by omega)
          obtain ⟨r1, r2⟩ := HSQ.out k hk HX.out
          obtain ⟨b1, b2⟩ := HB.out
          have hwr : B ≤ wr.heap.size := Nat.le_trans hB HBW.out.size
          have C1 : Hid (∀ W, Hold4 W → Calls Tryd.prog 72 #[.int .i64 (d (k + 1)), .int .i64 b] W fun e w' => e = .returned (.tuple #[.int .i64 (fprod (d (k + 1)) b), .int .i64 (prL (d (k + 1)) b), .bool (pX (d (k + 1)) b)]) ∧ Below W.heap.size W w') := fun W hW => xtwoProd d1 b1 d2 b2 W hW
          have rt : rng (fprod (d (k + 1)) b) := fprod_rng d1 b1
          have ru : rng (prL (d (k + 1)) b) := prL_rng d1 b1
          have HP : Hid (pX (d (k + 1)) b = true → pok (fprod (d (k + 1)) b) = true ∧ pok (prL (d (k + 1)) b) = true) := pX_fin d1 b1
          have HXS : Hid (sx d b (k + 1) = (sx d b k && (pX (d (k + 1)) b && (pok (sL (sq d b k) (prL (d (k + 1)) b)) && fX (fprod (d (k + 1)) b) (fsum (sq d b k) (prL (d (k + 1)) b)))))) := sx_succ d b k
          have HQS : Hid (sq d b (k + 1) = fsum (fprod (d (k + 1)) b) (fsum (sq d b k) (prL (d (k + 1)) b))) := sq_succ d b k
          have HSS : Hid (ss s d b (k + 1) = ((ss s d b k).add (sL (sq d b k) (prL (d (k + 1)) b))).add (fL (fprod (d (k + 1)) b) (fsum (sq d b k) (prL (d (k + 1)) b)))) := ss_succ s d b k
          have HNO : Hid (sx d b (k + 1) = false → sx d b N = false) := fun hno => by
            cases hx : sx d b N
            · rfl
            · have := sx_mono (show k + 1 ≤ N by omega) hx
              rw [hno] at this
              cases this
          generalize fprod (d (k + 1)) b = t at *
          generalize prL (d (k + 1)) b = u at *
          generalize pX (d (k + 1)) b = x1 at *
          generalize d (k + 1) = dk at *
          obtain ⟨qk, hqk⟩ : ∃ qk, sq d b k = qk := ⟨_, rfl⟩
          rw [hqk] at HXS HQS HSS r1 r2 ⊢
          obtain ⟨sk, hsk⟩ : ∃ sk, ss s d b k = sk := ⟨_, rfl⟩
          rw [hsk] at HL HSS hLk
          clear hqk hsk d1 d2 HSQ HD HSL
          have i0 : (0 : Int) ≤ (k : Int) := by omega
          have i1 : (k : Int) < (N : Int) := by omega
          cases hx1 : x1
          · rw [hx1] at C1
            have hno : sx d b N = false := HNO.out (by rw [HXS.out, hx1]; simp)
            go_wp2_with fail
            refine (C1.out _ (HH.out _ HBW.out)).mono ?_
            rintro _ w3 ⟨rfl, hb3⟩
            go_wp2_with fail
            refine (xsure_no _ _ _).mono ?_
            rintro _ wz ⟨rfl, hw⟩
            replace hw := hw.symm
            subst hw
            unfold gaveX
            go_wp2
            exact ⟨rfl, .inr ⟨hno, rfl, HBW.out.trans (hb3.mono hwr)⟩⟩
          · rw [hx1] at C1
            obtain ⟨pt, pu⟩ := HP.out hx1
            have C2 : Hid (∀ W, Calls Tryd.prog 69 #[.int .i64 qk, .int .i64 u] W fun e w' => e = .returned (.tuple #[.int .i64 (fsum qk u), .int .i64 (sL qk u), .bool (pok (sL qk u))]) ∧ Below W.heap.size W w') := fun W => xtwoSum r1 ru r2 pu W
            have rl1 : rng (sL qk u) := sL_rng r1 ru
            have rq1 : rng (fsum qk u) := fsum_rng r1 ru
            have HP2 : Hid (pok (sL qk u) = true → pok (fsum qk u) = true) := fun hh => (sL_exact r1 ru hh).2.1
            clear HP r1 r2 ru pu
            generalize sL qk u = l1 at *
            generalize fsum qk u = q1 at *
            cases hx2 : pok l1
            · rw [hx2] at C2
              have hno : sx d b N = false := HNO.out (by rw [HXS.out, hx2]; simp)
              go_wp2_with fail
              refine (C1.out _ (HH.out _ HBW.out)).mono ?_
              rintro _ w3 ⟨rfl, hb3⟩
              go_wp2_with fail
              refine (xsure_yes _ _ _).mono ?_
              rintro _ wz ⟨rfl, hw⟩
              replace hw := hw.symm
              subst hw
              go_wp2_with fail
              refine (C2.out _).mono ?_
              rintro _ w4 ⟨rfl, hb4⟩
              go_wp2_with fail
              refine (xsure_no _ _ _).mono ?_
              rintro _ wz ⟨rfl, hw⟩
              replace hw := hw.symm
              subst hw
              unfold gaveX
              go_wp2
              exact ⟨rfl, .inr ⟨hno, rfl, HBW.out.trans ((bel_trans hb3 hb4).mono hwr)⟩⟩
            · rw [hx2] at C2
              have pq1 := HP2.out hx2
              have C3 : Hid (∀ W, Calls Tryd.prog 73 #[.int .i64 t, .int .i64 q1] W fun e w' => e = .returned (.tuple #[.int .i64 (fsum t q1), .int .i64 (fL t q1), .bool (fX t q1)]) ∧ Below W.heap.size W w') := fun W => xfast rt rq1 pt pq1 W
              have rl2 : rng (fL t q1) := fL_rng rt rq1
              have hA1 := (sk.add_le l1).2
              have CA1 : Hid (∀ W, Below B wr W → LsO B W hv sk → Calls Tryd.prog 70 #[hv, .int .i64 l1] W fun e w' => ∃ v', e = .returned v' ∧ LsO B w' v' (sk.add l1) ∧ Below B W w') := fun W hW hL => xadd_L W hL rl1 (by omega) (Nat.le_trans hwr hW.size)
              have CA2 : Hid (∀ W v', Below B wr W → LsO B W v' (sk.add l1) → Calls Tryd.prog 70 #[v', .int .i64 (fL t q1)] W fun e w' => ∃ v'', e = .returned v'' ∧ LsO B w' v'' ((sk.add l1).add (fL t q1)) ∧ Below B W w') := fun W v' hW hL => xadd_L W hL rl2 (by omega) (Nat.le_trans hwr hW.size)
              have HKP : Hid (∀ {W W' v' s'}, LsO B W v' s' → Below W.heap.size W W' → LsO B W' v' s') := fun {W W' v' s'} hL hW => by
                rcases hL with h | h
                · exact .inl (h.stays hW)
                · exact .inr h
              clear HP2 rl1 rl2 rq1 rt pt pq1 b1 b2
              generalize fL t q1 = l2 at *
              generalize fsum t q1 = q2 at *
              cases hx3 : fX t q1
              · rw [hx3] at C3
                have hno : sx d b N = false := HNO.out (by rw [HXS.out, hx3]; simp)
                go_wp2_with fail
                refine (C1.out _ (HH.out _ HBW.out)).mono ?_
                rintro _ w3 ⟨rfl, hb3⟩
                go_wp2_with fail
                refine (xsure_yes _ _ _).mono ?_
                rintro _ wz ⟨rfl, hw⟩
                replace hw := hw.symm
                subst hw
                go_wp2_with fail
                refine (C2.out _).mono ?_
                rintro _ w4 ⟨rfl, hb4⟩
                go_wp2_with fail
                refine (xsure_yes _ _ _).mono ?_
                rintro _ wz ⟨rfl, hw⟩
                replace hw := hw.symm
                subst hw
                have hb34 := bel_trans hb3 hb4
                go_wp2_with fail
                refine (CA1.out _ (hb34.mono hwr) (HKP.out HL.out hb34)).mono ?_
                rintro _ w5 ⟨v5, rfl, hL5, hb5⟩
                go_wp2_with fail
                refine (C3.out _).mono ?_
                rintro _ w6 ⟨rfl, hb6⟩
                go_wp2_with fail
                refine (xsure_no _ _ _).mono ?_
                rintro _ wz ⟨rfl, hw⟩
                replace hw := hw.symm
                subst hw
                have hb56 := ((hb34.mono hwr).trans hb5).trans (hb6.mono (Nat.le_trans hwr ((hb34.mono hwr).trans hb5).size))
                unfold gaveX
                go_wp2
                exact ⟨rfl, .inr ⟨hno, rfl, HBW.out.trans hb56⟩⟩
              · rw [hx3] at C3
                have hyes : sx d b (k + 1) = true := by rw [HXS.out, HX.out, hx1, hx2, hx3]; rfl
                go_wp2_with fail
                refine (C1.out _ (HH.out _ HBW.out)).mono ?_
                rintro _ w3 ⟨rfl, hb3⟩
                go_wp2_with fail
                refine (xsure_yes _ _ _).mono ?_
                rintro _ wz ⟨rfl, hw⟩
                replace hw := hw.symm
                subst hw
                go_wp2_with fail
                refine (C2.out _).mono ?_
                rintro _ w4 ⟨rfl, hb4⟩
                go_wp2_with fail
                refine (xsure_yes _ _ _).mono ?_
                rintro _ wz ⟨rfl, hw⟩
                replace hw := hw.symm
                subst hw
                have hb34 := bel_trans hb3 hb4
                go_wp2_with fail
                refine (CA1.out _ (hb34.mono hwr) (HKP.out HL.out hb34)).mono ?_
                rintro _ w5 ⟨v5, rfl, hL5, hb5⟩
                go_wp2_with fail
                refine (C3.out _).mono ?_
                rintro _ w6 ⟨rfl, hb6⟩
                go_wp2_with fail
                refine (xsure_yes _ _ _).mono ?_
                rintro _ wz ⟨rfl, hw⟩
                replace hw := hw.symm
                subst hw
                have hb56 := ((hb34.mono hwr).trans hb5).trans (hb6.mono (Nat.le_trans hwr ((hb34.mono hwr).trans hb5).size))
                go_wp2_with fail
                refine (CA2.out _ _ hb56 (HKP.out hL5 hb6)).mono ?_
                rintro _ w7 ⟨v7, rfl, hL7, hb7⟩
                go_wp2
                go_roundw
                case rel => exact ⟨k + 1, _, by omega, by go_num, rfl, by rw [HQS.out], hyes, by show LsO _ _ _ _; rw [HSS.out]; exact hL7, HBW.out.trans (hb56.trans hb7)⟩
                case measure => simp [intOf]; omega
        · obtain rfl : k = N := by omega
          obtain ⟨r1, r2⟩ := HSQ.out k hk HX.out
          have hwr : B ≤ wr.heap.size := Nat.le_trans hB HBW.out.size
          have CA : Hid (∀ W, W = wr → Calls Tryd.prog 70 #[hv, .int .i64 (sq d b k)] W fun e w' => ∃ v', e = .returned v' ∧ LsO B w' v' (scl s d b k) ∧ Below B W w') := fun W hW => by
            subst hW
            exact xadd_L W HL.out r1 (by omega) hwr
          clear r1 r2
          generalize sq d b k = qk at *
          go_wp2_with fail
          refine (CA.out _ rfl).mono ?_
          rintro _ w3 ⟨v3, rfl, hL3, hb3⟩
          go_wp2
          go_ret
          exact .inl ⟨HX.out, v3, rfl, hL3, HBW.out.trans hb3⟩
end Go.Proofs.YtmghplbmfjhkcaaDoor

/-
  Package expansion: told, with its deferred recover; the closures; withFloat, withList; Grow, Scale, Sum, by their contracts.
-/
namespace Go.Proofs.YtmghplbmfjhkcaaDoor
open Go Go.RowKit Go.Proofs.YtmghplbmfjhkcaaDoor.M
set_option linter.unusedSimpArgs false
set_option linter.unusedVariables false

theorem xif_nil (w : World) : (binOp .eql 20 Value.nilIface Value.nilIface).run Tryd.prog w = .ok (.bool true) w := by kernel_rfl
theorem xif_not (w : World) : (binOp .eql 20 (.iface 30 (.int .i64 14)) Value.nilIface).run Tryd.prog w = .ok (.bool false) w := by kernel_rfl
theorem xif_is (w : World) : (binOp .eql 20 (.iface 30 (.int .i64 14)) (.iface 30 (.int .i64 14))).run Tryd.prog w = .ok (.bool true) w := by kernel_rfl
theorem xcatch_panicking (p : Addr) (x : Value) (older : List PanicEntry) (w : World) (hc : w.cell? p = some x) (hz : w.frozen? p = false) :
    CallsD Tryd.prog 57 #[.pointer (some p)] (.panicking ({ v := .iface 30 (.int .i64 14), recovered := false } :: older)) w fun e u' w' =>
      e = .returned (.tuple #[]) ∧ u' = .panicking ({ v := .iface 30 (.int .i64 14), recovered := true } :: older) ∧ w' = w.setCell p (.int .i64 14) := by
  have h1 := xif_not
  have h2 := xif_is
  refine callsD_of_wpS Tryd.func57 rfl fun c₀ cs hu => ?_
  apply wpS_seq
  apply wpS_region
  simp [wpOpsS, go_sem, recoverD, hu, Tryd.ntmps57, Exit.thenS]
  refine wpS_of_wp ?_
  go_wp2
  simp [bodyPostS, results, Tryd.results57]
theorem xcatch_idle (p : Addr) (w : World) :
    CallsD Tryd.prog 57 #[.pointer (some p)] .returning w fun e u' w' => e = .returned (.tuple #[]) ∧ u' = .returning ∧ w' = w := by
  have h1 := xif_nil
  refine callsD_of_wpS Tryd.func57 rfl fun c₀ cs hu => ?_
  apply wpS_seq
  apply wpS_region
  simp [wpOpsS, go_sem, recoverD, hu, Tryd.ntmps57, Exit.thenS]
  refine wpS_of_wp ?_
  go_wp2
  cases c₀
  simp_all [bodyPostS, results, Tryd.results57]
set_option maxRecDepth 100000 in
set_option maxHeartbeats 1000000 in
theorem xtold_no (F : Nat) (cap : Array Value) (w : World) (hE : ∀ w, (callFunc F cap).run Tryd.prog w = .ok (.enter F cap) w) (hF : ∀ W, Below w.heap.size w W → Calls Tryd.prog F cap W fun r W' => r = gaveX ∧ Below W.heap.size W W') :
    Calls Tryd.prog 34 #[.func (.func F) #[] cap] w fun r w' => r = .returned (.tuple #[.slice none 0 0, .int .i64 14]) ∧ Below w.heap.size w w' := by
  have hmf : ∀ (fn : Fn) (first cap : Array Value) (w : World), (Instr.makeFunc fn first cap).run Tryd.prog w = .ok (.func fn first cap) w := fun _ _ _ _ => rfl
  go_enter_defers Tryd.func34, Tryd.ntmps34
  go_wp2_with fail
  refine (hF _ (bel_alloc _ _)).mono ?_
  rintro r W' ⟨rfl, hb⟩
  unfold gaveX
  have q1 := (hb.block w.heap.size (by rw [size1]; omega)).trans (heap_a1 _ _)
  have f0 := blkF q1 0
  have k0 := blkC q1 0 rfl
  go_wp2_with fail
  refine leaves_cons (f := 57) (args := #[.pointer (some ⟨w.heap.size, 0, none⟩)]) (by simp) (by simp [go_sem]) ?_
  refine (xcatch_panicking ⟨w.heap.size, 0, none⟩ _ [] _ k0 f0).mono ?_
  rintro e u' w'' ⟨rfl, rfl, rfl⟩
  simp [Leaves, settle, results, Tryd.results34, go_sem, k0]
  exact (bel_trans (bel_alloc _ _) hb).setCell (Nat.le_refl _) _
set_option maxRecDepth 100000 in
set_option maxHeartbeats 1000000 in
theorem xtold_yes (F : Nat) (cap : Array Value) (w : World) (s : Ls) (hE : ∀ w, (callFunc F cap).run Tryd.prog w = .ok (.enter F cap) w) (hF : ∀ W, Below w.heap.size w W → Calls Tryd.prog F cap W fun r W' => ∃ v, r = .returned v ∧ LsO W.heap.size W' v s ∧ Below W.heap.size W W') :
    Calls Tryd.prog 34 #[.func (.func F) #[] cap] w fun r w' => ∃ v, r = .returned (.tuple #[v, .int .i64 0]) ∧ LsO w.heap.size w' v s ∧ Below w.heap.size w w' := by
  have hmf : ∀ (fn : Fn) (first cap : Array Value) (w : World), (Instr.makeFunc fn first cap).run Tryd.prog w = .ok (.func fn first cap) w := fun _ _ _ _ => rfl
  go_enter_defers Tryd.func34, Tryd.ntmps34
  go_wp2_with fail
  refine (hF _ (bel_alloc _ _)).mono ?_
  rintro r W' ⟨v, rfl, hL, hb⟩
  have q1 := (hb.block w.heap.size (by rw [size1]; omega)).trans (heap_a1 _ _)
  have f0 := blkF q1 0
  have k0 := blkC q1 0 rfl
  have hL2 : LsO w.heap.size (W'.setCell ⟨w.heap.size, 0, none⟩ (.int .i64 0)) v s := by
    rcases hL with h | h
    · exact .inl ((h.set_below (a := ⟨w.heap.size, 0, none⟩) (by rw [size1]; exact Nat.lt_succ_self _) _).lower (by rw [size1]; omega))
    · exact .inr h
  have hb2 : Below w.heap.size w (W'.setCell ⟨w.heap.size, 0, none⟩ (.int .i64 0)) := (bel_trans (bel_alloc _ _) hb).setCell (p := ⟨w.heap.size, 0, none⟩) (Nat.le_refl _) _
  obtain ⟨ao, cc, rfl⟩ := hL.shape
  go_wp2_with fail
  refine leaves_cons (f := 57) (args := #[.pointer (some ⟨w.heap.size, 0, none⟩)]) (by simp) (by simp [go_sem]) ?_
  refine (xcatch_idle ⟨w.heap.size, 0, none⟩ _).mono ?_
  rintro e u' w'' ⟨rfl, rfl, rfl⟩
  simp [Leaves, settle, results, Tryd.results34, go_sem, k0]
  first | exact hb2 | exact ⟨hL2, hb2⟩ | exact ⟨_, rfl, hL2, hb2⟩
end Go.Proofs.YtmghplbmfjhkcaaDoor

/-
  Package expansion: Valid, by its contract.
-/
namespace Go.Proofs.YtmghplbmfjhkcaaDoor
open Go Go.RowKit Go.Proofs.YtmghplbmfjhkcaaDoor.M
set_option linter.unusedSimpArgs false
set_option linter.unusedVariables false

/-- The exponent of the least power of 2 that is greater than the last of the first k; are the first k an expansion? -/
def xab (d : Nat → Int) : Nat → Int
  | 0 => -9223372036854775808
  | k + 1 => pexp (d k) + blen (pmag (d k))
def xok (d : Nat → Int) (k : Nat) : Bool := !decide (pmag (d k) = 0) && !decide (pexp (d k) + jz (pmag (d k)) < xab d k)
def xval (d : Nat → Int) : Nat → Bool
  | 0 => true
  | k + 1 => xval d k && xok d k
theorem xval_succ (d : Nat → Int) (k : Nat) : xval d (k + 1) = (xval d k && xok d k) := rfl
theorem xval_mono {d : Nat → Int} : ∀ {k j}, j ≤ k → xval d k = true → xval d j = true
  | 0, j, h, hx => by
    obtain rfl : j = 0 := by omega
    rfl
  | k + 1, j, h, hx => by
    by_cases e : j = k + 1
    · subst e; exact hx
    · rw [xval_succ, Bool.and_eq_true] at hx
      exact xval_mono (by omega) hx.1
theorem xmag_in (b : Int) : 0 ≤ pmag b ∧ pmag b < 9007199254740992 ∧ -2000 ≤ pexp b ∧ pexp b ≤ 2000 := by
  cases h : pok b
  · have : fld b = 2047 := by simpa [pok] using h
    unfold pmag pexp
    rw [if_pos this, if_pos this]
    omega
  · have := pmag_in h
    omega
theorem jz_small (b : Int) : pmag b ≠ 0 → jz (pmag b) ≤ 64 := fun hne => by
  have hm := xmag_in b
  have h1 : (pmag b).toNat < 2 ^ 64 := Nat.lt_of_lt_of_le (show (pmag b).toNat < 9007199254740992 by omega) (by decide)
  exact Nat.le_of_lt (Lib.lowest_bit 64 (pmag b).toNat (by omega) h1).2
set_option maxRecDepth 100000 in
set_option maxHeartbeats 1000000 in
theorem xvalid_any {eo : Option Addr} {n ec : Nat} {d : Nat → Int} (w : World) (h : Row w eo n ec d) (H : Hold4 w) :
    Calls Tryd.prog 15 #[.slice eo n ec] w fun e w' => e = .returned (.bool (xval d n)) ∧ Below w.heap.size w w' := by
  have hle := h.le
  have hmx := h.max
  have HR : Hid (Row w eo n ec d) := h
  have HH : Hid (Hold4 w) := H
  clear h H
  go_enter Tryd.func15, Tryd.ntmps15
  go_wp2_with fail
  go_loopw [3, 12] (fun av iv wr => ∃ k : Nat, k ≤ n ∧ iv = .int .i64 k ∧ av = .int .i64 (xab d k) ∧ Hid (xval d k = true) ∧ Below w.heap.size w wr) (fun _ iv _ => n - (intOf iv).toNat)
  case atStart => exact ⟨0, Nat.zero_le _, rfl, rfl, rfl, bel_refl _⟩
  case round =>
    obtain ⟨k, hk, rfl, rfl, HX, hbw⟩ := hrel
    by_cases hlt : k < n
    · obtain ⟨b, off, rfl, hbb, hc⟩ := (HR.out.keeps hbw).spot (by omega)
      have c0 := hc k hlt
      clear hc
      have H := HH.out.keeps hbw
      have CP := bitsPartsA (d k) wr H.lay
      have m1 := xmag_in (d k)
      have HNO : Hid (xok d k = false → xval d n = false) := fun hno => by
        cases hx : xval d n
        · rfl
        · have := xval_mono (show k + 1 ≤ n by omega) hx
          rw [xval_succ, hno, Bool.and_false] at this
          cases this
      have HO : Hid (xok d k = (!decide (pmag (d k) = 0) && !decide (pexp (d k) + jz (pmag (d k)) < xab d k))) := rfl
      have HA : Hid (xab d (k + 1) = pexp (d k) + blen (pmag (d k))) := rfl
      have hab : -9223372036854775808 ≤ xab d k := by
        cases k with
        | zero => exact Int.le_refl _
        | succ j =>
          show _ ≤ pexp (d j) + ((blen (pmag (d j)) : Nat) : Int)
          have := xmag_in (d j)
          omega
      have CT : Hid (∀ W, b_Tab W → 0 < pmag (d k) → Calls Tryd.prog 30 #[.int .u64 (pmag (d k))] W fun e w' => e = .returned (.int .i64 (jz (pmag (d k)))) ∧ w' = W) := fun W hT hp => tzero_any _ hp (by omega) W hT
      have CL : Hid (∀ W, Calls Tryd.prog 31 #[.int .u64 (pmag (d k))] W fun e w' => e = .returned (.int .i64 (blen (pmag (d k)))) ∧ w' = W) := fun W => len_any _ W (by omega) (by omega)
      have hj := jz_small (d k)
      have hbl : blen (pmag (d k)) ≤ 63 := blen_le (show pmag (d k) < 9223372036854775808 by omega)
      have cv : IntKind.u64.wrap (pmag (d k)) = pmag (d k) := by rw [IntKind.wrap_u64]; omega
      generalize hmg : pmag (d k) = mg at *
      generalize hex : pexp (d k) = ex at *
      generalize pneg (d k) = ng at *
      generalize pok (d k) = fn at *
      generalize hdk : d k = dk at *
      generalize hbn : blen mg = bn at *
      clear hmg hex hdk hbn
      have i0 : (0 : Int) ≤ (k : Int) := by omega
      have i1 : (k : Int) < (n : Int) := by omega
      by_cases hm : mg = 0
      · subst hm
        have hno : Hid (false = xval d n) := (HNO.out (by rw [HO.out]; simp)).symm
        go_wp2_with fail
        refine CP.mono ?_
        rintro _ w1 ⟨rfl, hb1⟩
        go_wp2
        all_goals go_ret
        all_goals exact ⟨ret_bool hno.out, by first | exact bel_trans hbw hb1 | exact (bel_trans hbw hb1).drew⟩
      · have hm0 : (mg == 0) = false := by simpa using hm
        have hmp : 0 < mg := by omega
        have hj' := hj hm
        generalize hjj : jz mg = jj at *
        clear hj hjj
        by_cases hl : ex + (jj : Int) < xab d k
        · have hno : Hid (false = xval d n) := (HNO.out (by rw [HO.out]; simp [hl])).symm
          generalize xab d k = ab at *
          go_wp2_with fail
          refine CP.mono ?_
          rintro _ w1 ⟨rfl, hb1⟩
          have hbw1 := bel_trans hbw hb1
          have HT : Hid (b_Tab w1) := (HH.out.keeps hbw1).tab
          go_wp2_with (go_at_call 30; refine (CT.out _ HT.out hmp).mono ?_; rintro _ wz ⟨rfl, hw⟩; replace hw := hw.symm; subst hw)
          all_goals go_ret
          all_goals exact ⟨ret_bool hno.out, by first | exact hbw1 | exact hbw1.drew⟩
        · have hyes : xval d (k + 1) = true := by rw [xval_succ, HX.out, HO.out]; simp [hl, hm]
          have hl' : ¬ (ex + (jj : Int) < xab d k) := hl
          clear hl
          generalize xab d k = ab at *
          go_wp2_with fail
          refine CP.mono ?_
          rintro _ w1 ⟨rfl, hb1⟩
          have hbw1 := bel_trans hbw hb1
          have HT : Hid (b_Tab w1) := (HH.out.keeps hbw1).tab
          go_wp2_with (first
            | (go_at_call 30; refine (CT.out _ HT.out hmp).mono ?_; rintro _ wz ⟨rfl, hw⟩; replace hw := hw.symm; subst hw)
            | (go_at_call 31; refine (CL.out _).mono ?_; rintro _ wz ⟨rfl, hw⟩; replace hw := hw.symm; subst hw))
          go_roundw
          case rel => exact ⟨k + 1, by omega, by go_num, by rw [HA.out], hyes, by first | exact hbw1 | exact hbw1.drew⟩
          case measure => simp [intOf]; omega
    · obtain rfl : k = n := by omega
      go_wp2
      go_ret
      exact ⟨ret_bool HX.out.symm, hbw⟩
end Go.Proofs.YtmghplbmfjhkcaaDoor

/-
  Package expansion: the closures, withFloat, withList; Grow, Scale, Sum, by their contracts.
-/
namespace Go.Proofs.YtmghplbmfjhkcaaDoor
open Go Go.RowKit Go.Proofs.YtmghplbmfjhkcaaDoor.M
set_option linter.unusedSimpArgs false
set_option linter.unusedVariables false

/-- What is reckoned: a list in new memory, or nothing. -/
def XR (w : World) (ok : Bool) (s : Ls) (r : Ending) (w' : World) : Prop := ((ok = true ∧ ∃ v, r = .returned v ∧ LsO w.heap.size w' v s) ∨ (ok = false ∧ r = gaveX)) ∧ Below w.heap.size w w'
/-- What is told of it. -/
def XA (w : World) (ok : Bool) (s : Ls) (r : Ending) (w' : World) : Prop := ((ok = true ∧ ∃ v, r = .returned (.tuple #[v, .int .i64 0]) ∧ LsO w.heap.size w' v s) ∨ (ok = false ∧ r = .returned (.tuple #[.slice none 0 0, .int .i64 14]))) ∧ Below w.heap.size w w'
theorem xtold_any (F : Nat) (cap : Array Value) (w : World) (ok : Bool) (s : Ls) (hE : ∀ w, (callFunc F cap).run Tryd.prog w = .ok (.enter F cap) w) (hF : ∀ W, Below w.heap.size w W → Calls Tryd.prog F cap W fun r W' => XR W ok s r W') :
    Calls Tryd.prog 34 #[.func (.func F) #[] cap] w fun r w' => XA w ok s r w' := by
  cases ok
  · refine (xtold_no F cap w hE fun W hW => (hF W hW).mono ?_).mono ?_
    · rintro r W' ⟨(⟨h, _⟩ | ⟨_, h⟩), hb⟩
      · cases h
      · exact ⟨h, hb⟩
    · rintro r w' ⟨h, hb⟩
      exact ⟨.inr ⟨rfl, h⟩, hb⟩
  · refine (xtold_yes F cap w s hE fun W hW => (hF W hW).mono ?_).mono ?_
    · rintro r W' ⟨(⟨_, v, h1, h2⟩ | ⟨h, _⟩), hb⟩
      · exact ⟨v, h1, h2, hb⟩
      · cases h
    · rintro r w' ⟨v, h1, h2, hb⟩
      exact ⟨.inl ⟨rfl, v, h1, h2⟩, hb⟩
set_option maxRecDepth 100000 in
theorem xwf1 (G : Nat) (eo : Option Addr) (n ec : Nat) (b : Int) (p0 p1 p2 : Addr) (w : World) (ok : Bool) (s : Ls) (hEG : ∀ (cap : Array Value) (w : World), (callFunc G cap).run Tryd.prog w = .ok (.enter G cap) w) (c0 : w.cell? p0 = some (.func (.func G) #[] #[])) (c1 : w.cell? p1 = some (.slice eo n ec)) (c2 : w.cell? p2 = some (.int .i64 b))
    (hG : Calls Tryd.prog G #[.slice eo n ec, .int .i64 b] w fun r w' => XR w ok s r w') :
    Calls Tryd.prog 47 #[.pointer (some p0), .pointer (some p1), .pointer (some p2)] w fun r w' => XR w ok s r w' := by
  go_enter Tryd.func47, Tryd.ntmps47
  go_wp2_with fail
  refine hG.mono ?_
  rintro r w' ⟨(⟨h1, v, rfl, h2⟩ | ⟨h1, rfl⟩), hb⟩
  · obtain ⟨ao, cc, rfl⟩ := h2.shape
    go_wp2
    go_ret
    exact ⟨.inl ⟨h1, _, rfl, h2⟩, hb⟩
  · unfold gaveX
    go_wp2
    exact ⟨rfl, .inr ⟨h1, rfl⟩, hb⟩
set_option maxRecDepth 100000 in
theorem xwl1 (G : Nat) (eo fo : Option Addr) (n ec m fc : Nat) (p0 p1 p2 : Addr) (w : World) (ok : Bool) (s : Ls) (hEG : ∀ (cap : Array Value) (w : World), (callFunc G cap).run Tryd.prog w = .ok (.enter G cap) w) (c0 : w.cell? p0 = some (.func (.func G) #[] #[])) (c1 : w.cell? p1 = some (.slice eo n ec)) (c2 : w.cell? p2 = some (.slice fo m fc))
    (hG : Calls Tryd.prog G #[.slice eo n ec, .slice fo m fc] w fun r w' => XR w ok s r w') :
    Calls Tryd.prog 35 #[.pointer (some p0), .pointer (some p1), .pointer (some p2)] w fun r w' => XR w ok s r w' := by
  go_enter Tryd.func35, Tryd.ntmps35
  go_wp2_with fail
  refine hG.mono ?_
  rintro r w' ⟨(⟨h1, v, rfl, h2⟩ | ⟨h1, rfl⟩), hb⟩
  · obtain ⟨ao, cc, rfl⟩ := h2.shape
    go_wp2
    go_ret
    exact ⟨.inl ⟨h1, _, rfl, h2⟩, hb⟩
  · unfold gaveX
    go_wp2
    exact ⟨rfl, .inr ⟨h1, rfl⟩, hb⟩
end Go.Proofs.YtmghplbmfjhkcaaDoor

/-
  Package expansion: withFloat, withList, by their contracts.
-/
namespace Go.Proofs.YtmghplbmfjhkcaaDoor
open Go Go.RowKit Go.Proofs.YtmghplbmfjhkcaaDoor.M
set_option linter.unusedSimpArgs false
set_option linter.unusedVariables false

set_option maxRecDepth 100000 in
set_option maxHeartbeats 1000000 in
theorem xwf_ok (G : Nat) {eo : Option Addr} {n ec : Nat} {d : Nat → Int} {b : Int} (w : World) (ok : Bool) (s : Ls) (hEG : ∀ (cap : Array Value) (w : World), (callFunc G cap).run Tryd.prog w = .ok (.enter G cap) w) (h : Row w eo n ec d) (hv : xval d n = true) (pb : pok b = true) (H : Hold4 w)
    (hG : ∀ W, Below w.heap.size w W → Calls Tryd.prog G #[.slice eo n ec, .int .i64 b] W fun r w' => XR W ok s r w') :
    Calls Tryd.prog 26 #[.slice eo n ec, .int .i64 b, .func (.func G) #[] #[]] w fun r w' => XA w ok s r w' := by
  have hmf : ∀ (fn : Fn) (first cap : Array Value) (w : World), (Instr.makeFunc fn first cap).run Tryd.prog w = .ok (.func fn first cap) w := fun _ _ _ _ => rfl
  have hst : ∀ p F m w, (store p (.func (.func F) #[] #[]) m).run Tryd.prog w = stored Tryd.prog w p (.func (.func F) #[] #[]) m := fun p F m w => run_store _ w p _ m rfl
  have hE : ∀ (cap : Array Value) (w : World), (callFunc 47 cap).run Tryd.prog w = .ok (.enter 47 cap) w := by
    intro cap w
    simp [go_sem]
  have k0 := h3_0 w (.cells #[.slice eo n ec] 22) (.cells #[.int .i64 b] 3) (.cells #[.func (.func G) #[] #[]] 50)
  have k1 := h3_1 w (.cells #[.slice eo n ec] 22) (.cells #[.int .i64 b] 3) (.cells #[.func (.func G) #[] #[]] 50)
  have k2 := h3_2 w (.cells #[.slice eo n ec] 22) (.cells #[.int .i64 b] 3) (.cells #[.func (.func G) #[] #[]] 50)
  have hb0 := bel_a3 w (.cells #[.slice eo n ec] 22) (.cells #[.int .i64 b] 3) (.cells #[.func (.func G) #[] #[]] 50)
  have CV := fun W hW => xvalid_any W (h.keeps hW) (H.keeps hW)
  rw [hv] at CV
  have CP := fun W hW => bitsPartsA b W (H.keeps hW).lay
  rw [pb] at CP
  go_enter Tryd.func26, Tryd.ntmps26
  go_wp2_with fail
  generalize ((w.alloc (.cells #[.slice eo n ec] 22)).alloc (.cells #[.int .i64 b] 3)).alloc (.cells #[.func (.func G) #[] #[]] 50) = x0 at k0 k1 k2 hb0 ⊢
  refine (CV _ hb0).mono ?_
  rintro _ y1 ⟨rfl, hw1⟩
  have k0 := (hw1.block _ (Array.getElem?_eq_some_iff.1 k0).1).trans k0
  have k1 := (hw1.block _ (Array.getElem?_eq_some_iff.1 k1).1).trans k1
  have k2 := (hw1.block _ (Array.getElem?_eq_some_iff.1 k2).1).trans k2
  have hbA := bel_trans hb0 hw1
  have c1 := blkC k1 0 rfl
  go_wp2_with fail
  refine (CP _ hbA).mono ?_
  rintro _ y2 ⟨rfl, hw2⟩
  have k0 := (hw2.block _ (Array.getElem?_eq_some_iff.1 k0).1).trans k0
  have k1 := (hw2.block _ (Array.getElem?_eq_some_iff.1 k1).1).trans k1
  have k2 := (hw2.block _ (Array.getElem?_eq_some_iff.1 k2).1).trans k2
  have hbB := bel_trans hbA hw2
  have c0 := blkC k0 0 rfl
  have c1 := blkC k1 0 rfl
  have c2 := blkC k2 0 rfl
  go_wp2_with fail
  refine (xtold_any 47 _ _ ok s (hE _) (fun W hW => ?_)).mono ?_
  · have k0 := (hW.block _ (Array.getElem?_eq_some_iff.1 k0).1).trans k0
    have k1 := (hW.block _ (Array.getElem?_eq_some_iff.1 k1).1).trans k1
    have k2 := (hW.block _ (Array.getElem?_eq_some_iff.1 k2).1).trans k2
    exact xwf1 G eo n ec b _ _ _ W ok s hEG (blkC k2 0 rfl) (blkC k0 0 rfl) (blkC k1 0 rfl) (hG W (bel_trans hbB hW))
  rintro r w2 ⟨(⟨h1, v, rfl, h2⟩ | ⟨h1, rfl⟩), hb2⟩
  · obtain ⟨ao, cc, rfl⟩ := h2.shape
    go_wp2
    refine bodyPost_ret (v := .tuple #[.slice ao s.n cc, .int .i64 0]) (by simp [results, Tryd.results26, go_sem]) rfl ⟨.inl ⟨h1, _, rfl, h2.lower hbB.size⟩, bel_trans hbB hb2⟩
  · go_wp2
    refine bodyPost_ret (v := .tuple #[.slice none 0 0, .int .i64 14]) (by simp [results, Tryd.results26, go_sem]) rfl ⟨.inr ⟨h1, rfl⟩, bel_trans hbB hb2⟩
set_option maxRecDepth 100000 in
set_option maxHeartbeats 1000000 in
theorem xwl_ok (G : Nat) {eo fo : Option Addr} {n ec m fc : Nat} {d f : Nat → Int} (w : World) (ok : Bool) (s : Ls) (hEG : ∀ (cap : Array Value) (w : World), (callFunc G cap).run Tryd.prog w = .ok (.enter G cap) w) (h : Row w eo n ec d) (hf : Row w fo m fc f) (hv : xval d n = true) (hu : xval f m = true) (H : Hold4 w)
    (hG : ∀ W, Below w.heap.size w W → Calls Tryd.prog G #[.slice eo n ec, .slice fo m fc] W fun r w' => XR W ok s r w') :
    Calls Tryd.prog 17 #[.slice eo n ec, .slice fo m fc, .func (.func G) #[] #[]] w fun r w' => XA w ok s r w' := by
  have hmf : ∀ (fn : Fn) (first cap : Array Value) (w : World), (Instr.makeFunc fn first cap).run Tryd.prog w = .ok (.func fn first cap) w := fun _ _ _ _ => rfl
  have hst : ∀ p F m w, (store p (.func (.func F) #[] #[]) m).run Tryd.prog w = stored Tryd.prog w p (.func (.func F) #[] #[]) m := fun p F m w => run_store _ w p _ m rfl
  have hE : ∀ (cap : Array Value) (w : World), (callFunc 35 cap).run Tryd.prog w = .ok (.enter 35 cap) w := by
    intro cap w
    simp [go_sem]
  have k0 := h3_0 w (.cells #[.slice eo n ec] 22) (.cells #[.slice fo m fc] 22) (.cells #[.func (.func G) #[] #[]] 42)
  have k1 := h3_1 w (.cells #[.slice eo n ec] 22) (.cells #[.slice fo m fc] 22) (.cells #[.func (.func G) #[] #[]] 42)
  have k2 := h3_2 w (.cells #[.slice eo n ec] 22) (.cells #[.slice fo m fc] 22) (.cells #[.func (.func G) #[] #[]] 42)
  have hb0 := bel_a3 w (.cells #[.slice eo n ec] 22) (.cells #[.slice fo m fc] 22) (.cells #[.func (.func G) #[] #[]] 42)
  have CV := fun W hW => xvalid_any W (h.keeps hW) (H.keeps hW)
  rw [hv] at CV
  have CP := fun W hW => xvalid_any W (hf.keeps hW) (H.keeps hW)
  rw [hu] at CP
  go_enter Tryd.func17, Tryd.ntmps17
  go_wp2_with fail
  generalize ((w.alloc (.cells #[.slice eo n ec] 22)).alloc (.cells #[.slice fo m fc] 22)).alloc (.cells #[.func (.func G) #[] #[]] 42) = x0 at k0 k1 k2 hb0 ⊢
  refine (CV _ hb0).mono ?_
  rintro _ y1 ⟨rfl, hw1⟩
  have k0 := (hw1.block _ (Array.getElem?_eq_some_iff.1 k0).1).trans k0
  have k1 := (hw1.block _ (Array.getElem?_eq_some_iff.1 k1).1).trans k1
  have k2 := (hw1.block _ (Array.getElem?_eq_some_iff.1 k2).1).trans k2
  have hbA := bel_trans hb0 hw1
  have c1 := blkC k1 0 rfl
  go_wp2_with fail
  refine (CP _ hbA).mono ?_
  rintro _ y2 ⟨rfl, hw2⟩
  have k0 := (hw2.block _ (Array.getElem?_eq_some_iff.1 k0).1).trans k0
  have k1 := (hw2.block _ (Array.getElem?_eq_some_iff.1 k1).1).trans k1
  have k2 := (hw2.block _ (Array.getElem?_eq_some_iff.1 k2).1).trans k2
  have hbB := bel_trans hbA hw2
  have c0 := blkC k0 0 rfl
  have c1 := blkC k1 0 rfl
  have c2 := blkC k2 0 rfl
  go_wp2_with fail
  refine (xtold_any 35 _ _ ok s (hE _) (fun W hW => ?_)).mono ?_
  · have k0 := (hW.block _ (Array.getElem?_eq_some_iff.1 k0).1).trans k0
    have k1 := (hW.block _ (Array.getElem?_eq_some_iff.1 k1).1).trans k1
    have k2 := (hW.block _ (Array.getElem?_eq_some_iff.1 k2).1).trans k2
    exact xwl1 G eo fo n ec m fc _ _ _ W ok s hEG (blkC k2 0 rfl) (blkC k0 0 rfl) (blkC k1 0 rfl) (hG W (bel_trans hbB hW))
  rintro r w2 ⟨(⟨h1, v, rfl, h2⟩ | ⟨h1, rfl⟩), hb2⟩
  · obtain ⟨ao, cc, rfl⟩ := h2.shape
    go_wp2
    refine bodyPost_ret (v := .tuple #[.slice ao s.n cc, .int .i64 0]) (by simp [results, Tryd.results17, go_sem]) rfl ⟨.inl ⟨h1, _, rfl, h2.lower hbB.size⟩, bel_trans hbB hb2⟩
  · go_wp2
    refine bodyPost_ret (v := .tuple #[.slice none 0 0, .int .i64 14]) (by simp [results, Tryd.results17, go_sem]) rfl ⟨.inr ⟨h1, rfl⟩, bel_trans hbB hb2⟩
end Go.Proofs.YtmghplbmfjhkcaaDoor

/-
  Package expansion: grown, sum, scaled; Grow, Sum, Scale, by their contracts.
-/
namespace Go.Proofs.YtmghplbmfjhkcaaDoor
open Go Go.RowKit Go.Proofs.YtmghplbmfjhkcaaDoor.M
set_option linter.unusedSimpArgs false
set_option linter.unusedVariables false

theorem xval_fin {d : Nat → Int} : ∀ {n}, xval d n = true → ∀ i, i < n → pok (d i) = true
  | 0, _, i, hi => absurd hi (Nat.not_lt_zero _)
  | n + 1, h, i, hi => by
    rw [xval_succ, Bool.and_eq_true] at h
    by_cases e : i = n
    · subst e
      have h2 := h.2
      unfold xok at h2
      rw [Bool.and_eq_true] at h2
      cases hp : pok (d i)
      · exfalso
        have hf : fld (d i) = 2047 := by simpa [pok] using hp
        have : pmag (d i) = 0 := by unfold pmag; rw [if_pos hf]
        simp [this] at h2
      · rfl
    · exact xval_fin h.1 i (by omega)
theorem XR.of_gr {w w1 w' : World} {ok : Bool} {s : Ls} {r : Ending} (hb : w.grownBy w1 none) (h : (ok = true ∧ ∃ v, r = .returned v ∧ LsO w.heap.size w' v s ∧ Below w.heap.size w1 w') ∨ (ok = false ∧ r = gaveX ∧ Below w.heap.size w1 w')) : XR w ok s r w' := by
  have hb0 : Below w.heap.size w w1 := grown_below hb
  rcases h with ⟨h1, v, h2, h3, h4⟩ | ⟨h1, h2, h3⟩
  · exact ⟨.inl ⟨h1, v, h2, h3⟩, hb0.trans h4⟩
  · exact ⟨.inr ⟨h1, h2⟩, hb0.trans h3⟩
set_option maxRecDepth 100000 in
theorem xgrown_any {eo : Option Addr} {n ec : Nat} {d : Nat → Int} {b : Int} (w : World) (h : Row w eo n ec d) (hd : ∀ i, i < n → rng (d i) ∧ pok (d i) = true) (hb : rng b) (pb : pok b = true) (hn : n ≤ 600000) :
    Calls Tryd.prog 27 #[.slice eo n ec, .int .i64 b] w fun r w' => XR w (gx d b n) (grw n d b) r w' := by
  have CO := xown_any w h (by omega)
  have CG : Hid (∀ W v, W.heap.size ≥ w.heap.size → LsO w.heap.size W v ⟨n, d⟩ → Calls Tryd.prog 48 #[v, .int .i64 b] W fun e w' => (gx d b n = true ∧ ∃ v', e = .returned v' ∧ LsO w.heap.size w' v' (grw n d b) ∧ Below w.heap.size W w') ∨ (gx d b n = false ∧ e = gaveX ∧ Below w.heap.size W w')) := fun W v hW hL => by
    refine (xgrow_L W hL hd hb pb (show n ≤ 800000 by omega) hW).mono ?_
    rintro e w' (⟨h1, v', h2, h3, h4⟩ | ⟨h1, h2, h3⟩)
    · exact .inl ⟨h1, v', h2, h3, h4.below hW⟩
    · exact .inr ⟨h1, h2, h3.below hW⟩
  generalize gx d b n = X at *
  generalize hS : grw n d b = S at *
  clear hS
  go_enter Tryd.func27, Tryd.ntmps27
  go_wp2_with fail
  refine CO.mono ?_
  rintro _ w1 ⟨v, rfl, hL, hg⟩
  obtain ⟨ao, cc, rfl⟩ := hL.shape
  go_wp2_with fail
  refine (CG.out _ _ hg.size hL).mono ?_
  rintro _ w2 (⟨h1, v', rfl, h3, h4⟩ | ⟨h1, rfl, h3⟩)
  · obtain ⟨ao', cc', rfl⟩ := h3.shape
    go_wp2
    go_ret
    exact XR.of_gr hg (.inl ⟨h1, _, rfl, h3, h4⟩)
  · unfold gaveX
    go_wp2
    exact ⟨rfl, XR.of_gr hg (.inr ⟨h1, rfl, h3⟩)⟩
set_option maxRecDepth 100000 in
theorem xsum_any {eo fo : Option Addr} {n ec m fc : Nat} {d f : Nat → Int} (w : World) (h : Row w eo n ec d) (hf : Row w fo m fc f) (hd : ∀ i, i < n → rng (d i) ∧ pok (d i) = true) (hff : ∀ i, i < m → rng (f i) ∧ pok (f i) = true) (hn : n + m ≤ 600000) :
    Calls Tryd.prog 18 #[.slice eo n ec, .slice fo m fc] w fun r w' => XR w (gaX ⟨n, d⟩ f m) (gaS ⟨n, d⟩ f m) r w' := by
  have CO := xown_any w h (by omega)
  have CG : Hid (∀ W v, w.grownBy W none → LsO w.heap.size W v ⟨n, d⟩ → Calls Tryd.prog 36 #[v, .slice fo m fc] W fun e w' => (gaX ⟨n, d⟩ f m = true ∧ ∃ v', e = .returned v' ∧ LsO w.heap.size w' v' (gaS ⟨n, d⟩ f m) ∧ Below w.heap.size W w') ∨ (gaX ⟨n, d⟩ f m = false ∧ e = gaveX ∧ Below w.heap.size W w')) := fun W v hW hL =>
    xgather_any W hL hd (fun W' hW' => hf.keeps ((grown_below hW).trans hW')) hff (show n + m ≤ 700000 by omega) hW.size
  generalize gaX ⟨n, d⟩ f m = X at *
  generalize gaS ⟨n, d⟩ f m = S at *
  go_enter Tryd.func18, Tryd.ntmps18
  go_wp2_with fail
  refine CO.mono ?_
  rintro _ w1 ⟨v, rfl, hL, hg⟩
  obtain ⟨ao, cc, rfl⟩ := hL.shape
  go_wp2_with fail
  refine (CG.out _ _ hg hL).mono ?_
  rintro _ w2 (⟨h1, v', rfl, h3, h4⟩ | ⟨h1, rfl, h3⟩)
  · obtain ⟨ao', cc', rfl⟩ := h3.shape
    go_wp2
    go_ret
    exact XR.of_gr hg (.inl ⟨h1, _, rfl, h3, h4⟩)
  · unfold gaveX
    go_wp2
    exact ⟨rfl, XR.of_gr hg (.inr ⟨h1, rfl, h3⟩)⟩
/-- The list that scaled tells, of n floats. -/
def sclN (d : Nat → Int) (b : Int) : Nat → Ls
  | 0 => ⟨0, fun _ => 0⟩
  | n + 1 => if rg b = 0 then ⟨0, fun _ => 0⟩ else scl ⟨0, fun _ => 0⟩ d b n
def sxN (d : Nat → Int) (b : Int) : Nat → Bool
  | 0 => true
  | n + 1 => if rg b = 0 then true else sx d b n
set_option maxRecDepth 100000 in
theorem xscaled_any {eo : Option Addr} {n ec : Nat} {d : Nat → Int} {b : Int} (w : World) (h : Row w eo n ec d) (hd : ∀ i, i < n → rng (d i) ∧ pok (d i) = true) (hb : rng b) (pb : pok b = true) (hn : n ≤ 300000) (H : Hold4 w) :
    Calls Tryd.prog 28 #[.slice eo n ec, .int .i64 b] w fun r w' => XR w (sxN d b n) (sclN d b n) r w' := by
  have hle := h.le
  have hmx := h.max
  have CS : Calls Tryd.prog 49 #[.slice none 0 0, .slice eo n ec, .int .i64 b] w fun r w' => XR w (sxN d b n) (sclN d b n) r w' := by
    cases n with
    | zero =>
      refine (xscale_empty w).mono ?_
      rintro r w' ⟨rfl, rfl⟩
      exact ⟨.inl ⟨rfl, _, rfl, .inl (Out.nil _ _ _)⟩, bel_refl _⟩
    | succ n =>
      by_cases h0 : rg b = 0
      · have e1 : sxN d b (n + 1) = true := if_pos h0
        have e2 : sclN d b (n + 1) = ⟨0, fun _ => 0⟩ := if_pos h0
        rw [e1, e2]
        refine (xscale_nought w hb h0 (by omega)).mono ?_
        rintro r w' ⟨rfl, rfl⟩
        exact ⟨.inl ⟨rfl, _, rfl, .inl (Out.nil _ _ _)⟩, bel_refl _⟩
      · have e1 : sxN d b (n + 1) = sx d b n := if_neg h0
        have e2 : sclN d b (n + 1) = scl ⟨0, fun _ => 0⟩ d b n := if_neg h0
        rw [e1, e2]
        refine (xscale_some (B := w.heap.size) (s := ⟨0, fun _ => 0⟩) w (.inl (Out.nil _ _ _)) (fun W hW => h.keeps hW) (fun i hi => hd i (by omega)) hb pb h0 (show 0 + 2 * n ≤ 700000 by omega) (Nat.le_refl _) (fun W hW => H.keeps hW)).mono ?_
        rintro r w' (⟨h1, v', h2, h3, h4⟩ | ⟨h1, h2, h3⟩)
        · exact ⟨.inl ⟨h1, v', h2, h3⟩, h4⟩
        · exact ⟨.inr ⟨h1, h2⟩, h3⟩
  generalize sxN d b n = X at *
  generalize sclN d b n = S at *
  go_enter Tryd.func28, Tryd.ntmps28
  go_wp2_with fail
  refine CS.mono ?_
  rintro _ w2 ⟨(⟨h1, v', rfl, h3⟩ | ⟨h1, rfl⟩), h4⟩
  · obtain ⟨ao', cc', rfl⟩ := h3.shape
    go_wp2
    go_ret
    exact ⟨.inl ⟨h1, _, rfl, h3⟩, h4⟩
  · unfold gaveX
    go_wp2
    exact ⟨rfl, .inr ⟨h1, rfl⟩, h4⟩
end Go.Proofs.YtmghplbmfjhkcaaDoor

/-
  Package expansion: Grow, Scale, Sum, by their contracts.
-/
namespace Go.Proofs.YtmghplbmfjhkcaaDoor
open Go Go.RowKit Go.Proofs.YtmghplbmfjhkcaaDoor.M
set_option linter.unusedSimpArgs false
set_option linter.unusedVariables false

set_option maxRecDepth 100000 in
theorem xGrow {eo : Option Addr} {n ec : Nat} {d : Nat → Int} {b : Int} (w : World) (h : Row w eo n ec d) (hr : ∀ i, i < n → rng (d i)) (hv : xval d n = true) (hb : rng b) (pb : pok b = true) (hn : n ≤ 300000) (H : Hold4 w) :
    Calls Tryd.prog 12 #[.slice eo n ec, .int .i64 b] w fun r w' => XA w (gx d b n) (grw n d b) r w' := by
  have hEG : ∀ (cap : Array Value) (w : World), (callFunc 27 cap).run Tryd.prog w = .ok (.enter 27 cap) w := by
    intro cap w
    simp [go_sem]
  have hd : ∀ i, i < n → rng (d i) ∧ pok (d i) = true := fun i hi => ⟨hr i hi, xval_fin hv i hi⟩
  have CW := xwf_ok 27 w (gx d b n) (grw n d b) hEG h hv pb H (fun W hW => xgrown_any W (h.keeps hW) hd hb pb (by omega))
  generalize gx d b n = X at *
  generalize grw n d b = S at *
  go_enter Tryd.func12, Tryd.ntmps12
  go_wp2_with fail
  refine CW.mono ?_
  rintro _ w1 ⟨(⟨h1, v, rfl, h2⟩ | ⟨h1, rfl⟩), hb⟩
  · obtain ⟨ao, cc, rfl⟩ := h2.shape
    go_wp2
    refine bodyPost_ret (v := .tuple #[.slice ao S.n cc, .int .i64 0]) (by simp [results, Tryd.results12, go_sem]) rfl ⟨.inl ⟨h1, _, rfl, h2⟩, hb⟩
  · go_wp2
    refine bodyPost_ret (v := .tuple #[.slice none 0 0, .int .i64 14]) (by simp [results, Tryd.results12, go_sem]) rfl ⟨.inr ⟨h1, rfl⟩, hb⟩
set_option maxRecDepth 100000 in
theorem xScale {eo : Option Addr} {n ec : Nat} {d : Nat → Int} {b : Int} (w : World) (h : Row w eo n ec d) (hr : ∀ i, i < n → rng (d i)) (hv : xval d n = true) (hb : rng b) (pb : pok b = true) (hn : n ≤ 300000) (H : Hold4 w) :
    Calls Tryd.prog 13 #[.slice eo n ec, .int .i64 b] w fun r w' => XA w (sxN d b n) (sclN d b n) r w' := by
  have hEG : ∀ (cap : Array Value) (w : World), (callFunc 28 cap).run Tryd.prog w = .ok (.enter 28 cap) w := by
    intro cap w
    simp [go_sem]
  have hd : ∀ i, i < n → rng (d i) ∧ pok (d i) = true := fun i hi => ⟨hr i hi, xval_fin hv i hi⟩
  have CW := xwf_ok 28 w (sxN d b n) (sclN d b n) hEG h hv pb H (fun W hW => xscaled_any W (h.keeps hW) hd hb pb hn (H.keeps hW))
  generalize sxN d b n = X at *
  generalize sclN d b n = S at *
  go_enter Tryd.func13, Tryd.ntmps13
  go_wp2_with fail
  refine CW.mono ?_
  rintro _ w1 ⟨(⟨h1, v, rfl, h2⟩ | ⟨h1, rfl⟩), hb⟩
  · obtain ⟨ao, cc, rfl⟩ := h2.shape
    go_wp2
    refine bodyPost_ret (v := .tuple #[.slice ao S.n cc, .int .i64 0]) (by simp [results, Tryd.results13, go_sem]) rfl ⟨.inl ⟨h1, _, rfl, h2⟩, hb⟩
  · go_wp2
    refine bodyPost_ret (v := .tuple #[.slice none 0 0, .int .i64 14]) (by simp [results, Tryd.results13, go_sem]) rfl ⟨.inr ⟨h1, rfl⟩, hb⟩
set_option maxRecDepth 100000 in
theorem xSum {eo fo : Option Addr} {n ec m fc : Nat} {d f : Nat → Int} (w : World) (h : Row w eo n ec d) (hf : Row w fo m fc f) (hr : ∀ i, i < n → rng (d i)) (hrf : ∀ i, i < m → rng (f i)) (hv : xval d n = true) (hu : xval f m = true) (hn : n + m ≤ 300000) (H : Hold4 w) :
    Calls Tryd.prog 7 #[.slice eo n ec, .slice fo m fc] w fun r w' => XA w (gaX ⟨n, d⟩ f m) (gaS ⟨n, d⟩ f m) r w' := by
  have hEG : ∀ (cap : Array Value) (w : World), (callFunc 18 cap).run Tryd.prog w = .ok (.enter 18 cap) w := by
    intro cap w
    simp [go_sem]
  have hd : ∀ i, i < n → rng (d i) ∧ pok (d i) = true := fun i hi => ⟨hr i hi, xval_fin hv i hi⟩
  have hff : ∀ i, i < m → rng (f i) ∧ pok (f i) = true := fun i hi => ⟨hrf i hi, xval_fin hu i hi⟩
  have CW := xwl_ok 18 w (gaX ⟨n, d⟩ f m) (gaS ⟨n, d⟩ f m) hEG h hf hv hu H (fun W hW => xsum_any W (h.keeps hW) (hf.keeps hW) hd hff (by omega))
  generalize gaX ⟨n, d⟩ f m = X at *
  generalize gaS ⟨n, d⟩ f m = S at *
  go_enter Tryd.func7, Tryd.ntmps7
  go_wp2_with fail
  refine CW.mono ?_
  rintro _ w1 ⟨(⟨h1, v, rfl, h2⟩ | ⟨h1, rfl⟩), hb⟩
  · obtain ⟨ao, cc, rfl⟩ := h2.shape
    go_wp2
    refine bodyPost_ret (v := .tuple #[.slice ao S.n cc, .int .i64 0]) (by simp [results, Tryd.results7, go_sem]) rfl ⟨.inl ⟨h1, _, rfl, h2⟩, hb⟩
  · go_wp2
    refine bodyPost_ret (v := .tuple #[.slice none 0 0, .int .i64 14]) (by simp [results, Tryd.results7, go_sem]) rfl ⟨.inr ⟨h1, rfl⟩, hb⟩
end Go.Proofs.YtmghplbmfjhkcaaDoor
