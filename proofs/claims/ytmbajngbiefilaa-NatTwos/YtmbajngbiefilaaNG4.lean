/-
  Package nat: divisor (Lehmer's way), Gcd, by contracts.
-/
import Derived.Test.YtmbajngbiefilaaNG3
import Derived.Test.YtmbajngbiefilaaNW6
namespace Go.Proofs.Ytmbajngbiefilaa
open Go Go.RowKit Go.Proofs.Ytmbajngbiefilaa.M
set_option linter.unusedSimpArgs false
set_option linter.unusedVariables false

/-- Where Lehmer's rounds stand. -/
def GcdR (w0 : World) (G : Nat) (va vb : Value) (A B : Int) (wr : World) : Prop := Num wr va A ∧ Num wr vb B ∧ B ≤ A ∧ A < P 2000 ∧ Int.gcd A B = G ∧ Below w0.heap.size w0 wr
theorem gcd_mod {A B : Int} : Int.gcd B (A % B) = Int.gcd A B := by
  rw [Int.gcd_comm B, Int.emod_def, Int.mul_comm B, Int.gcd_sub_mul_right_left]
theorem GcdR.divided {w0 wr w' : World} {G : Nat} {va vb v1 v2 : Value} {A B : Int} (h : GcdR w0 G va vb A B wr) (hB : 0 < B) (hd : Ans2 wr w' (A / B) v1 (A % B) v2) : GcdR w0 G vb v2 B (A % B) w' ∧ A % B < B := by
  obtain ⟨h1, h2, h3, h4, h5, h6⟩ := h
  have hb := hd.1.below
  have m1 := Int.emod_lt_of_pos A hB
  exact ⟨⟨h2.keeps hb, hd.2.1.num, by omega, Int.lt_of_le_of_lt h3 h4, by rw [gcd_mod]; exact h5, bel_trans h6 hb⟩, m1⟩
theorem GcdR.stepped {w0 wr w' : World} {G : Nat} {va vb v1 v2 : Value} {A B X Y : Int} (h : GcdR w0 G va vb A B wr) (hd : App wr w' X Y v1 v2) (hY : Y < X) (hX : X ≤ A) (hG : Int.gcd X Y = Int.gcd A B) : GcdR w0 G v1 v2 X Y w' := by
  obtain ⟨h1, h2, h3, h4, h5, h6⟩ := h
  exact ⟨hd.1.num, hd.2.num, by omega, Int.lt_of_le_of_lt hX h4, by rw [hG]; exact h5, bel_trans h6 hd.1.below⟩
theorem GcdR.grow {w0 wr w' : World} {G : Nat} {va vb : Value} {A B : Int} (h : GcdR w0 G va vb A B wr) (hb : Below wr.heap.size wr w') : GcdR w0 G va vb A B w' := by
  obtain ⟨h1, h2, h3, h4, h5, h6⟩ := h
  exact ⟨h1.keeps hb, h2.keeps hb, h3, h4, h5, bel_trans h6 hb⟩
theorem GcdR.parts {w0 wr : World} {G : Nat} {va vb : Value} {A B : Int} (h : GcdR w0 G va vb A B wr) :
    ∃ ao n ca a bo m cb b, va = .slice ao n ca ∧ vb = .slice bo m cb ∧ Row wr ao n ca a ∧ Row wr bo m cb b ∧ Nrm a n ∧ Nrm b m ∧ val a n = A ∧ val b m = B ∧ n ≤ 2000 ∧ m ≤ n := by
  obtain ⟨h1, h2, h3, h4, h5, h6⟩ := h
  obtain ⟨ao, n, ca, rfl⟩ := h1.shape
  have hl := h1.len h4
  obtain ⟨ao', n', ca', a, e1, hR, h2', h3'⟩ := h1
  obtain ⟨bo, m, cb, b, rfl, kR, k2, k3⟩ := h2
  simp only [Value.slice.injEq] at e1
  obtain ⟨rfl, rfl, rfl⟩ := e1
  exact ⟨ao, n, ca, a, bo, m, cb, b, rfl, rfl, hR, kR, h2', k2, h3', k3, hl, nrm_le_len k2 h2'.1 (by omega)⟩
theorem small_num {w : World} {v : Value} {V : Int} (hn : Num w v V) (hV : V < P 2) :
    Calls Try.prog 68 #[v] w fun e w'' => e = .returned (.int .i64 V) ∧ w'' = w := by
  obtain ⟨ao, n, cap, rfl⟩ := hn.shape
  have hl := hn.len hV
  obtain ⟨ao', n', cap', d, e, hR, h2, rfl⟩ := hn
  simp only [Value.slice.injEq] at e
  obtain ⟨rfl, rfl, rfl⟩ := e
  have h3 : val d n < 1152921504606846976 := hV
  exact small_any _ _ _ _ _ hR h2.1 (by omega) (by omega)
set_option maxRecDepth 100000 in
set_option maxHeartbeats 2000000 in
/-- From the rounds' head on. -/
theorem divisor_ge (va vb : Value) (A B : Int) (G : Nat) (w : World) (hG : GcdR w G va vb A B w) (sh : ∃ ao n ca bo m cb, va = .slice ao n ca ∧ vb = .slice bo m cb) :
    Calls Try.prog 47 #[va, vb] w fun e w' => ∃ v, e = .returned v ∧ Ans w w' (G : Int) v := by
  obtain ⟨ao, n, ca, bo, m, cb, rfl, rfl⟩ := sh
  have ho : decide (ord A B < 0) = false := decide_eq_false (ord_ge hG.2.2.1)
  obtain ⟨ao', n', ca', a, bo', m', cb', b, e1, e2, hRa, hRb, na, nb, eA, eB, hl, hm⟩ := hG.parts
  simp only [Value.slice.injEq] at e1 e2
  obtain ⟨rfl, rfl, rfl⟩ := e1
  obtain ⟨rfl, rfl, rfl⟩ := e2
  have EA : Hid (val a n = A) := eA
  have EB : Hid (val b m = B) := eB
  clear eA eB
  go_enter Try.func47, Try.ntmps47
  go_wp2_with fail
  refine (compare_any _ _ _ _ _ _ _ _ _ hRa hRb na nb).mono ?_
  rintro e w1 ⟨rfl, b1⟩
  rw [EA.out, EB.out]
  have hG1 := hG.grow b1
  clear EA EB hRa hRb na nb hG hl hm b1
  go_wp2
  go_loopg [0, 1] (B.toNat) (fun g s0 s1 wr => ∃ A' B' : Int, GcdR w G s0 s1 A' B' wr ∧ g = B'.toNat)
  case atStart => exact ⟨A, B, hG1, rfl⟩
  case round =>
    clear hG1 ho
    obtain ⟨A', B', hR, hgk⟩ := hrel
    have HGK : Hid (gk = B'.toNat) := hgk
    clear hgk
    obtain ⟨ao', n', ca', a', bo', m', cb', b', rfl, rfl, hRa, hRb, na, nb, rfl, rfl, hl, hm⟩ := hR.parts
    by_cases h3 : 2 < m'
    · have HLE : Hid (val b' m' ≤ val a' n') := hR.2.2.1
      have hBp : 0 < val b' m' := val_pos nb (by omega)
      have hA0 : 0 ≤ val a' n' := val_nonneg na.1
      have HAn : Hid (val a' n' < P n') := val_lt na.1
      go_wp2_with fail
      refine (heads_any _ _ _ _ _ _ _ _ _ hRa hRb na nb (by omega) (by omega) (by omega) HLE.out).mono ?_
      rintro e w2 ⟨s, rfl, hlt, b2⟩
      have HLT : Hid (val a' n' < 1152921504606846976 * 2 ^ s) := hlt
      clear hlt
      have hy0 : 0 ≤ val b' m' / 2 ^ s := Int.ediv_nonneg (by omega) (Int.le_of_lt (two_pos s))
      have hyx : val b' m' / 2 ^ s ≤ val a' n' / 2 ^ s := Int.ediv_le_ediv (two_pos s) HLE.out
      have hx60 : val a' n' / 2 ^ s < 1152921504606846976 := (Int.ediv_lt_iff_lt_mul (two_pos s)).2 HLT.out
      go_wp2_with fail
      refine (simulate_any _ _ _ hy0 hyx hx60).mono ?_
      rintro e w3 ⟨v, rfl, ⟨x, y, fA, fB, nA, nB, odd, rfl, hS⟩, b3⟩
      have b23 := bel_trans b2 b3
      have hb4 := bel_trans b23 (bel_alloc w3 (.cells #[.int .i64 fA, .int .i64 fB, .int .i64 nA, .int .i64 nB, .bool odd] 65))
      rcases hS with ⟨rfl, rfl, rfl, rfl, rfl, rfl, rfl⟩ | hS
      · go_wp2_with fail
        refine (divide_any _ _ _ _ _ _ _ _ _ (hRa.keeps hb4) (hRb.keeps hb4) na nb (by omega) (by omega)).mono ?_
        rintro e w5 ⟨v1, v2, rfl, hd⟩
        obtain ⟨hG', hlt'⟩ := (hR.grow hb4).divided hBp hd
        have m0 := Int.emod_nonneg (val a' n') (show val b' m' ≠ 0 by omega)
        have HM : Hid ((val a' n' % val b' m').toNat < (val b' m').toNat) := by show _ < _; omega
        clear hlt' m0
        go_wp2
        go_roundg ((val a' n' % val b' m').toNat)
        case measure => rw [HGK.out]; exact HM.out
        case rel => exact ⟨_, _, hG', rfl⟩
      · have hfB : 1 ≤ fB := hS.2.2.2.2.1
        obtain ⟨y1, y2, y3, y4, y5, y6, y7, y8, y9⟩ := hS.whole (A := val a' n') (B := val b' m') (two_pos s) rfl rfl hA0 HLT.out
        have st := hS.1
        have f0 := st.fA0
        have n0 := st.nA0
        have n1 := st.nB1
        have hfz : (fB == 0) = false := by simp; omega
        have HX1 : Hid (sgn odd * (fA * val a' n' - fB * val b' m') < P n') := by show _ < _; have := HAn.out; omega
        have HY1 : Hid (sgn odd * (nB * val b' m' - nA * val a' n') < P n') := by show _ < _; have := HAn.out; omega
        have HG5 : Hid (Int.gcd (sgn odd * (fA * val a' n' - fB * val b' m')) (sgn odd * (nB * val b' m' - nA * val a' n')) = Int.gcd (val a' n') (val b' m')) := y5
        have HM : Hid ((sgn odd * (nB * val b' m' - nA * val a' n')).toNat < (val b' m').toNat) := by show _ < _; omega
        have HY : Hid (0 ≤ sgn odd * (nB * val b' m' - nA * val a' n') ∧ sgn odd * (nB * val b' m' - nA * val a' n') < sgn odd * (fA * val a' n' - fB * val b' m') ∧ sgn odd * (fA * val a' n' - fB * val b' m') ≤ val a' n') := ⟨by omega, y2, y3⟩
        clear y1 y2 y3 y4 y5 hS st
        go_wp2_with fail
        refine (apply_any _ _ _ _ _ _ a' b' fA fB nA nB odd _ (hRa.keeps hb4) (hRb.keeps hb4) na.1 nb.1 (by omega) hm ⟨f0, y6⟩ ⟨by omega, y7⟩ ⟨n0, y8⟩ ⟨by omega, y9⟩ (by have := HY.out; omega) HX1.out HY.out.1 HY1.out).mono ?_
        rintro e w5 ⟨v1, v2, rfl, hd⟩
        have hG' := (hR.grow hb4).stepped hd HY.out.2.1 HY.out.2.2 HG5.out
        go_wp2
        go_roundg ((sgn odd * (nB * val b' m' - nA * val a' n')).toNat)
        case measure => rw [HGK.out]; exact HM.out
        case rel => exact ⟨_, _, hG', rfl⟩
    · obtain ⟨_, _, HLE, _, HG, hbw⟩ := hR
      have HGG : Hid (Int.gcd (val a' n') (val b' m') = G) := HG
      clear HG
      by_cases h0 : m' = 0
      · subst h0
        have HV : Hid (val a' n' = (G : Int)) := by
          show _ = _
          rw [← HGG.out, show val b' 0 = 0 from rfl, Int.gcd_zero_right]
          have := val_nonneg na.1
          omega
        go_wp2_with fail
        refine (clone_any _ _ _ _ _ hRa (by omega)).mono ?_
        rintro e w2 ⟨v, rfl, hO, b2⟩
        go_wp2
        go_ret
        exact ⟨_, rfl, n', a', hO.lower hbw.size, na, HV.out, bel_trans hbw b2⟩
      · have e0 : ((m' : Int) == 0) = false := by simp; omega
        have hBp : 0 < val b' m' := val_pos nb (by omega)
        have HB2 : Hid (val b' m' < P 2) := by
          have h1 := val_lt nb.1
          have h2 := P_le (show m' ≤ 2 by omega)
          exact Int.lt_of_lt_of_le h1 h2
        have HB60 : Hid (val b' m' < 1152921504606846976) := HB2
        go_wp2_with fail
        refine (divide_any _ _ _ _ _ _ _ _ _ hRa hRb na nb (by omega) (by omega)).mono ?_
        rintro e w2 ⟨v1, v2, rfl, hd1, hd2, _⟩
        have b2 := hd1.below
        have m1 := Int.emod_lt_of_pos (val a' n') hBp
        have m0 := Int.emod_nonneg (val a' n') (show val b' m' ≠ 0 by omega)
        have HR2 : Hid (val a' n' % val b' m' < P 2) := Int.lt_trans m1 HB2.out
        have nbb : Num w2 (.slice bo' m' cb') (val b' m') := ⟨_, _, _, _, rfl, hRb.keeps b2, nb, rfl⟩
        go_wp2_with fail
        refine (small_num nbb HB2.out).mono ?_
        rintro e w3 ⟨rfl, rfl⟩
        go_wp2_with fail
        refine (small_num hd2.num HR2.out).mono ?_
        rintro e w4 ⟨rfl, rfl⟩
        have hbw2 := bel_trans hbw b2
        have HG0 : Hid (Int.gcd (val b' m') (val a' n' % val b' m') = G) := by show _ = _; rw [gcd_mod]; exact HGG.out
        clear hd1 hd2 nbb
        go_wp2
        go_loopw [10, 11] (fun s0 s1 wr => ∃ x y : Int, s0 = .int .i64 x ∧ s1 = .int .i64 y ∧ 0 ≤ x ∧ 0 ≤ y ∧ x < 1152921504606846976 ∧ y < 1152921504606846976 ∧ Hid (Int.gcd x y = G) ∧ Below w.heap.size w wr) (fun _ s1 _ => (intOf s1).toNat)
        case atStart => exact ⟨_, _, rfl, rfl, by omega, m0, HB60.out, Int.lt_trans m1 HB60.out, HG0, hbw2⟩
        case round =>
          obtain ⟨x, y, rfl, rfl, hx, hy, hx1, hy1, HXY, hbx⟩ := hrel
          by_cases hy0 : y = 0
          · subst hy0
            have HX : Hid (x = (G : Int)) := by show _ = _; rw [← HXY.out, Int.gcd_zero_right]; omega
            go_wp2_with fail
            refine (digits_nat x _ hx (by omega)).mono ?_
            rintro e w5 ⟨v, rfl, hv⟩
            go_wp2
            go_ret
            exact ⟨_, rfl, by rw [← HX.out]; exact hv.from hbx⟩
          · have hyz : (y == 0) = false := by simp; omega
            have r1 := Int.emod_lt_of_pos x (show 0 < y by omega)
            have r0 := Int.emod_nonneg x (show y ≠ 0 by omega)
            go_wp2
            go_quiet (fail)
            go_wp2
            go_roundw
            case rel => exact ⟨y, x % y, rfl, rfl, hy, r0, hy1, by omega, by show _ = _; rw [gcd_mod]; exact HXY.out, bDrewN hbx _⟩
            case measure => simp [intOf]; omega
set_option maxRecDepth 100000 in
set_option maxHeartbeats 2000000 in
/-- The same, the two exchanged first. -/
theorem divisor_lt (va vb : Value) (A B : Int) (G : Nat) (w : World) (hG : GcdR w G va vb A B w) (hlt : B < A) (sh : ∃ ao n ca bo m cb, va = .slice ao n ca ∧ vb = .slice bo m cb) :
    Calls Try.prog 47 #[vb, va] w fun e w' => ∃ v, e = .returned v ∧ Ans w w' (G : Int) v := by
  obtain ⟨ao, n, ca, bo, m, cb, rfl, rfl⟩ := sh
  have ho : decide (ord B A < 0) = true := decide_eq_true (by rw [ord_lt hlt]; decide)
  obtain ⟨ao', n', ca', a, bo', m', cb', b, e1, e2, hRa, hRb, na, nb, eA, eB, hl, hm⟩ := hG.parts
  simp only [Value.slice.injEq] at e1 e2
  obtain ⟨rfl, rfl, rfl⟩ := e1
  obtain ⟨rfl, rfl, rfl⟩ := e2
  have EA : Hid (val a n = A) := eA
  have EB : Hid (val b m = B) := eB
  clear eA eB hlt
  go_enter Try.func47, Try.ntmps47
  go_wp2_with fail
  refine (compare_any _ _ _ _ _ _ _ _ _ hRb hRa nb na).mono ?_
  rintro e w1 ⟨rfl, b1⟩
  rw [EA.out, EB.out]
  have hG1 := hG.grow b1
  clear EA EB hRa hRb na nb hG hl hm b1
  go_wp2
  go_loopg [0, 1] (B.toNat) (fun g s0 s1 wr => ∃ A' B' : Int, GcdR w G s0 s1 A' B' wr ∧ g = B'.toNat)
  case atStart => exact ⟨A, B, hG1, rfl⟩
  case round =>
    clear hG1 ho
    obtain ⟨A', B', hR, hgk⟩ := hrel
    have HGK : Hid (gk = B'.toNat) := hgk
    clear hgk
    obtain ⟨ao', n', ca', a', bo', m', cb', b', rfl, rfl, hRa, hRb, na, nb, rfl, rfl, hl, hm⟩ := hR.parts
    by_cases h3 : 2 < m'
    · have HLE : Hid (val b' m' ≤ val a' n') := hR.2.2.1
      have hBp : 0 < val b' m' := val_pos nb (by omega)
      have hA0 : 0 ≤ val a' n' := val_nonneg na.1
      have HAn : Hid (val a' n' < P n') := val_lt na.1
      go_wp2_with fail
      refine (heads_any _ _ _ _ _ _ _ _ _ hRa hRb na nb (by omega) (by omega) (by omega) HLE.out).mono ?_
      rintro e w2 ⟨s, rfl, hlt, b2⟩
      have HLT : Hid (val a' n' < 1152921504606846976 * 2 ^ s) := hlt
      clear hlt
      have hy0 : 0 ≤ val b' m' / 2 ^ s := Int.ediv_nonneg (by omega) (Int.le_of_lt (two_pos s))
      have hyx : val b' m' / 2 ^ s ≤ val a' n' / 2 ^ s := Int.ediv_le_ediv (two_pos s) HLE.out
      have hx60 : val a' n' / 2 ^ s < 1152921504606846976 := (Int.ediv_lt_iff_lt_mul (two_pos s)).2 HLT.out
      go_wp2_with fail
      refine (simulate_any _ _ _ hy0 hyx hx60).mono ?_
      rintro e w3 ⟨v, rfl, ⟨x, y, fA, fB, nA, nB, odd, rfl, hS⟩, b3⟩
      have b23 := bel_trans b2 b3
      have hb4 := bel_trans b23 (bel_alloc w3 (.cells #[.int .i64 fA, .int .i64 fB, .int .i64 nA, .int .i64 nB, .bool odd] 65))
      rcases hS with ⟨rfl, rfl, rfl, rfl, rfl, rfl, rfl⟩ | hS
      · go_wp2_with fail
        refine (divide_any _ _ _ _ _ _ _ _ _ (hRa.keeps hb4) (hRb.keeps hb4) na nb (by omega) (by omega)).mono ?_
        rintro e w5 ⟨v1, v2, rfl, hd⟩
        obtain ⟨hG', hlt'⟩ := (hR.grow hb4).divided hBp hd
        have m0 := Int.emod_nonneg (val a' n') (show val b' m' ≠ 0 by omega)
        have HM : Hid ((val a' n' % val b' m').toNat < (val b' m').toNat) := by show _ < _; omega
        clear hlt' m0
        go_wp2
        go_roundg ((val a' n' % val b' m').toNat)
        case measure => rw [HGK.out]; exact HM.out
        case rel => exact ⟨_, _, hG', rfl⟩
      · have hfB : 1 ≤ fB := hS.2.2.2.2.1
        obtain ⟨y1, y2, y3, y4, y5, y6, y7, y8, y9⟩ := hS.whole (A := val a' n') (B := val b' m') (two_pos s) rfl rfl hA0 HLT.out
        have st := hS.1
        have f0 := st.fA0
        have n0 := st.nA0
        have n1 := st.nB1
        have hfz : (fB == 0) = false := by simp; omega
        have HX1 : Hid (sgn odd * (fA * val a' n' - fB * val b' m') < P n') := by show _ < _; have := HAn.out; omega
        have HY1 : Hid (sgn odd * (nB * val b' m' - nA * val a' n') < P n') := by show _ < _; have := HAn.out; omega
        have HG5 : Hid (Int.gcd (sgn odd * (fA * val a' n' - fB * val b' m')) (sgn odd * (nB * val b' m' - nA * val a' n')) = Int.gcd (val a' n') (val b' m')) := y5
        have HM : Hid ((sgn odd * (nB * val b' m' - nA * val a' n')).toNat < (val b' m').toNat) := by show _ < _; omega
        have HY : Hid (0 ≤ sgn odd * (nB * val b' m' - nA * val a' n') ∧ sgn odd * (nB * val b' m' - nA * val a' n') < sgn odd * (fA * val a' n' - fB * val b' m') ∧ sgn odd * (fA * val a' n' - fB * val b' m') ≤ val a' n') := ⟨by omega, y2, y3⟩
        clear y1 y2 y3 y4 y5 hS st
        go_wp2_with fail
        refine (apply_any _ _ _ _ _ _ a' b' fA fB nA nB odd _ (hRa.keeps hb4) (hRb.keeps hb4) na.1 nb.1 (by omega) hm ⟨f0, y6⟩ ⟨by omega, y7⟩ ⟨n0, y8⟩ ⟨by omega, y9⟩ (by have := HY.out; omega) HX1.out HY.out.1 HY1.out).mono ?_
        rintro e w5 ⟨v1, v2, rfl, hd⟩
        have hG' := (hR.grow hb4).stepped hd HY.out.2.1 HY.out.2.2 HG5.out
        go_wp2
        go_roundg ((sgn odd * (nB * val b' m' - nA * val a' n')).toNat)
        case measure => rw [HGK.out]; exact HM.out
        case rel => exact ⟨_, _, hG', rfl⟩
    · obtain ⟨_, _, HLE, _, HG, hbw⟩ := hR
      have HGG : Hid (Int.gcd (val a' n') (val b' m') = G) := HG
      clear HG
      by_cases h0 : m' = 0
      · subst h0
        have HV : Hid (val a' n' = (G : Int)) := by
          show _ = _
          rw [← HGG.out, show val b' 0 = 0 from rfl, Int.gcd_zero_right]
          have := val_nonneg na.1
          omega
        go_wp2_with fail
        refine (clone_any _ _ _ _ _ hRa (by omega)).mono ?_
        rintro e w2 ⟨v, rfl, hO, b2⟩
        go_wp2
        go_ret
        exact ⟨_, rfl, n', a', hO.lower hbw.size, na, HV.out, bel_trans hbw b2⟩
      · have e0 : ((m' : Int) == 0) = false := by simp; omega
        have hBp : 0 < val b' m' := val_pos nb (by omega)
        have HB2 : Hid (val b' m' < P 2) := by
          have h1 := val_lt nb.1
          have h2 := P_le (show m' ≤ 2 by omega)
          exact Int.lt_of_lt_of_le h1 h2
        have HB60 : Hid (val b' m' < 1152921504606846976) := HB2
        go_wp2_with fail
        refine (divide_any _ _ _ _ _ _ _ _ _ hRa hRb na nb (by omega) (by omega)).mono ?_
        rintro e w2 ⟨v1, v2, rfl, hd1, hd2, _⟩
        have b2 := hd1.below
        have m1 := Int.emod_lt_of_pos (val a' n') hBp
        have m0 := Int.emod_nonneg (val a' n') (show val b' m' ≠ 0 by omega)
        have HR2 : Hid (val a' n' % val b' m' < P 2) := Int.lt_trans m1 HB2.out
        have nbb : Num w2 (.slice bo' m' cb') (val b' m') := ⟨_, _, _, _, rfl, hRb.keeps b2, nb, rfl⟩
        go_wp2_with fail
        refine (small_num nbb HB2.out).mono ?_
        rintro e w3 ⟨rfl, rfl⟩
        go_wp2_with fail
        refine (small_num hd2.num HR2.out).mono ?_
        rintro e w4 ⟨rfl, rfl⟩
        have hbw2 := bel_trans hbw b2
        have HG0 : Hid (Int.gcd (val b' m') (val a' n' % val b' m') = G) := by show _ = _; rw [gcd_mod]; exact HGG.out
        clear hd1 hd2 nbb
        go_wp2
        go_loopw [10, 11] (fun s0 s1 wr => ∃ x y : Int, s0 = .int .i64 x ∧ s1 = .int .i64 y ∧ 0 ≤ x ∧ 0 ≤ y ∧ x < 1152921504606846976 ∧ y < 1152921504606846976 ∧ Hid (Int.gcd x y = G) ∧ Below w.heap.size w wr) (fun _ s1 _ => (intOf s1).toNat)
        case atStart => exact ⟨_, _, rfl, rfl, by omega, m0, HB60.out, Int.lt_trans m1 HB60.out, HG0, hbw2⟩
        case round =>
          obtain ⟨x, y, rfl, rfl, hx, hy, hx1, hy1, HXY, hbx⟩ := hrel
          by_cases hy0 : y = 0
          · subst hy0
            have HX : Hid (x = (G : Int)) := by show _ = _; rw [← HXY.out, Int.gcd_zero_right]; omega
            go_wp2_with fail
            refine (digits_nat x _ hx (by omega)).mono ?_
            rintro e w5 ⟨v, rfl, hv⟩
            go_wp2
            go_ret
            exact ⟨_, rfl, by rw [← HX.out]; exact hv.from hbx⟩
          · have hyz : (y == 0) = false := by simp; omega
            have r1 := Int.emod_lt_of_pos x (show 0 < y by omega)
            have r0 := Int.emod_nonneg x (show y ≠ 0 by omega)
            go_wp2
            go_quiet (fail)
            go_wp2
            go_roundw
            case rel => exact ⟨y, x % y, rfl, rfl, hy, r0, hy1, by omega, by show _ = _; rw [gcd_mod]; exact HXY.out, bDrewN hbx _⟩
            case measure => simp [intOf]; omega
theorem divisor_num {w : World} {x y : Value} {A B : Int} (hx : Num w x A) (hy : Num w y B) (hA : A < P 2000) (hB : B < P 2000) :
    Calls Try.prog 47 #[x, y] w fun e w' => ∃ v, e = .returned v ∧ Ans w w' (Int.gcd A B : Int) v := by
  obtain ⟨ao, n, ca, e1⟩ := hx.shape
  obtain ⟨bo, m, cb, e2⟩ := hy.shape
  by_cases h : B ≤ A
  · exact divisor_ge x y A B (Int.gcd A B) w ⟨hx, hy, h, hA, rfl, bel_refl _⟩ ⟨ao, n, ca, bo, m, cb, e1, e2⟩
  · exact divisor_lt y x B A (Int.gcd A B) w ⟨hy, hx, by omega, hB, Int.gcd_comm _ _, bel_refl _⟩ (by omega) ⟨bo, m, cb, ao, n, ca, e2, e1⟩
set_option maxRecDepth 100000 in
set_option maxHeartbeats 400000 in
theorem gcd_num {w : World} {x y : Value} {A B : Int} (hx : Num w x A) (hy : Num w y B) (hA : A < P 2000) (hB : B < P 2000) :
    Calls Try.prog 21 #[x, y] w fun e w' => ∃ v, e = .returned (.tuple #[v, .int .i64 0]) ∧ Ans w w' (Int.gcd A B : Int) v := by
  have hD := fun (W : World) (h1 : Num W x A) (h2 : Num W y B) => divisor_num h1 h2 hA hB
  have hV1 := fun (W : World) (h1 : Num W x A) => valid_num h1 hA
  have hV2 := fun (W : World) (h1 : Num W y B) => valid_num h1 hB
  clear hA hB
  obtain ⟨ao, n, ca, rfl⟩ := hx.shape
  obtain ⟨bo, m, cb, rfl⟩ := hy.shape
  go_enter Try.func21, Try.ntmps21
  go_wp2_with fail
  refine (hV1 _ hx).mono ?_
  rintro e w' ⟨rfl, rfl⟩
  go_wp2_with fail
  refine (hV2 _ hy).mono ?_
  rintro e w' ⟨rfl, rfl⟩
  go_wp2_with fail
  refine (hD _ hx hy).mono ?_
  rintro e w1 ⟨v, rfl, hv⟩
  go_wp2
  go_ret2
  exact ⟨_, rfl, hv⟩
end Go.Proofs.Ytmbajngbiefilaa
