/-
  Proved: at every two lists, plumblaw2.NatDivides answers true: quotient and rest make the dividend, the rest is less; the greatest common divisor divides both, and what is left of both has none; no conditions.
-/
import Derived.Test.YtmbajngbiefilaaNShut
import Derived.Test.YtmbajngbiefilaaNDigits
import Derived.Test.YtmbajngbiefilaaNDiv
import Derived.Test.YtmbajngbiefilaaNG4
namespace Go.Proofs.Ytmbajngbiefilaa.natDivides
open Go Go.ChangeShapes Go.WideShapes Go.ChangeAt Go.RowKit Go.Proofs.Ytmbajngbiefilaa Go.Proofs.Ytmbajngbiefilaa.M
set_option linter.unusedSimpArgs false
set_option linter.unusedVariables false

theorem div_nil {w : World} {x : Value} {ao : Option Addr} {cap : Nat} {A : Int} (hx : Num w x A) (hy : Num w (.slice ao 0 cap) 0) (hA : A < P 2000) :
    Calls Try.prog 20 #[x, .slice ao 0 cap] w fun e w' => e = .returned (.tuple #[.slice none 0 0, .slice none 0 0, .int .i64 12]) ∧ Below w.heap.size w w' := by
  obtain ⟨xo, n, ca, d, rfl, hR, h2, rfl⟩ := hx
  obtain ⟨bo, m, cb, e, e1, kR, k2, k3⟩ := hy
  simp only [Value.slice.injEq] at e1
  obtain ⟨rfl, rfl, rfl⟩ := e1
  refine (div_zero _ _ _ _ _ _ _ _ ⟨hR, kR⟩ (Num.ok h2 hA) (okB_yes (by decide) k2)).mono ?_
  rintro e w' ⟨rfl, rfl⟩
  exact ⟨rfl, bel_refl _⟩
theorem bounds {A B : Int} (h0 : 0 ≤ A) (hA : A < P 300) (hB0 : 0 < B) (hB : B < P 300) :
    A / B < P 2000 ∧ A / B * B < P 2000 ∧ A / B * B + A % B = A ∧ A % B < P 2000 ∧ (0 : Int) < (Int.gcd A B : Int) ∧ (Int.gcd A B : Int) < P 2000 ∧ A % (Int.gcd A B : Int) = 0 ∧ B % (Int.gcd A B : Int) = 0 ∧ A / (Int.gcd A B : Int) < P 2000 ∧ B / (Int.gcd A B : Int) < P 2000 ∧
      ((Int.gcd (A / (Int.gcd A B : Int)) (B / (Int.gcd A B : Int)) : Nat) : Int) = 1 := by
  have p := P_le (show 300 ≤ 2000 by decide)
  have q1 : A / B ≤ A := Int.ediv_le_self _ h0
  have m0 := Int.emod_nonneg A (show B ≠ 0 by omega)
  have m1 := Int.emod_lt_of_pos A hB0
  have e := Int.ediv_mul_add_emod A B
  have g0 : 0 < Int.gcd A B := Int.gcd_pos_of_ne_zero_right A (by omega)
  have dA : (Int.gcd A B : Int) ∣ A := Int.gcd_dvd_left _ _
  have dB : (Int.gcd A B : Int) ∣ B := Int.gcd_dvd_right _ _
  have gle : (Int.gcd A B : Int) ≤ B := Int.le_of_dvd hB0 dB
  have q2 : A / (Int.gcd A B : Int) ≤ A := Int.ediv_le_self _ h0
  have q3 : B / (Int.gcd A B : Int) ≤ B := Int.ediv_le_self _ (by omega)
  have h1 : Int.gcd (A / (Int.gcd A B : Int)) (B / (Int.gcd A B : Int)) = 1 := Int.gcd_ediv_gcd_ediv_gcd g0
  have eA := Int.emod_eq_zero_of_dvd dA
  have eB := Int.emod_eq_zero_of_dvd dB
  generalize P 300 = X at *
  generalize P 2000 = Y at *
  refine ⟨by omega, by omega, e, by omega, by omega, by omega, eA, eB, by omega, by omega, by rw [h1]; rfl⟩
set_option maxRecDepth 100000 in
set_option maxHeartbeats 4000000 in
theorem walk (a0 : Option Addr) (l0 c0 : Nat) (z0 : Nat → Int) (a1 : Option Addr) (l1 c1 : Nat) (z1 : Nat → Int) (w : World)
    (h0 : Row w a0 l0 c0 z0) (_ : ∀ i, i < l0 → rng (z0 i)) (h1 : Row w a1 l1 c1 z1) (_ : ∀ i, i < l1 → rng (z1 i)) :
    Calls Try.prog 6 #[.slice a0 l0 c0, .slice a1 l1 c1] w fun e w' => e = .returned (.bool true) ∧ Below w.heap.size w w' := by
  go_enter Try.func6, Try.ntmps6
  go_wp2_with fail
  refine (digits_any _ _ _ 300 _ _ h0 (by omega)).mono ?_
  rintro e w1 ⟨va, rfl, A, hA, lA⟩
  have b1 := hA.below
  have na := hA.num
  clear hA
  go_wp2_with fail
  refine (digits_any _ _ _ 300 _ _ (h1.keeps b1) (by omega)).mono ?_
  rintro e w2 ⟨vb, rfl, B, hB, lB⟩
  have b2 := hB.below
  replace na := na.keeps b2
  have nb := hB.num
  clear hB
  have A0 := na.nonneg
  have B0 := nb.nonneg
  have HA : Hid (A < P 2000) := Int.lt_of_lt_of_le lA (P_le (by decide))
  have HB : Hid (B < P 2000) := Int.lt_of_lt_of_le lB (P_le (by decide))
  obtain ⟨bo, bn, bc, rfl⟩ := nb.shape
  have hz := nb.zero
  by_cases hn : bn = 0
  · subst hn
    obtain rfl : B = 0 := hz.2 rfl
    have HG0 : Hid ((Int.gcd A 0 : Int) = A) := by show _ = _; rw [Int.gcd_zero_right]; omega
    clear hz lA lB
    go_wp2_with fail
    refine (div_nil na nb HA.out).mono ?_
    rintro e w3 ⟨rfl, hb3⟩
    have b3 := hb3
    replace na := na.keeps b3
    replace nb := nb.keeps b3
    go_wp2_with fail
    refine (gcd_num na nb HA.out HB.out).mono ?_
    rintro e w4 ⟨vg, rfl, hg⟩
    have hb4 := hg.below
    have b4 := hb4
    replace na := na.keeps b4
    replace nb := nb.keeps b4
    have ng := hg.num.cast HG0.out
    clear hg
    go_wp2_with fail
    refine (alive_any _).mono ?_
    rintro e w5 ⟨rfl, hb5⟩
    have b5 := hb5
    replace na := na.keeps b5
    replace nb := nb.keeps b5
    replace ng := ng.keeps b5
    go_wp2_with fail
    refine (same_num ng na).mono ?_
    rintro e w6 ⟨rfl, hb6⟩
    have b6 := hb6
    replace na := na.keeps b6
    replace nb := nb.keeps b6
    replace ng := ng.keeps b6
    go_wp2
    go_ret
    exact ⟨rfl, bel_trans (bel_trans (bel_trans (bel_trans (bel_trans (bel_trans (bel_refl w) b1) b2) b3) b4) b5) b6⟩
  · have e0 : ((bn : Int) == 0) = false := by simp; omega
    have hBp : 0 < B := by
      rcases Int.lt_or_eq_of_le B0 with q | q
      · exact q
      · exact absurd (hz.1 q.symm) hn
    obtain ⟨B1, B2, B3, B4, hGp, B6, B7, B8, B9, B10, B11⟩ := bounds A0 lA hBp lB
    have HQ : Hid (A / B < P 2000) := B1
    have HQB : Hid (A / B * B < P 2000) := B2
    have HSA : Hid (A / B * B + A % B = A) := B3
    have HS : Hid (A / B * B + A % B < P 2000) := by show _ < _; rw [B3]; exact HA.out
    have HR : Hid (A % B < P 2000) := B4
    have HG : Hid ((Int.gcd A B : Int) < P 2000) := B6
    have HU : Hid (A % (Int.gcd A B : Int) = 0) := B7
    have HV : Hid (B % (Int.gcd A B : Int) = 0) := B8
    have HX : Hid (A / (Int.gcd A B : Int) < P 2000) := B9
    have HY : Hid (B / (Int.gcd A B : Int) < P 2000) := B10
    have HH : Hid (((Int.gcd (A / (Int.gcd A B : Int)) (B / (Int.gcd A B : Int)) : Nat) : Int) = 1) := B11
    have ho : decide (0 ≤ ord (A % B) B) = false := decide_eq_false (by rw [ord_lt (Int.emod_lt_of_pos A hBp)]; omega)
    clear hz lA lB B1 B2 B3 B4 B6 B7 B8 B9 B10 B11
    go_wp2_with fail
    refine (div_num na nb HA.out HB.out hBp).mono ?_
    rintro e w3 ⟨vq, vr, rfl, hq, hr, _⟩
    have hb3 := hq.below
    have b3 := hb3
    replace na := na.keeps b3
    replace nb := nb.keeps b3
    have nq := hq.num
    clear hq
    have nr := hr.num
    clear hr
    go_wp2_with fail
    refine (mul_ok nq nb HQ.out HB.out HQB.out).mono ?_
    rintro e w4 ⟨vp, rfl, hp⟩
    have hb4 := hp.below
    have b4 := hb4
    replace na := na.keeps b4
    replace nb := nb.keeps b4
    replace nq := nq.keeps b4
    replace nr := nr.keeps b4
    have np := hp.num
    clear hp
    go_wp2_with fail
    refine (add_ok np nr HS.out).mono ?_
    rintro e w5 ⟨vs, rfl, hs⟩
    have hb5 := hs.below
    have b5 := hb5
    replace na := na.keeps b5
    replace nb := nb.keeps b5
    replace nq := nq.keeps b5
    replace nr := nr.keeps b5
    replace np := np.keeps b5
    have ns := hs.num.cast HSA.out
    clear hs
    go_wp2_with fail
    refine (cmp_num nr nb HR.out HB.out).mono ?_
    rintro e w6 ⟨rfl, hb6⟩
    have b6 := hb6
    replace na := na.keeps b6
    replace nb := nb.keeps b6
    replace nq := nq.keeps b6
    replace nr := nr.keeps b6
    replace np := np.keeps b6
    replace ns := ns.keeps b6
    go_wp2_with fail
    refine (gcd_num na nb HA.out HB.out).mono ?_
    rintro e w7 ⟨vg, rfl, hg⟩
    have hb7 := hg.below
    have b7 := hb7
    replace na := na.keeps b7
    replace nb := nb.keeps b7
    replace nq := nq.keeps b7
    replace nr := nr.keeps b7
    replace np := np.keeps b7
    replace ns := ns.keeps b7
    have ng := hg.num
    clear hg
    go_wp2_with fail
    refine (alive_any _).mono ?_
    rintro e w8 ⟨rfl, hb8⟩
    have b8 := hb8
    replace na := na.keeps b8
    replace nb := nb.keeps b8
    replace nq := nq.keeps b8
    replace nr := nr.keeps b8
    replace np := np.keeps b8
    replace ns := ns.keeps b8
    replace ng := ng.keeps b8
    go_wp2_with fail
    refine (same_num ns na).mono ?_
    rintro e w9 ⟨rfl, hb9⟩
    have b9 := hb9
    replace na := na.keeps b9
    replace nb := nb.keeps b9
    replace nq := nq.keeps b9
    replace nr := nr.keeps b9
    replace np := np.keeps b9
    replace ns := ns.keeps b9
    replace ng := ng.keeps b9
    obtain ⟨go, gn, gc, rfl⟩ := ng.shape
    have hgn : ((gn : Int) == 0) = false := by
      have h1 := ng.zero
      simp
      intro h2
      have h3 := h1.2 h2
      omega
    go_wp2_with fail
    refine (div_num na ng HA.out HG.out hGp).mono ?_
    rintro e w10 ⟨vx, vu, rfl, hx, hu, _⟩
    have hb10 := hx.below
    have b10 := hb10
    replace na := na.keeps b10
    replace nb := nb.keeps b10
    replace nq := nq.keeps b10
    replace nr := nr.keeps b10
    replace np := np.keeps b10
    replace ns := ns.keeps b10
    replace ng := ng.keeps b10
    have nx := hx.num
    clear hx
    have nu := hu.num.cast HU.out
    clear hu
    go_wp2_with fail
    refine (div_num nb ng HB.out HG.out hGp).mono ?_
    rintro e w11 ⟨vy, vv, rfl, hy, hv, _⟩
    have hb11 := hy.below
    have b11 := hb11
    replace na := na.keeps b11
    replace nb := nb.keeps b11
    replace nq := nq.keeps b11
    replace nr := nr.keeps b11
    replace np := np.keeps b11
    replace ns := ns.keeps b11
    replace ng := ng.keeps b11
    replace nx := nx.keeps b11
    replace nu := nu.keeps b11
    have ny := hy.num
    clear hy
    have nv := hv.num.cast HV.out
    clear hv
    go_wp2_with fail
    refine (gcd_num nx ny HX.out HY.out).mono ?_
    rintro e w12 ⟨vh, rfl, hh⟩
    have hb12 := hh.below
    have b12 := hb12
    replace na := na.keeps b12
    replace nb := nb.keeps b12
    replace nq := nq.keeps b12
    replace nr := nr.keeps b12
    replace np := np.keeps b12
    replace ns := ns.keeps b12
    replace ng := ng.keeps b12
    replace nx := nx.keeps b12
    replace nu := nu.keeps b12
    replace ny := ny.keeps b12
    replace nv := nv.keeps b12
    have nh := hh.num.cast HH.out
    clear hh
    obtain ⟨uo, un, uc, rfl⟩ := nu.shape
    obtain rfl : un = 0 := nu.zero.1 rfl
    obtain ⟨vo, vn, vc, rfl⟩ := nv.shape
    obtain rfl : vn = 0 := nv.zero.1 rfl
    go_wp2_with fail
    refine (same_num (nh.alloc _) (num1 w12 1 (by decide) (by decide) rfl)).mono ?_
    rintro e w13 ⟨rfl, hb13⟩
    have b13 := bel_trans (bel_alloc _ _) hb13
    replace na := na.keeps b13
    replace nb := nb.keeps b13
    replace nq := nq.keeps b13
    replace nr := nr.keeps b13
    replace np := np.keeps b13
    replace ns := ns.keeps b13
    replace ng := ng.keeps b13
    replace nx := nx.keeps b13
    replace nu := nu.keeps b13
    replace ny := ny.keeps b13
    replace nv := nv.keeps b13
    replace nh := nh.keeps b13
    go_wp2
    go_ret
    exact ⟨rfl, bel_trans (bel_trans (bel_trans (bel_trans (bel_trans (bel_trans (bel_trans (bel_trans (bel_trans (bel_trans (bel_trans (bel_trans (bel_trans (bel_refl w) b1) b2) b3) b4) b5) b6) b7) b8) b9) b10) b11) b12) b13⟩
theorem own : ownKnob Try.prog.godebug = none := by kernel_rfl
theorem laidOut : laidOutB Try.prog = true := by kernel_rfl
set_option maxRecDepth 100000 in
theorem lifted (os : Os) (started : os.Started) (H : Type) (enc : TypeId × Value → H) :
    ReturnsInHanded {} Try.checked os 6 .any (Rows.natDividesSpec.pre6 enc Try.prog Try.f6 Rows.natDividesRow.domain false) (Rows.natDividesSpec.post enc Try.prog Try.f6 false true false false) := by
  refine returnsInHanded_of_change (C := Try.checked) own started (by kernel_rfl) Try.func6
    (ChangeSpec.witness6 (enc := enc) (C := Try.checked) false ⟨#[], #[.slice none 0 0, .slice none 0 0], []⟩ 8 (by kernel_rfl) (by kernel_rfl) (by kernel_rfl) (by kernel_rfl)) ?_
  intro W base args ds gs before hval0 hW hcnd _
  have hval : ∀ (j : Nat) t v, Try.f6.params[j]? = some t → args[j]? = some v → Value.okWide Try.prog W .any base t v := hval0
  have hW' := hW
  obtain ⟨p, q, hA0, hV, rfl, hfz, hnd⟩ := hW
  have hA : DataW.TrodAll enc Try.prog W 0 (fun _ => true) true Try.f6.params.toList args.toList ds p := hA0
  rw [Try.params6] at hA hval
  obtain ⟨v0, vs0, d0, ds0, p0, q0, hargs, rfl, rfl, h0, r0⟩ := trodAll_cons hA
  obtain ⟨v1, vs1, d1, ds1, p1, q1, rfl, rfl, rfl, h1, r1⟩ := trodAll_cons r0
  obtain ⟨rfl, rfl, rfl⟩ := trodAll_nil r1
  obtain rfl : args = #[v0, v1] := by cases args; simp_all
  obtain ⟨rfl, rfl⟩ := trodVars_none hV
  obtain ⟨a0, l0, c0, rfl⟩ := okWide_slice Try.underlying22 (hval 0 22 v0 rfl rfl)
  have k0 := h0
  have lt0 : ∀ x ∈ p0, x.block < W.heap.size := by obtain ⟨m, hm⟩ := k0; exact DataW.trod_lt m _ _ _ hm
  obtain ⟨z0, w0, g0⟩ := row_of h0
  obtain ⟨a1, l1, c1, rfl⟩ := okWide_slice Try.underlying22 (hval 1 22 v1 rfl rfl)
  have k1 := h1
  have lt1 : ∀ x ∈ p1, x.block < W.heap.size := by obtain ⟨m, hm⟩ := k1; exact DataW.trod_lt m _ _ _ hm
  obtain ⟨z1, w1, g1⟩ := row_of h1
  clear hA0 hval0
  refine (walk a0 l0 c0 z0 a1 l1 c1 z1 W w0 g0 w1 g1).mono fun e W' ⟨he, bel⟩ => ?_
  subst he
  exact ⟨_, rfl, _, _, _, [], _, [], hW', trodAll_mk1 (shut_bool Try.underlying4 _), (trodAll_cons_mk (Below.trod laidOut (by kernel_rfl) (of_decide_eq_true (by kernel_rfl)) k0 bel lt0) (trodAll_cons_mk (Below.trod laidOut (by kernel_rfl) (of_decide_eq_true (by kernel_rfl)) k1 bel lt1) trodAll_mk0)), rfl, bel.frame _, fun h => by cases h⟩
theorem said : Rows.NatDividesSaid :=
  OpenClaim.holds_of_wide 6 Try.f6 rfl rfl rfl rfl rfl rfl rfl ⟨rfl, rfl, rfl, rfl, rfl⟩ rfl rfl rfl rfl rfl (by kernel_rfl) Try.func6 (by kernel_rfl)
    (of_decide_eq_true (by kernel_rfl)) (by unfold Func.isWrapper; first | (rw [if_pos (by decide +kernel)]; kernel_rfl) | (rw [if_neg (by decide +kernel)]; exact ⟨rfl, rfl⟩))
    (fun os started H enc _ => lifted os started H enc)
end Go.Proofs.Ytmbajngbiefilaa.natDivides
namespace Go.Proofs.Ytmbajngbiefilaa
/-- NatDivides: the statement as it is given. -/
theorem natDivides_holds : Rows.NatDividesSaid := natDivides.said
end Go.Proofs.Ytmbajngbiefilaa
