/-
  Proved: at every three lists, plumblaw2.NatRing answers true: sums and products of package nat are a ring's, a difference undoes a sum; no conditions.
-/
import Derived.Test.YtmbajngbiefilaaNShut
import Derived.Test.YtmbajngbiefilaaNDigits
namespace Go.Proofs.Ytmbajngbiefilaa.natRing
open Go Go.ChangeShapes Go.WideShapes Go.ChangeAt Go.RowKit Go.Proofs.Ytmbajngbiefilaa Go.Proofs.Ytmbajngbiefilaa.M
set_option linter.unusedSimpArgs false
set_option linter.unusedVariables false

theorem add_P {A B : Int} {i : Nat} (hA : A < P i) (hB : B < P i) : A + B < P (i + 1) := by
  have := P_pos i
  rw [P_succ]; omega
theorem mul_P {A B : Int} {i j : Nat} (hA0 : 0 ≤ A) (hB0 : 0 ≤ B) (hA : A < P i) (hB : B < P j) : A * B < P (i + j) := by
  rw [P_add]
  have h1 : A * B ≤ A * P j := Int.mul_le_mul_of_nonneg_left (by omega) hA0
  have h2 : (A + 1) * P j ≤ P i * P j := Int.mul_le_mul_of_nonneg_right (by omega) (Int.le_of_lt (P_pos j))
  have := P_pos j
  rw [Int.add_mul] at h2
  omega
set_option maxRecDepth 100000 in
set_option maxHeartbeats 8000000 in
theorem walk (a0 : Option Addr) (l0 c0 : Nat) (z0 : Nat → Int) (a1 : Option Addr) (l1 c1 : Nat) (z1 : Nat → Int) (a2 : Option Addr) (l2 c2 : Nat) (z2 : Nat → Int) (w : World)
    (h0 : Row w a0 l0 c0 z0) (_ : ∀ i, i < l0 → rng (z0 i)) (h1 : Row w a1 l1 c1 z1) (_ : ∀ i, i < l1 → rng (z1 i)) (h2 : Row w a2 l2 c2 z2) (_ : ∀ i, i < l2 → rng (z2 i)) :
    Calls Try.prog 5 #[.slice a0 l0 c0, .slice a1 l1 c1, .slice a2 l2 c2] w fun e w' => e = .returned (.bool true) ∧ Below w.heap.size w w' := by
  go_enter Try.func5, Try.ntmps5
  go_wp2_with fail
  refine (digits_any _ _ _ 300 _ _ h0 (by omega)).mono ?_
  rintro e w1 ⟨va, rfl, A, hA, lA⟩
  have b1 := hA.below
  have na := hA.num
  clear hA
  go_wp2_with fail
  refine (digits_any _ _ _ 300 _ _ (h1.keeps b1) (by omega)).mono ?_
  rintro e w2 ⟨vb, rfl, B, hB, lB⟩
  have b2 := hB.below
  replace na := na.keeps b2
  have nb := hB.num
  clear hB
  go_wp2_with fail
  refine (digits_any _ _ _ 300 _ _ ((h2.keeps b1).keeps b2) (by omega)).mono ?_
  rintro e w3 ⟨vc, rfl, C, hC, lC⟩
  have b3 := hC.below
  replace na := na.keeps b3
  replace nb := nb.keeps b3
  have nc := hC.num
  clear hC
  have A0 := na.nonneg
  have B0 := nb.nonneg
  have C0 := nc.nonneg
  have p1 := P_le (show 300 ≤ 301 by decide)
  have p2 := P_le (show 301 ≤ 302 by decide)
  have p3 := P_le (show 302 ≤ 900 by decide)
  have p4 := P_le (show 600 ≤ 900 by decide)
  have p5 := P_le (show 601 ≤ 900 by decide)
  have p6 := P_le (show 602 ≤ 900 by decide)
  have p7 := P_le (show 900 ≤ 2000 by decide)
  have lS : A + B < P 301 := add_P lA lB
  have lV : B + C < P 301 := add_P lB lC
  have lU : A + B + C < P 302 := add_P lS (by omega)
  have lp := mul_P A0 B0 lA lB
  have lq := mul_P B0 A0 lB lA
  have lx := mul_P A0 C0 lA lC
  have lbc := mul_P B0 C0 lB lC
  have ly := mul_P A0 (show 0 ≤ B + C by omega) lA lV
  have p0 := Int.mul_nonneg A0 B0
  have bc0 := Int.mul_nonneg B0 C0
  have lr := mul_P p0 C0 lp lC
  have lf := mul_P A0 bc0 lA lbc
  have lz : A * B + A * C < P 601 := add_P lp lx
  simp only [Nat.reduceAdd] at lp lq lx lbc ly lr lf
  obtain ⟨ao, nn, cc, rfl⟩ := na.shape
  have hz := na.zero
  have hord : Hid (((ord (A + B) B == 0) == ((nn : Int) == 0)) = true ∧ decide (0 ≤ ord (A + B) B) = true) := by
    by_cases e : A = 0
    · have e2 := hz.1 e
      rw [ord_eq (show A + B = B by omega), e2]; exact ⟨rfl, rfl⟩
    · have e2 : ¬ nn = 0 := fun q => e (hz.2 q)
      rw [ord_gt (show B < A + B by omega)]
      refine ⟨?_, rfl⟩
      simp; omega
  clear hz
  go_wp2_with fail
  refine (add_ok na nb (by omega)).mono ?_
  rintro e w4 ⟨vs, rfl, hs⟩
  have b4 := hs.below
  replace na := na.keeps b4
  replace nb := nb.keeps b4
  replace nc := nc.keeps b4
  have ns := hs.num
  clear hs
  go_wp2_with fail
  refine (add_ok nb na (by omega)).mono ?_
  rintro e w5 ⟨vt, rfl, ht⟩
  have b5 := ht.below
  replace na := na.keeps b5
  replace nb := nb.keeps b5
  replace nc := nc.keeps b5
  replace ns := ns.keeps b5
  have nt := ht.num
  clear ht
  go_wp2_with fail
  refine (add_ok ns nc (by omega)).mono ?_
  rintro e w6 ⟨vu, rfl, hu⟩
  have b6 := hu.below
  replace na := na.keeps b6
  replace nb := nb.keeps b6
  replace nc := nc.keeps b6
  replace ns := ns.keeps b6
  replace nt := nt.keeps b6
  have nu := hu.num
  clear hu
  go_wp2_with fail
  refine (add_ok nb nc (by omega)).mono ?_
  rintro e w7 ⟨vv, rfl, hv⟩
  have b7 := hv.below
  replace na := na.keeps b7
  replace nb := nb.keeps b7
  replace nc := nc.keeps b7
  replace ns := ns.keeps b7
  replace nt := nt.keeps b7
  replace nu := nu.keeps b7
  have nv := hv.num
  clear hv
  go_wp2_with fail
  refine (add_ok na nv (by omega)).mono ?_
  rintro e w8 ⟨vx1, rfl, hx1⟩
  have b8 := hx1.below
  replace na := na.keeps b8
  replace nb := nb.keeps b8
  replace nc := nc.keeps b8
  replace ns := ns.keeps b8
  replace nt := nt.keeps b8
  replace nu := nu.keeps b8
  replace nv := nv.keeps b8
  have nx1 := hx1.num
  clear hx1
  go_wp2_with fail
  refine (sub_ok ns nb (by omega) (by omega) (by omega)).mono ?_
  rintro e w9 ⟨vd, rfl, hd⟩
  have b9 := hd.below
  replace na := na.keeps b9
  replace nb := nb.keeps b9
  replace nc := nc.keeps b9
  replace ns := ns.keeps b9
  replace nt := nt.keeps b9
  replace nu := nu.keeps b9
  replace nv := nv.keeps b9
  replace nx1 := nx1.keeps b9
  have nd := hd.num
  clear hd
  go_wp2_with fail
  refine (alive_any _).mono ?_
  rintro e w10 ⟨rfl, b10⟩
  replace na := na.keeps b10
  replace nb := nb.keeps b10
  replace nc := nc.keeps b10
  replace ns := ns.keeps b10
  replace nt := nt.keeps b10
  replace nu := nu.keeps b10
  replace nv := nv.keeps b10
  replace nx1 := nx1.keeps b10
  replace nd := nd.keeps b10
  go_wp2_with fail
  refine (same_num ns (nt.cast (by omega))).mono ?_
  rintro e w11 ⟨rfl, b11⟩
  replace na := na.keeps b11
  replace nb := nb.keeps b11
  replace nc := nc.keeps b11
  replace ns := ns.keeps b11
  replace nt := nt.keeps b11
  replace nu := nu.keeps b11
  replace nv := nv.keeps b11
  replace nx1 := nx1.keeps b11
  replace nd := nd.keeps b11
  go_wp2_with fail
  refine (same_num nu (nx1.cast (by omega))).mono ?_
  rintro e w12 ⟨rfl, b12⟩
  replace na := na.keeps b12
  replace nb := nb.keeps b12
  replace nc := nc.keeps b12
  replace ns := ns.keeps b12
  replace nt := nt.keeps b12
  replace nu := nu.keeps b12
  replace nv := nv.keeps b12
  replace nx1 := nx1.keeps b12
  replace nd := nd.keeps b12
  go_wp2_with fail
  refine (same_num (nd.cast (by omega)) na).mono ?_
  rintro e w13 ⟨rfl, b13⟩
  replace na := na.keeps b13
  replace nb := nb.keeps b13
  replace nc := nc.keeps b13
  replace ns := ns.keeps b13
  replace nt := nt.keeps b13
  replace nu := nu.keeps b13
  replace nv := nv.keeps b13
  replace nx1 := nx1.keeps b13
  replace nd := nd.keeps b13
  go_wp2_with fail
  refine (mul_ok na nb (by omega) (by omega) (by omega)).mono ?_
  rintro e w14 ⟨vp, rfl, hp⟩
  have b14 := hp.below
  replace na := na.keeps b14
  replace nb := nb.keeps b14
  replace nc := nc.keeps b14
  replace ns := ns.keeps b14
  replace nt := nt.keeps b14
  replace nu := nu.keeps b14
  replace nv := nv.keeps b14
  replace nx1 := nx1.keeps b14
  replace nd := nd.keeps b14
  have np := hp.num
  clear hp
  go_wp2_with fail
  refine (mul_ok nb na (by omega) (by omega) (by omega)).mono ?_
  rintro e w15 ⟨vq, rfl, hq⟩
  have b15 := hq.below
  replace na := na.keeps b15
  replace nb := nb.keeps b15
  replace nc := nc.keeps b15
  replace ns := ns.keeps b15
  replace nt := nt.keeps b15
  replace nu := nu.keeps b15
  replace nv := nv.keeps b15
  replace nx1 := nx1.keeps b15
  replace nd := nd.keeps b15
  replace np := np.keeps b15
  have nq := hq.num
  clear hq
  go_wp2_with fail
  refine (mul_ok na nc (by omega) (by omega) (by omega)).mono ?_
  rintro e w16 ⟨vx, rfl, hx⟩
  have b16 := hx.below
  replace na := na.keeps b16
  replace nb := nb.keeps b16
  replace nc := nc.keeps b16
  replace ns := ns.keeps b16
  replace nt := nt.keeps b16
  replace nu := nu.keeps b16
  replace nv := nv.keeps b16
  replace nx1 := nx1.keeps b16
  replace nd := nd.keeps b16
  replace np := np.keeps b16
  replace nq := nq.keeps b16
  have nx := hx.num
  clear hx
  go_wp2_with fail
  refine (mul_ok na nv (by omega) (by omega) (by omega)).mono ?_
  rintro e w17 ⟨vy, rfl, hy⟩
  have b17 := hy.below
  replace na := na.keeps b17
  replace nb := nb.keeps b17
  replace nc := nc.keeps b17
  replace ns := ns.keeps b17
  replace nt := nt.keeps b17
  replace nu := nu.keeps b17
  replace nv := nv.keeps b17
  replace nx1 := nx1.keeps b17
  replace nd := nd.keeps b17
  replace np := np.keeps b17
  replace nq := nq.keeps b17
  replace nx := nx.keeps b17
  have ny := hy.num
  clear hy
  go_wp2_with fail
  refine (add_ok np nx (by omega)).mono ?_
  rintro e w18 ⟨vz, rfl, hz⟩
  have b18 := hz.below
  replace na := na.keeps b18
  replace nb := nb.keeps b18
  replace nc := nc.keeps b18
  replace ns := ns.keeps b18
  replace nt := nt.keeps b18
  replace nu := nu.keeps b18
  replace nv := nv.keeps b18
  replace nx1 := nx1.keeps b18
  replace nd := nd.keeps b18
  replace np := np.keeps b18
  replace nq := nq.keeps b18
  replace nx := nx.keeps b18
  replace ny := ny.keeps b18
  have nz := hz.num
  clear hz
  go_wp2_with fail
  refine (mul_ok np nc (by omega) (by omega) (by omega)).mono ?_
  rintro e w19 ⟨vr, rfl, hr⟩
  have b19 := hr.below
  replace na := na.keeps b19
  replace nb := nb.keeps b19
  replace nc := nc.keeps b19
  replace ns := ns.keeps b19
  replace nt := nt.keeps b19
  replace nu := nu.keeps b19
  replace nv := nv.keeps b19
  replace nx1 := nx1.keeps b19
  replace nd := nd.keeps b19
  replace np := np.keeps b19
  replace nq := nq.keeps b19
  replace nx := nx.keeps b19
  replace ny := ny.keeps b19
  replace nz := nz.keeps b19
  have nr := hr.num
  clear hr
  go_wp2_with fail
  refine (mul_ok nb nc (by omega) (by omega) (by omega)).mono ?_
  rintro e w20 ⟨vbc, rfl, hbc⟩
  have b20 := hbc.below
  replace na := na.keeps b20
  replace nb := nb.keeps b20
  replace nc := nc.keeps b20
  replace ns := ns.keeps b20
  replace nt := nt.keeps b20
  replace nu := nu.keeps b20
  replace nv := nv.keeps b20
  replace nx1 := nx1.keeps b20
  replace nd := nd.keeps b20
  replace np := np.keeps b20
  replace nq := nq.keeps b20
  replace nx := nx.keeps b20
  replace ny := ny.keeps b20
  replace nz := nz.keeps b20
  replace nr := nr.keeps b20
  have nbc := hbc.num
  clear hbc
  go_wp2_with fail
  refine (mul_ok na nbc (by omega) (by omega) (by omega)).mono ?_
  rintro e w21 ⟨vf, rfl, hf⟩
  have b21 := hf.below
  replace na := na.keeps b21
  replace nb := nb.keeps b21
  replace nc := nc.keeps b21
  replace ns := ns.keeps b21
  replace nt := nt.keeps b21
  replace nu := nu.keeps b21
  replace nv := nv.keeps b21
  replace nx1 := nx1.keeps b21
  replace nd := nd.keeps b21
  replace np := np.keeps b21
  replace nq := nq.keeps b21
  replace nx := nx.keeps b21
  replace ny := ny.keeps b21
  replace nz := nz.keeps b21
  replace nr := nr.keeps b21
  replace nbc := nbc.keeps b21
  have nf := hf.num
  clear hf
  go_wp2_with fail
  refine (cmp_num ns nb (by omega) (by omega)).mono ?_
  rintro e w22 ⟨rfl, b22⟩
  replace na := na.keeps b22
  replace nb := nb.keeps b22
  replace nc := nc.keeps b22
  replace ns := ns.keeps b22
  replace nt := nt.keeps b22
  replace nu := nu.keeps b22
  replace nv := nv.keeps b22
  replace nx1 := nx1.keeps b22
  replace nd := nd.keeps b22
  replace np := np.keeps b22
  replace nq := nq.keeps b22
  replace nx := nx.keeps b22
  replace ny := ny.keeps b22
  replace nz := nz.keeps b22
  replace nr := nr.keeps b22
  replace nbc := nbc.keeps b22
  replace nf := nf.keeps b22
  go_wp2_with fail
  refine (same_num np (nq.cast (Int.mul_comm B A))).mono ?_
  rintro e w23 ⟨rfl, b23⟩
  replace na := na.keeps b23
  replace nb := nb.keeps b23
  replace nc := nc.keeps b23
  replace ns := ns.keeps b23
  replace nt := nt.keeps b23
  replace nu := nu.keeps b23
  replace nv := nv.keeps b23
  replace nx1 := nx1.keeps b23
  replace nd := nd.keeps b23
  replace np := np.keeps b23
  replace nq := nq.keeps b23
  replace nx := nx.keeps b23
  replace ny := ny.keeps b23
  replace nz := nz.keeps b23
  replace nr := nr.keeps b23
  replace nbc := nbc.keeps b23
  replace nf := nf.keeps b23
  go_wp2_with fail
  refine (same_num ny (nz.cast (Int.mul_add A B C).symm)).mono ?_
  rintro e w24 ⟨rfl, b24⟩
  replace na := na.keeps b24
  replace nb := nb.keeps b24
  replace nc := nc.keeps b24
  replace ns := ns.keeps b24
  replace nt := nt.keeps b24
  replace nu := nu.keeps b24
  replace nv := nv.keeps b24
  replace nx1 := nx1.keeps b24
  replace nd := nd.keeps b24
  replace np := np.keeps b24
  replace nq := nq.keeps b24
  replace nx := nx.keeps b24
  replace ny := ny.keeps b24
  replace nz := nz.keeps b24
  replace nr := nr.keeps b24
  replace nbc := nbc.keeps b24
  replace nf := nf.keeps b24
  go_wp2_with fail
  refine (same_num nr (nf.cast (Int.mul_assoc A B C).symm)).mono ?_
  rintro e w25 ⟨rfl, b25⟩
  replace na := na.keeps b25
  replace nb := nb.keeps b25
  replace nc := nc.keeps b25
  replace ns := ns.keeps b25
  replace nt := nt.keeps b25
  replace nu := nu.keeps b25
  replace nv := nv.keeps b25
  replace nx1 := nx1.keeps b25
  replace nd := nd.keeps b25
  replace np := np.keeps b25
  replace nq := nq.keeps b25
  replace nx := nx.keeps b25
  replace ny := ny.keeps b25
  replace nz := nz.keeps b25
  replace nr := nr.keeps b25
  replace nbc := nbc.keeps b25
  replace nf := nf.keeps b25
  obtain ⟨o1, o2⟩ := hord.out
  go_wp2
  go_ret
  exact ⟨rfl, bel_trans (bel_trans (bel_trans (bel_trans (bel_trans (bel_trans (bel_trans (bel_trans (bel_trans (bel_trans (bel_trans (bel_trans (bel_trans (bel_trans (bel_trans (bel_trans (bel_trans (bel_trans (bel_trans (bel_trans (bel_trans (bel_trans (bel_trans (bel_trans (b1) b2) b3) b4) b5) b6) b7) b8) b9) b10) b11) b12) b13) b14) b15) b16) b17) b18) b19) b20) b21) b22) b23) b24) b25⟩
theorem own : ownKnob Try.prog.godebug = none := by kernel_rfl
theorem laidOut : laidOutB Try.prog = true := by kernel_rfl
set_option maxRecDepth 100000 in
theorem lifted (os : Os) (started : os.Started) (H : Type) (enc : TypeId × Value → H) :
    ReturnsInHanded {} Try.checked os 5 .any (Rows.natRingSpec.pre6 enc Try.prog Try.f5 Rows.natRingRow.domain false) (Rows.natRingSpec.post enc Try.prog Try.f5 false true false false) := by
  refine returnsInHanded_of_change (C := Try.checked) own started (by kernel_rfl) Try.func5
    (ChangeSpec.witness6 (enc := enc) (C := Try.checked) false ⟨#[], #[.slice none 0 0, .slice none 0 0, .slice none 0 0], []⟩ 8 (by kernel_rfl) (by kernel_rfl) (by kernel_rfl) (by kernel_rfl)) ?_
  intro W base args ds gs before hval0 hW hcnd _
  have hval : ∀ (j : Nat) t v, Try.f5.params[j]? = some t → args[j]? = some v → Value.okWide Try.prog W .any base t v := hval0
  have hW' := hW
  obtain ⟨p, q, hA0, hV, rfl, hfz, hnd⟩ := hW
  have hA : DataW.TrodAll enc Try.prog W 0 (fun _ => true) true Try.f5.params.toList args.toList ds p := hA0
  rw [Try.params5] at hA hval
  obtain ⟨v0, vs0, d0, ds0, p0, q0, hargs, rfl, rfl, h0, r0⟩ := trodAll_cons hA
  obtain ⟨v1, vs1, d1, ds1, p1, q1, rfl, rfl, rfl, h1, r1⟩ := trodAll_cons r0
  obtain ⟨v2, vs2, d2, ds2, p2, q2, rfl, rfl, rfl, h2, r2⟩ := trodAll_cons r1
  obtain ⟨rfl, rfl, rfl⟩ := trodAll_nil r2
  obtain rfl : args = #[v0, v1, v2] := by cases args; simp_all
  obtain ⟨rfl, rfl⟩ := trodVars_none hV
  obtain ⟨a0, l0, c0, rfl⟩ := okWide_slice Try.underlying22 (hval 0 22 v0 rfl rfl)
  have k0 := h0
  have lt0 : ∀ x ∈ p0, x.block < W.heap.size := by obtain ⟨m, hm⟩ := k0; exact DataW.trod_lt m _ _ _ hm
  obtain ⟨z0, w0, g0⟩ := row_of h0
  obtain ⟨a1, l1, c1, rfl⟩ := okWide_slice Try.underlying22 (hval 1 22 v1 rfl rfl)
  have k1 := h1
  have lt1 : ∀ x ∈ p1, x.block < W.heap.size := by obtain ⟨m, hm⟩ := k1; exact DataW.trod_lt m _ _ _ hm
  obtain ⟨z1, w1, g1⟩ := row_of h1
  obtain ⟨a2, l2, c2, rfl⟩ := okWide_slice Try.underlying22 (hval 2 22 v2 rfl rfl)
  have k2 := h2
  have lt2 : ∀ x ∈ p2, x.block < W.heap.size := by obtain ⟨m, hm⟩ := k2; exact DataW.trod_lt m _ _ _ hm
  obtain ⟨z2, w2, g2⟩ := row_of h2
  clear hA0 hval0
  refine (walk a0 l0 c0 z0 a1 l1 c1 z1 a2 l2 c2 z2 W w0 g0 w1 g1 w2 g2).mono fun e W' ⟨he, bel⟩ => ?_
  subst he
  exact ⟨_, rfl, _, _, _, [], _, [], hW', trodAll_mk1 (shut_bool Try.underlying4 _), (trodAll_cons_mk (Below.trod laidOut (by kernel_rfl) (of_decide_eq_true (by kernel_rfl)) k0 bel lt0) (trodAll_cons_mk (Below.trod laidOut (by kernel_rfl) (of_decide_eq_true (by kernel_rfl)) k1 bel lt1) (trodAll_cons_mk (Below.trod laidOut (by kernel_rfl) (of_decide_eq_true (by kernel_rfl)) k2 bel lt2) trodAll_mk0))), rfl, bel.frame _, fun h => by cases h⟩
theorem said : Rows.NatRingSaid :=
  OpenClaim.holds_of_wide 5 Try.f5 rfl rfl rfl rfl rfl rfl rfl ⟨rfl, rfl, rfl, rfl, rfl⟩ rfl rfl rfl rfl rfl (by kernel_rfl) Try.func5 (by kernel_rfl)
    (of_decide_eq_true (by kernel_rfl)) (by unfold Func.isWrapper; first | (rw [if_pos (by decide +kernel)]; kernel_rfl) | (rw [if_neg (by decide +kernel)]; exact ⟨rfl, rfl⟩))
    (fun os started H enc _ => lifted os started H enc)
end Go.Proofs.Ytmbajngbiefilaa.natRing
namespace Go.Proofs.Ytmbajngbiefilaa
/-- NatRing: the statement as it is given. -/
theorem natRing_holds : Rows.NatRingSaid := natRing.said
end Go.Proofs.Ytmbajngbiefilaa
