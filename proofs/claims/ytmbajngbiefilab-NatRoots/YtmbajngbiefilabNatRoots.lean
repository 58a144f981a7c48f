/-
  Proved: at every list and every int, plumblaw2.NatRoots answers true: a root's square is not greater, the next one's is; roots of even powers are powers of half; no conditions.
-/
import Derived.Test.YtmbajngbiefilabNShut
import Derived.Test.YtmbajngbiefilabNDigits
import Derived.Test.YtmbajngbiefilabNPow2
import Derived.Test.YtmbajngbiefilabNRoot
namespace Go.Proofs.Ytmbajngbiefilab.natRoots
open Go Go.ChangeShapes Go.WideShapes Go.ChangeAt Go.RowKit Go.Proofs.Ytmbajngbiefilab Go.Proofs.Ytmbajngbiefilab.M
set_option linter.unusedSimpArgs false
set_option linter.unusedVariables false

theorem and_7 (x : Int) : bits .and .i64 x 7 = x % 8 := and_i64_mask x 3 (by decide)
theorem bounds {A s : Int} (hA : A < P 200) (hr : IsRoot A s) : A < P 2000 ∧ s < P 2000 ∧ s + 1 < P 2000 ∧ s * s < P 2000 ∧ (s + 1) * (s + 1) < P 2000 ∧ s * s + (A - s * s) < P 2000 := by
  obtain ⟨h0, h1, h2⟩ := hr
  have hs : s ≤ s * s := by
    rcases Int.lt_or_eq_of_le h0 with q | q
    · have : 1 * s ≤ s * s := mul_le_r (by omega) h0
      omega
    · rw [← q]; omega
  have e : (s + 1) * (s + 1) = s * s + 2 * s + 1 := by grind
  have p1 : 4 * P 200 + 4 ≤ P 2000 := by
    have h := P_le (show 201 ≤ 2000 by decide)
    have e : P 201 = P 200 * 1073741824 := P_succ 200
    have := P_pos 200
    generalize P 200 = X at *
    generalize P 201 = Y at *
    generalize P 2000 = Z at *
    omega
  have p0 := P_pos 200
  generalize P 200 = X at *
  generalize P 2000 = Z at *
  refine ⟨?_, ?_, ?_, ?_, ?_, ?_⟩ <;> omega
theorem long_bits {A : Int} {M K : Nat} (h0 : 0 ≤ A) (hM : M = 2 * K) (h : P 2000 ≤ A ^ M) : 60000 < blen A * 2 * K := by
  have h1 := pow_le_base h0 (Int.le_of_lt (blen_lt A)) M
  rw [two_pow_pow] at h1
  rw [P2000_two] at h
  by_cases hlt : 60000 < blen A * 2 * K
  · exact hlt
  · have e : blen A * M = blen A * 2 * K := by rw [hM, Nat.mul_assoc]
    have h2 : (2 : Int) ^ (blen A * M) ≤ 2 ^ 60000 := two_le (by omega)
    have h3 : A ^ M = 2 ^ 60000 := Int.le_antisymm (Int.le_trans h1 h2) h
    by_cases hM0 : M = 0
    · subst hM0
      rw [Int.pow_zero] at h3
      have : (2 : Int) ^ 0 < 2 ^ 60000 := two_lt (by decide)
      rw [← h3] at this
      exact absurd this (by decide)
    · exfalso
      obtain ⟨m, rfl⟩ : ∃ m, M = m + 1 := ⟨M - 1, by omega⟩
      have hA1 : 0 < A := by
        rcases Int.lt_or_eq_of_le h0 with q | q
        · exact q
        · rw [← q, Int.zero_pow (by omega)] at h3
          exact absurd h3 (Int.ne_of_lt (two_pos _))
      have h4 : A ^ (m + 1) < (2 ^ blen A) ^ (m + 1) := by
        rw [Int.pow_succ, Int.pow_succ]
        have a1 := pow_le_base h0 (Int.le_of_lt (blen_lt A)) m
        have a2 : 0 < A ^ m := Int.pow_pos hA1
        have a3 : A ^ m * A < A ^ m * 2 ^ blen A := Int.mul_lt_mul_of_pos_left (blen_lt A) a2
        have a4 : A ^ m * 2 ^ blen A ≤ (2 ^ blen A) ^ m * 2 ^ blen A := Int.mul_le_mul_of_nonneg_right a1 (Int.le_of_lt (two_pos _))
        exact Int.lt_of_lt_of_le a3 a4
      rw [two_pow_pow, h3] at h4
      exact absurd (Int.lt_of_lt_of_le h4 h2) (Int.lt_irrefl _)
theorem half {A : Int} {M K : Nat} (h0 : 0 ≤ A) (hM : M = 2 * K) : A ^ M = A ^ K * A ^ K := by rw [hM, Nat.two_mul, Int.pow_add]
theorem half_lt {A : Int} {M K : Nat} (h0 : 0 ≤ A) (hM : M = 2 * K) (h : A ^ M < P 2000) : A ^ K < P 2000 := by
  have hk : 0 ≤ A ^ K := Int.pow_nonneg h0
  rw [half h0 hM] at h
  rcases Int.lt_or_le (A ^ K) (P 2000) with q | q
  · exact q
  · have p1 : 1 ≤ P 2000 := P_pos 2000
    have h1 : A ^ K * 1 ≤ A ^ K * A ^ K := mul_le_l (Int.le_trans p1 q) hk
    rw [Int.mul_one] at h1
    exact Int.lt_of_le_of_lt h1 h
set_option maxRecDepth 100000 in
set_option maxHeartbeats 4000000 in
theorem walk (a0 : Option Addr) (l0 c0 : Nat) (z0 : Nat → Int) (a1 : Int) (w : World) (h0 : Row w a0 l0 c0 z0) (_ : ∀ i, i < l0 → rng (z0 i)) (h1 : rng a1) :
    Calls Try.prog 3 #[.slice a0 l0 c0, .int .i64 a1] w fun e w' => e = .returned (.bool true) ∧ Below w.heap.size w w' := by
  obtain ⟨K, hK⟩ : ∃ K : Nat, a1 % 8 = K := ⟨(a1 % 8).toNat, by omega⟩
  have hK7 : K ≤ 7 := by omega
  have hk7 : bits .and .i64 a1 7 = (K : Int) := (and_7 a1).trans hK
  obtain ⟨M, hM⟩ : ∃ M : Nat, M = 2 * K := ⟨_, rfl⟩
  have HM : Hid (M = 2 * K) := hM
  have hM2 : (2 : Int) * (K : Int) = (M : Int) := by omega
  have hM14 : M ≤ 14 := by omega
  clear hM hK h1
  go_enter Try.func3, Try.ntmps3
  go_wp2_with fail
  refine (digits_any _ _ _ 200 _ _ h0 (by omega)).mono ?_
  rintro e w1 ⟨va, rfl, A, hA, lA⟩
  have b1 := hA.below
  have na := hA.num
  clear hA
  have A0 := na.nonneg
  have HA : Hid (A < P 2000) := Int.lt_of_lt_of_le lA (P_le (by decide))
  have HA2 : Hid (A < P 200) := lA
  clear lA
  go_wp2_with fail
  refine (root_num na HA.out).mono ?_
  rintro e w2 ⟨vs, vr, rfl, s, hroot, hs, hr, _⟩
  have b2 := hs.below
  replace na := na.keeps b2
  have ns := hs.num
  have nr := hr.num
  clear hs hr
  obtain ⟨_, B1, B2, B3, B4, B5⟩ := bounds HA2.out hroot
  have HS : Hid (s < P 2000) := B1
  have HT : Hid (s + 1 < P 2000) := B2
  have HSS : Hid (s * s < P 2000) := B3
  have HTT : Hid ((s + 1) * (s + 1) < P 2000) := B4
  have HN : Hid (s * s + (A - s * s) < P 2000) := B5
  have HNA : Hid (s * s + (A - s * s) = A) := by show _ = _; omega
  have ho : ord A ((s + 1) * (s + 1)) = -1 := ord_lt hroot.2.2
  have hbl : blen A ≤ 6000 := blen_le (by rw [show (2 : Int) ^ 6000 = P 200 from (P_two 200).symm]; exact HA2.out)
  clear B1 B2 B3 B4 B5 hroot
  go_wp2_with fail
  refine (add_ok (ns.alloc _) (num1 w2 1 (by decide) (by decide) rfl) HT.out).mono ?_
  rintro e w3 ⟨vt, rfl, ht⟩
  have hb3 := ht.below
  have b3 := bel_trans (bel_alloc _ _) hb3
  replace na := na.keeps b3
  replace ns := ns.keeps b3
  replace nr := nr.keeps b3
  have nt := ht.num
  clear ht
  go_wp2_with fail
  refine (mul_ok ns ns HS.out HS.out HSS.out).mono ?_
  rintro e w4 ⟨vp, rfl, hp⟩
  have hb4 := hp.below
  have b4 := hb4
  replace na := na.keeps b4
  replace ns := ns.keeps b4
  replace nr := nr.keeps b4
  replace nt := nt.keeps b4
  have np := hp.num
  clear hp
  go_wp2_with fail
  refine (mul_ok nt nt HT.out HT.out HTT.out).mono ?_
  rintro e w5 ⟨vq, rfl, hq⟩
  have hb5 := hq.below
  have b5 := hb5
  replace na := na.keeps b5
  replace ns := ns.keeps b5
  replace nr := nr.keeps b5
  replace nt := nt.keeps b5
  replace np := np.keeps b5
  have nq := hq.num
  clear hq
  go_wp2_with fail
  refine (add_ok np nr HN.out).mono ?_
  rintro e w6 ⟨vn, rfl, hn⟩
  have hb6 := hn.below
  have b6 := hb6
  replace na := na.keeps b6
  replace ns := ns.keeps b6
  replace nr := nr.keeps b6
  replace nt := nt.keeps b6
  replace np := np.keeps b6
  replace nq := nq.keeps b6
  have nn := hn.num
  clear hn
  go_wp2_with fail
  refine (cmp_num na nq HA.out HTT.out).mono ?_
  rintro e w7 ⟨rfl, hb7⟩
  have b7 := hb7
  replace na := na.keeps b7
  replace ns := ns.keeps b7
  replace nr := nr.keeps b7
  replace nt := nt.keeps b7
  replace np := np.keeps b7
  replace nq := nq.keeps b7
  replace nn := nn.keeps b7
  go_wp2_with fail
  refine (pow_num na HA.out M (by omega)).mono ?_
  rintro e w8 ⟨vx, er, rfl, hF⟩
  have hb8 := hF.1
  have b8 := hb8
  replace na := na.keeps b8
  replace ns := ns.keeps b8
  replace nr := nr.keeps b8
  replace nt := nt.keeps b8
  replace np := np.keeps b8
  replace nq := nq.keeps b8
  replace nn := nn.keeps b8
  go_wp2_with fail
  refine (alive_any _).mono ?_
  rintro e w9 ⟨rfl, hb9⟩
  have b9 := hb9
  replace na := na.keeps b9
  replace ns := ns.keeps b9
  replace nr := nr.keeps b9
  replace nt := nt.keeps b9
  replace np := np.keeps b9
  replace nq := nq.keeps b9
  replace nn := nn.keeps b9
  go_wp2_with fail
  refine (same_num (nn.cast HNA.out) na).mono ?_
  rintro e w10 ⟨rfl, hb10⟩
  have b10 := hb10
  replace na := na.keeps b10
  replace ns := ns.keeps b10
  replace nr := nr.keeps b10
  replace nt := nt.keeps b10
  replace np := np.keeps b10
  replace nq := nq.keeps b10
  replace nn := nn.keeps b10
  rcases hF with ⟨_, ⟨HXP, rfl, hx⟩ | ⟨hlong, rfl, rfl⟩⟩
  · replace HXP : Hid (A ^ M < P 2000) := HXP
    have nx := (hx.num.keeps b9).keeps b10
    have HKP : Hid (A ^ K < P 2000) := half_lt A0 HM.out HXP.out
    have HK0 : Hid (0 ≤ A ^ K) := Int.pow_nonneg A0
    have HR1 : Hid (A ^ K * A ^ K ≤ A ^ M) := Int.le_of_eq (half A0 HM.out).symm
    have HR2 : Hid (A ^ M < (A ^ K + 1) * (A ^ K + 1)) := by
      show _ < _
      rw [half A0 HM.out, show (A ^ K + 1) * (A ^ K + 1) = A ^ K * A ^ K + 2 * A ^ K + 1 by grind]
      have := HK0.out
      omega
    have HR3 : Hid (A ^ M - A ^ K * A ^ K = 0) := by show _ = _; rw [half A0 HM.out]; omega
    clear hx
    go_wp2_with fail
    refine (pow_num na HA.out K (by omega)).mono ?_
    rintro e w11 ⟨vy, er2, rfl, hF2⟩
    have hb11 := hF2.1
    obtain ⟨rfl, hy⟩ := hF2.ans HKP.out
    have b11 := hb11
    replace na := na.keeps b11
    replace ns := ns.keeps b11
    replace nr := nr.keeps b11
    replace nt := nt.keeps b11
    replace np := np.keeps b11
    replace nq := nq.keeps b11
    replace nn := nn.keeps b11
    replace nx := nx.keeps b11
    have ny := hy.num
    clear hy hF2
    go_wp2_with fail
    refine (root_num nx HXP.out).mono ?_
    rintro e w12 ⟨vz, vr, rfl, z, hz, hz1, hz2, _⟩
    have hb12 := hz1.below
    have b12 := hb12
    replace na := na.keeps b12
    replace ns := ns.keeps b12
    replace nr := nr.keeps b12
    replace nt := nt.keeps b12
    replace np := np.keeps b12
    replace nq := nq.keeps b12
    replace nn := nn.keeps b12
    replace nx := nx.keeps b12
    replace ny := ny.keeps b12
    obtain rfl : z = A ^ K := root_unique hz.1 HK0.out hz.2.1 hz.2.2 HR1.out HR2.out
    have nz := hz1.num
    have nr2 := hz2.num.cast HR3.out
    clear hz hz1 hz2
    obtain ⟨ro, rn, rc, rfl⟩ := nr2.shape
    obtain rfl : rn = 0 := nr2.zero.1 rfl
    go_wp2_with fail
    refine (same_num nz ny).mono ?_
    rintro e w13 ⟨rfl, hb13⟩
    have b13 := hb13
    replace na := na.keeps b13
    replace ns := ns.keeps b13
    replace nr := nr.keeps b13
    replace nt := nt.keeps b13
    replace np := np.keeps b13
    replace nq := nq.keeps b13
    replace nn := nn.keeps b13
    replace nx := nx.keeps b13
    replace ny := ny.keeps b13
    replace nz := nz.keeps b13
    go_wp2
    go_ret
    exact ⟨rfl, bel_trans (bel_trans (bel_trans (bel_trans (bel_trans (bel_trans (bel_trans (bel_trans (bel_trans (bel_trans (bel_trans (bel_trans (bel_trans (bel_refl w) b1) b2) b3) b4) b5) b6) b7) b8) b9) b10) b11) b12) b13⟩
  · have hbits := long_bits A0 HM.out hlong
    have hb2 : blen A * 2 * K ≤ 84000 := by
      have := Nat.mul_le_mul (Nat.mul_le_mul_right 2 hbl) hK7
      omega
    have hi1 : ((blen A : Nat) : Int) * 2 * (K : Int) = ((blen A * 2 * K : Nat) : Int) := by rw [Int.natCast_mul, Int.natCast_mul]; rfl
    have hi2 : (60000 : Int) < ((blen A : Nat) : Int) * 2 * (K : Int) := by omega
    have hi3 : ((blen A : Nat) : Int) * 2 * (K : Int) ≤ 84000 := by omega
    clear hbits hb2 hi1 hlong
    go_wp2_with fail
    refine (bits_num na HA.out).mono ?_
    rintro e w0 ⟨rfl, rfl⟩
    go_wp2
    go_ret
    exact ⟨rfl, bel_trans (bel_trans (bel_trans (bel_trans (bel_trans (bel_trans (bel_trans (bel_trans (bel_trans (bel_trans (bel_refl w) b1) b2) b3) b4) b5) b6) b7) b8) b9) b10⟩
theorem own : ownKnob Try.prog.godebug = none := by kernel_rfl
theorem laidOut : laidOutB Try.prog = true := by kernel_rfl
set_option maxRecDepth 100000 in
theorem lifted (os : Os) (started : os.Started) (H : Type) (enc : TypeId × Value → H) :
    ReturnsInHanded {} Try.checked os 3 .any (Rows.natRootsSpec.pre6 enc Try.prog Try.f3 Rows.natRootsRow.domain false) (Rows.natRootsSpec.post enc Try.prog Try.f3 false true false false) := by
  refine returnsInHanded_of_change (C := Try.checked) own started (by kernel_rfl) Try.func3
    (ChangeSpec.witness6 (enc := enc) (C := Try.checked) false ⟨#[], #[.slice none 0 0, .int .i64 0], []⟩ 8 (by kernel_rfl) (by kernel_rfl) (by kernel_rfl) (by kernel_rfl)) ?_
  intro W base args ds gs before hval0 hW hcnd _
  have hval : ∀ (j : Nat) t v, Try.f3.params[j]? = some t → args[j]? = some v → Value.okWide Try.prog W .any base t v := hval0
  have hW' := hW
  obtain ⟨p, q, hA0, hV, rfl, hfz, hnd⟩ := hW
  have hA : DataW.TrodAll enc Try.prog W 0 (fun _ => true) true Try.f3.params.toList args.toList ds p := hA0
  rw [Try.params3] at hA hval
  obtain ⟨v0, vs0, d0, ds0, p0, q0, hargs, rfl, rfl, h0, r0⟩ := trodAll_cons hA
  obtain ⟨v1, vs1, d1, ds1, p1, q1, rfl, rfl, rfl, h1, r1⟩ := trodAll_cons r0
  obtain ⟨rfl, rfl, rfl⟩ := trodAll_nil r1
  obtain rfl : args = #[v0, v1] := by cases args; simp_all
  obtain ⟨rfl, rfl⟩ := trodVars_none hV
  obtain ⟨a0, l0, c0, rfl⟩ := okWide_slice Try.underlying22 (hval 0 22 v0 rfl rfl)
  have k0 := h0
  have lt0 : ∀ x ∈ p0, x.block < W.heap.size := by obtain ⟨m, hm⟩ := k0; exact DataW.trod_lt m _ _ _ hm
  obtain ⟨z0, w0, g0⟩ := row_of h0
  obtain ⟨a1, rfl, rfl, rfl, w1⟩ := open_int Try.underlying3 (hval 1 3 v1 rfl rfl) h1
  clear hA0 hval0
  refine (walk a0 l0 c0 z0 a1 W w0 g0 (rng_of w1)).mono fun e W' ⟨he, bel⟩ => ?_
  subst he
  exact ⟨_, rfl, _, _, _, [], _, [], hW', trodAll_mk1 (shut_bool Try.underlying4 _), (trodAll_cons_mk (Below.trod laidOut (by kernel_rfl) (of_decide_eq_true (by kernel_rfl)) k0 bel lt0) (trodAll_cons_mk (shut_int Try.underlying3 w1) trodAll_mk0)), rfl, bel.frame _, fun h => by cases h⟩
theorem said : Rows.NatRootsSaid :=
  OpenClaim.holds_of_wide 3 Try.f3 rfl rfl rfl rfl rfl rfl rfl ⟨rfl, rfl, rfl, rfl, rfl⟩ rfl rfl rfl rfl rfl (by kernel_rfl) Try.func3 (by kernel_rfl)
    (of_decide_eq_true (by kernel_rfl)) (by unfold Func.isWrapper; first | (rw [if_pos (by decide +kernel)]; kernel_rfl) | (rw [if_neg (by decide +kernel)]; exact ⟨rfl, rfl⟩))
    (fun os started H enc _ => lifted os started H enc)
end Go.Proofs.Ytmbajngbiefilab.natRoots
namespace Go.Proofs.Ytmbajngbiefilab
/-- NatRoots: the statement as it is given. -/
theorem natRoots_holds : Rows.NatRootsSaid := natRoots.said
end Go.Proofs.Ytmbajngbiefilab
