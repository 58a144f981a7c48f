/-
  Proved: at every list and every int, plumblaw2.NatShifts answers true: shifts are products and quotients by powers of 2, bits are counted on; where the library's table of trailing zeros lies as the program's text lays it.
-/
import Derived.Test.YtmbajngbiefilabDoorCards
import Derived.Test.YtmbajngbiefilabDoorTie
import Derived.Test.YtmbajngbiefilabDoorNLaid
import Derived.Test.YtmbajngbiefilabDoorNShut
import Derived.Test.YtmbajngbiefilabDoorNDigits
import Derived.Test.YtmbajngbiefilabDoorNPow2
import Derived.Test.YtmbajngbiefilabDoorNDiv
namespace Go.Proofs.YtmbajngbiefilabDoor.natShifts
open Go Go.ChangeShapes Go.WideShapes Go.ChangeAt Go.RowKit Go.Proofs.YtmbajngbiefilabDoor Go.Proofs.YtmbajngbiefilabDoor.M
set_option linter.unusedSimpArgs false
set_option linter.unusedVariables false

theorem and_4095 (x : Int) : bits .and .i64 x 4095 = x % 4096 := and_i64_mask x 12 (by decide)
theorem bounds {A : Int} {K : Nat} (h0 : 0 ≤ A) (hA : A < P 300) (hK : K ≤ 4095) : A < P 2000 ∧ (2 : Int) ^ K < P 2000 ∧ A * 2 ^ K < P 2000 := by
  have h1 : (2 : Int) ^ K < P 137 := by rw [P_two]; exact two_lt (by omega)
  refine ⟨Int.lt_of_lt_of_le hA (P_le (by decide)), Int.lt_of_lt_of_le h1 (P_le (by decide)), ?_⟩
  have h2 : A * 2 ^ K ≤ A * P 137 := mul_le_l (Int.le_of_lt h1) h0
  have h3 : A * P 137 ≤ P 300 * P 137 := mul_le_r (Int.le_of_lt hA) (Int.le_of_lt (P_pos _))
  rw [← P_add] at h3
  have h4 : P 437 < P 2000 := by
    have h5 := P_le (show 438 ≤ 2000 by decide)
    have h6 : P 438 = P 437 * 1073741824 := P_succ 437
    have h7 := P_pos 437
    generalize P 438 = X at *
    generalize P 437 = Y at *
    generalize P 2000 = Z at *
    omega
  exact Int.lt_of_le_of_lt (Int.le_trans h2 h3) h4
theorem blen_shift {A : Int} (h : 0 < A) (k : Nat) : blen (A * 2 ^ k) = blen A + k := by
  obtain ⟨c1, c2⟩ := blen_pos h
  have c3 := blen_lt A
  have pk := two_pos k
  obtain ⟨b, hb⟩ : ∃ b, blen A = b + 1 := ⟨blen A - 1, by omega⟩
  rw [hb] at c2 c3 ⊢
  rw [Nat.add_sub_cancel] at c2
  rw [show b + 1 + k = b + k + 1 by omega]
  apply blen_of
  · rw [Int.pow_add]; exact mul_le_r c2 (by omega)
  · rw [show b + k + 1 = b + 1 + k by omega, Int.pow_add]; exact Int.mul_lt_mul_of_pos_right c3 pk
theorem low_is {V : Int} (h : V ≠ 0) {l : Int} (hl : LowA V l) : ∃ k : Nat, l = k ∧ IsLow V k := by
  rcases hl with ⟨h1, _⟩ | h1
  · exact absurd h1 h
  · exact h1
theorem bit_low {V : Int} {l : Nat} (h : IsLow V l) : bitB V l = true := by
  obtain ⟨m, rfl⟩ := h
  unfold bitB
  rw [Int.mul_ediv_cancel _ (Int.ne_of_gt (two_pos l)), show (2 * m + 1) % 2 = 1 by omega]; rfl
theorem bit_top {V : Int} (h : 0 < V) : bitB V (blen V - 1) = true := by
  obtain ⟨c1, c2⟩ := blen_pos h
  have c3 := blen_lt V
  obtain ⟨b, hb⟩ : ∃ b, blen V = b + 1 := ⟨blen V - 1, by omega⟩
  rw [hb] at c2 c3 ⊢
  rw [Nat.add_sub_cancel] at c2 ⊢
  have pb := two_pos b
  rw [Int.pow_succ] at c3
  have : V / 2 ^ b = 1 := by
    have a1 : 1 ≤ V / 2 ^ b := (Int.le_ediv_iff_mul_le pb).2 (by omega)
    have a2 : V / 2 ^ b < 2 := (Int.ediv_lt_iff_lt_mul pb).2 (by omega)
    omega
  unfold bitB
  rw [this]; rfl
theorem bit_below {A : Int} {k j : Nat} (h : j < k) : bitB (A * 2 ^ k) j = false := by
  obtain ⟨d, rfl⟩ : ∃ d, k = j + 1 + d := ⟨k - j - 1, by omega⟩
  unfold bitB
  have e : A * 2 ^ (j + 1 + d) = (2 * (A * 2 ^ d)) * 2 ^ j := by rw [Int.pow_add, Int.pow_add]; grind
  rw [e, Int.mul_ediv_cancel _ (Int.ne_of_gt (two_pos j)), Int.mul_emod_right]; rfl
set_option maxRecDepth 100000 in
set_option maxHeartbeats 4000000 in
theorem walk (a0 : Option Addr) (l0 c0 : Nat) (z0 : Nat → Int) (a1 : Int) (w : World) (h0 : Row w a0 l0 c0 z0) (_ : ∀ i, i < l0 → rng (z0 i)) (h1 : rng a1) (hT : Tab w) :
    Calls Tryd.prog 3 #[.slice a0 l0 c0, .int .i64 a1] w fun e w' => e = .returned (.bool true) ∧ Below w.heap.size w w' := by
  obtain ⟨K, hK⟩ : ∃ K : Nat, a1 % 4096 = K := ⟨(a1 % 4096).toNat, by omega⟩
  have hK7 : K ≤ 4095 := by omega
  have hk7 : bits .and .i64 a1 4095 = (K : Int) := (and_4095 a1).trans hK
  clear hK h1
  go_enter Tryd.func3, Tryd.ntmps3
  go_wp2_with fail
  refine (digits_any _ _ _ 300 _ _ h0 (by omega)).mono ?_
  rintro e w1 ⟨va, rfl, A, hA, lA⟩
  have b1 := hA.below
  have na := hA.num
  clear hA
  have A0 := na.nonneg
  obtain ⟨B1, B2, B3⟩ := bounds A0 lA hK7
  have HA : Hid (A < P 2000) := B1
  have HTW : Hid ((2 : Int) ^ K < P 2000) := B2
  have HS : Hid (A * 2 ^ K < P 2000) := B3
  have H2 : Hid ((2 : Int) < P 2000) := Int.lt_trans (show (2 : Int) < 1152921504606846976 by decide) P2000_big
  have HBK : Hid (A * 2 ^ K / 2 ^ K = A) := Int.mul_ediv_cancel _ (Int.ne_of_gt (two_pos K))
  have hbl : blen A ≤ 9000 := blen_le (by rw [show (2 : Int) ^ 9000 = P 300 from (P_two 300).symm]; exact lA)
  clear B1 B2 B3 lA
  replace hT := hT.keeps b1
  go_wp2_with fail
  refine (pow_num (num1 w1 2 (by decide) (by decide) rfl) H2.out K (by omega)).mono ?_
  rintro e w2 ⟨vt, er, rfl, hF⟩
  have hb2 := hF.1
  obtain ⟨rfl, ht⟩ := hF.ans HTW.out
  clear hF
  have b2 := bel_trans (bel_alloc _ _) hb2
  replace na := na.keeps b2
  replace hT := hT.keeps b2
  have nt := ht.num
  clear ht
  go_wp2_with fail
  refine (shl_num na HA.out K (by omega)).mono ?_
  rintro e w3 ⟨vs, er, rfl, hF⟩
  have hb3 := hF.1
  obtain ⟨rfl, hs⟩ := hF.ans HS.out
  clear hF
  have b3 := hb3
  replace na := na.keeps b3
  replace nt := nt.keeps b3
  replace hT := hT.keeps b3
  have ns := hs.num
  clear hs
  go_wp2_with fail
  refine (mul_ok na nt HA.out HTW.out HS.out).mono ?_
  rintro e w4 ⟨vp, rfl, hp⟩
  have hb4 := hp.below
  have b4 := hb4
  replace na := na.keeps b4
  replace nt := nt.keeps b4
  replace ns := ns.keeps b4
  replace hT := hT.keeps b4
  have np := hp.num
  clear hp
  go_wp2_with fail
  refine (shr_num ns HS.out K (by omega)).mono ?_
  rintro e w5 ⟨vb, rfl, hk⟩
  have hb5 := hk.below
  have b5 := hb5
  replace na := na.keeps b5
  replace nt := nt.keeps b5
  replace ns := ns.keeps b5
  replace np := np.keeps b5
  replace hT := hT.keeps b5
  have nb := hk.num.cast HBK.out
  clear hk
  go_wp2_with fail
  refine (shr_num na HA.out K (by omega)).mono ?_
  rintro e w6 ⟨vr, rfl, hr⟩
  have hb6 := hr.below
  have b6 := hb6
  replace na := na.keeps b6
  replace nt := nt.keeps b6
  replace ns := ns.keeps b6
  replace np := np.keeps b6
  replace nb := nb.keeps b6
  replace hT := hT.keeps b6
  have nr := hr.num
  clear hr
  go_wp2_with fail
  refine (div_num na nt HA.out HTW.out (two_pos K)).mono ?_
  rintro e w7 ⟨vq, vm, rfl, hq, _, _⟩
  have hb7 := hq.below
  have b7 := hb7
  replace na := na.keeps b7
  replace nt := nt.keeps b7
  replace ns := ns.keeps b7
  replace np := np.keeps b7
  replace nb := nb.keeps b7
  replace nr := nr.keeps b7
  replace hT := hT.keeps b7
  have nq := hq.num
  clear hq
  go_wp2_with fail
  refine (alive_any _).mono ?_
  rintro e w8 ⟨rfl, hb8⟩
  have b8 := hb8
  replace na := na.keeps b8
  replace nt := nt.keeps b8
  replace ns := ns.keeps b8
  replace np := np.keeps b8
  replace nb := nb.keeps b8
  replace nr := nr.keeps b8
  replace nq := nq.keeps b8
  replace hT := hT.keeps b8
  go_wp2_with fail
  refine (same_num ns np).mono ?_
  rintro e w9 ⟨rfl, hb9⟩
  have b9 := hb9
  replace na := na.keeps b9
  replace nt := nt.keeps b9
  replace ns := ns.keeps b9
  replace np := np.keeps b9
  replace nb := nb.keeps b9
  replace nr := nr.keeps b9
  replace nq := nq.keeps b9
  replace hT := hT.keeps b9
  go_wp2_with fail
  refine (same_num nb na).mono ?_
  rintro e w10 ⟨rfl, hb10⟩
  have b10 := hb10
  replace na := na.keeps b10
  replace nt := nt.keeps b10
  replace ns := ns.keeps b10
  replace np := np.keeps b10
  replace nb := nb.keeps b10
  replace nr := nr.keeps b10
  replace nq := nq.keeps b10
  replace hT := hT.keeps b10
  go_wp2_with fail
  refine (same_num nr nq).mono ?_
  rintro e w11 ⟨rfl, hb11⟩
  have b11 := hb11
  replace na := na.keeps b11
  replace nt := nt.keeps b11
  replace ns := ns.keeps b11
  replace np := np.keeps b11
  replace nb := nb.keeps b11
  replace nr := nr.keeps b11
  replace nq := nq.keeps b11
  replace hT := hT.keeps b11
  obtain ⟨ao, nn, cc, rfl⟩ := na.shape
  have hz := na.zero
  by_cases hn : nn = 0
  · subst hn
    obtain rfl : A = 0 := hz.2 rfl
    rw [Int.zero_mul] at ns HS
    have hb0 : blen 0 = 0 := blen_zero
    clear hz
    go_wp2_with fail
    refine (bits_num ns HS.out).mono ?_
    rintro e w0 ⟨rfl, rfl⟩
    go_wp2_with fail
    refine (low_num ns HS.out hT).mono ?_
    rintro e w0 ⟨l, rfl, hl, rfl⟩
    rcases hl with ⟨_, rfl⟩ | ⟨k, _, m, hm⟩
    · go_wp2
      go_ret
      exact ⟨rfl, bel_trans (bel_trans (bel_trans (bel_trans (bel_trans (bel_trans (bel_trans (bel_trans (bel_trans (bel_trans (bel_trans (bel_refl w) b1) b2) b3) b4) b5) b6) b7) b8) b9) b10) b11⟩
    · exfalso
      have h3 := two_pos k
      rcases Int.lt_or_le 0 (2 * m + 1) with q | q
      · have := Int.mul_pos q h3; omega
      · have := Int.mul_pos (show 0 < -(2 * m + 1) by omega) h3; rw [Int.neg_mul] at this; omega
  · have e0 : ((nn : Int) == 0) = false := by simp; omega
    have hAp : 0 < A := by
      rcases Int.lt_or_eq_of_le A0 with q | q
      · exact q
      · exact absurd (hz.1 q.symm) hn
    clear hz
    have hSp : 0 < A * 2 ^ K := Int.mul_pos hAp (two_pos K)
    have hbs : blen (A * 2 ^ K) = blen A + K := blen_shift hAp K
    have hb1 := (blen_pos hAp).1
    obtain ⟨NB, hNB⟩ : ∃ NB, blen (A * 2 ^ K) = NB := ⟨_, rfl⟩
    obtain ⟨NM, hNM⟩ : ∃ NM : Nat, (NB : Int) - 1 = (NM : Int) := ⟨NB - 1, by omega⟩
    have HTOP : bitB (A * 2 ^ K) NM = true := by
      have := bit_top hSp
      rwa [hNB, show NB - 1 = NM by omega] at this
    have HHI : bitB (A * 2 ^ K) NB = false := bit_high (Int.le_of_lt hSp) (by omega)
    have hcmpB : ((NB : Int) == ((blen A : Nat) : Int) + (K : Int)) = true := by simp; omega
    have hNBle : NB ≤ 20000 := by omega
    have hNMle : NM ≤ 20000 := by omega
    clear hbs
    go_wp2_with fail
    refine (bits_num ns HS.out).mono ?_
    rintro e w0 ⟨rfl, rfl⟩
    go_wp2_with fail
    refine (bits_num na HA.out).mono ?_
    rintro e w0 ⟨rfl, rfl⟩
    go_wp2_with fail
    refine (low_num ns HS.out hT).mono ?_
    rintro e w0 ⟨l1, rfl, hl1, rfl⟩
    go_wp2_with fail
    refine (low_num na HA.out hT).mono ?_
    rintro e w0 ⟨l2, rfl, hl2, rfl⟩
    obtain ⟨k1, rfl, hl1'⟩ := low_is (Int.ne_of_gt hSp) hl1
    obtain ⟨k2, rfl, hl2'⟩ := low_is (Int.ne_of_gt hAp) hl2
    have hk12 : k1 = k2 + K := low_unique hl1' (low_shift hl2')
    have hk2 : k2 ≤ 9000 := by
      obtain ⟨m, hm⟩ := hl2'
      have h3 : 0 < 2 * m + 1 := by
        rcases Int.lt_or_le 0 (2 * m + 1) with q | q
        · exact q
        · have := Int.mul_nonneg (show 0 ≤ -(2 * m + 1) by omega) (Int.le_of_lt (two_pos k2)); rw [Int.neg_mul, ← hm] at this; omega
      have h4 : 1 * 2 ^ k2 ≤ (2 * m + 1) * 2 ^ k2 := mul_le_r (by omega) (Int.le_of_lt (two_pos k2))
      rw [Int.one_mul, ← hm] at h4
      have := blen_ge h4
      omega
    have HLB : bitB (A * 2 ^ K) k1 = true := bit_low hl1'
    have hcmpL : ((k1 : Int) == (k2 : Int) + (K : Int)) = true := by simp; omega
    have hk1 : k1 ≤ 20000 := by omega
    clear hl1 hl2 hk12
    go_wp2_with fail
    refine (low_num ns HS.out hT).mono ?_
    rintro e w0 ⟨l3, rfl, hl3, rfl⟩
    obtain ⟨k3, rfl, hl3'⟩ := low_is (Int.ne_of_gt hSp) hl3
    obtain rfl : k3 = k1 := low_unique hl3' hl1'
    clear hl3 hl3'
    go_wp2_with fail
    refine (bit_num ns HS.out k3 (by omega)).mono ?_
    rintro e w0 ⟨rfl, rfl⟩
    go_wp2_with fail
    refine (bits_num ns HS.out).mono ?_
    rintro e w0 ⟨rfl, rfl⟩
    go_wp2_with fail
    refine (bit_num ns HS.out NM (by omega)).mono ?_
    rintro e w0 ⟨rfl, rfl⟩
    go_wp2_with fail
    refine (bits_num ns HS.out).mono ?_
    rintro e w0 ⟨rfl, rfl⟩
    go_wp2_with fail
    refine (bit_num ns HS.out NB (by omega)).mono ?_
    rintro e w0 ⟨rfl, rfl⟩
    by_cases hK0 : K = 0
    · have hK0' : ((K : Int) == 0) = true := by simp; omega
      clear hK0 hcmpB hcmpL hNM hNB
      go_wp2
      go_ret
      exact ⟨rfl, bel_trans (bel_trans (bel_trans (bel_trans (bel_trans (bel_trans (bel_trans (bel_trans (bel_trans (bel_trans (bel_trans (bel_refl w) b1) b2) b3) b4) b5) b6) b7) b8) b9) b10) b11⟩
    · have hK0' : ((K : Int) == 0) = false := by simp; omega
      obtain ⟨KM, hKM⟩ : ∃ KM : Nat, (K : Int) - 1 = (KM : Int) := ⟨K - 1, by omega⟩
      have hkb : bitB (A * 2 ^ K) KM = false := bit_below (by omega)
      have hKMle : KM ≤ 20000 := by omega
      go_wp2_with fail
      refine (bit_num ns HS.out KM (by omega)).mono ?_
      rintro e w0 ⟨rfl, rfl⟩
      go_wp2
      go_ret
      exact ⟨rfl, bel_trans (bel_trans (bel_trans (bel_trans (bel_trans (bel_trans (bel_trans (bel_trans (bel_trans (bel_trans (bel_trans (bel_refl w) b1) b2) b3) b4) b5) b6) b7) b8) b9) b10) b11⟩
theorem own : ownKnob Tryd.prog.godebug = none := by kernel_rfl
theorem laidOut : laidOutB Tryd.prog = true := by kernel_rfl
theorem door_met (os : Os) (args : Array Value) : laidMetH Tryd.prog Rows.natShiftsRow.laid ((World.doorLaid Tryd.prog 400 os).forCall (fun _ _ => 0) ⟨#[], args, []⟩).memory :=
  laidMetH_of_parts3 (fuel := 8) (laidMet_of_run' 8 (by kernel_rfl) (by kernel_rfl)) (by kernel_rfl) (by kernel_rfl)
set_option maxRecDepth 100000 in
theorem lifted (os : Os) (started : os.Started) (H : Type) (enc : TypeId × Value → H) :
    ReturnsInHanded {} Tryd.checked os 3 .any (fun w args => (Rows.natShiftsSpec.pre enc Tryd.prog Tryd.f3 [] false w args ∧ laidMetH Tryd.prog Rows.natShiftsRow.laid w) ∧ sizedMet enc Tryd.prog Tryd.f3 (OpenSpec.ofChange Rows.natShiftsSpec) false w args)
      (Rows.natShiftsSpec.post enc Tryd.prog Tryd.f3 false true false false) := by
  refine returnsInHanded_of_change_and (C := Tryd.checked) (X := fun w _ => laidMetH Tryd.prog Rows.natShiftsRow.laid w) (fun _ _ _ hh h => h.of_heap hh) own started (by kernel_rfl) Tryd.func3
    (ChangeSpec.witness_shaped (enc := enc) (C := Tryd.checked) (os := os) (X := fun w _ => laidMetH Tryd.prog Rows.natShiftsRow.laid w) false (World.doorLaid Tryd.prog 400 os) #[.slice none 0 0, .int .i64 0] 8 rfl (World.shaped_of_RefB (by kernel_rfl) (by kernel_rfl)) (by kernel_rfl) (by kernel_rfl) (by kernel_rfl) (door_met os _)) ?_
  intro W base args ds gs before hval0 hW _ _ hL _
  have hval : ∀ (j : Nat) t v, Tryd.f3.params[j]? = some t → args[j]? = some v → Value.okWide Tryd.prog W .any base t v := hval0
  have hW' := hW
  obtain ⟨p, q, hA0, hV, rfl, hfz, hnd⟩ := hW
  have hA : DataW.TrodAll enc Tryd.prog W 0 (fun _ => true) true Tryd.f3.params.toList args.toList ds p := hA0
  rw [Tryd.params3] at hA hval
  obtain ⟨v0, vs0, d0, ds0, p0, q0, hargs, rfl, rfl, h0, r0⟩ := trodAll_cons hA
  obtain ⟨v1, vs1, d1, ds1, p1, q1, rfl, rfl, rfl, h1, r1⟩ := trodAll_cons r0
  obtain ⟨rfl, rfl, rfl⟩ := trodAll_nil r1
  obtain rfl : args = #[v0, v1] := by cases args; simp_all
  obtain ⟨rfl, rfl⟩ := trodVars_none hV
  obtain ⟨a0, l0, c0, rfl⟩ := okWide_slice Tryd.underlying22 (hval 0 22 v0 rfl rfl)
  have k0 := h0
  have lt0 : ∀ x ∈ p0, x.block < W.heap.size := by obtain ⟨m, hm⟩ := k0; exact DataW.trod_lt m _ _ _ hm
  obtain ⟨z0, w0, g0⟩ := row_of h0
  obtain ⟨a1, rfl, rfl, rfl, w1⟩ := open_int Tryd.underlying3 (hval 1 3 v1 rfl rfl) h1
  clear hA0 hval0
  refine (walk a0 l0 c0 z0 a1 W w0 g0 (rng_of w1) (tab_of hL)).mono fun e W' ⟨he, bel⟩ => ?_
  subst he
  exact ⟨_, rfl, _, _, _, [], _, [], hW', trodAll_mk1 (shut_bool Tryd.underlying4 _), (trodAll_cons_mk (Below.trod laidOut (by kernel_rfl) (of_decide_eq_true (by kernel_rfl)) k0 bel lt0) (trodAll_cons_mk (shut_int Tryd.underlying3 w1) trodAll_mk0)), rfl, bel.frame _, fun h => by cases h⟩
theorem said : Rows.NatShiftsSaid :=
  OpenClaim.holds_of_wide 3 Tryd.f3 rfl rfl rfl rfl rfl rfl rfl ⟨rfl, rfl, rfl, rfl, rfl⟩ rfl rfl rfl rfl rfl (by kernel_rfl) Tryd.func3 (by kernel_rfl)
    (of_decide_eq_true (by kernel_rfl)) (by unfold Func.isWrapper; first | (rw [if_pos (by decide +kernel)]; kernel_rfl) | (rw [if_neg (by decide +kernel)]; exact ⟨rfl, rfl⟩))
    (fun os started H enc _ => lifted os started H enc)
theorem plain (f : FuncId) (fn : Func) (hf : Tryd.pinned.checked.prog.funcNamed Tryd.f3.name = some f) (hfn : Tryd.pinned.checked.prog.funcs[f]? = some fn) :
    false = Tryd.pinned.checked.prog.looks [] ∧ ∀ (j : Nat) t, fn.params[j]? = some t → Tryd.pinned.checked.prog.wantsStandIn t = false := by
  obtain rfl : f = 3 := Option.some.inj ((show Tryd.prog.funcNamed Tryd.f3.name = some 3 by kernel_rfl).symm.trans hf) |>.symm
  obtain rfl : fn = Tryd.f3 := (Option.some.inj (Tryd.func3.symm.trans hfn)).symm
  refine ⟨by kernel_rfl, fun j t ht => ?_⟩
  rw [Tryd.params3] at ht
  have ht2 : t = 22 ∨ t = 3 := by simpa using Array.mem_of_getElem? ht
  rcases ht2 with rfl | rfl
  · exact (show Tryd.prog.wantsStandIn 22 = false by kernel_rfl)
  · exact (show Tryd.prog.wantsStandIn 3 = false by kernel_rfl)
/-- THE CARD. -/
theorem card : Rows.NatShiftsCardSaid :=
  Claim7.holds_tied_plain_at .later [] _ _ _ _ said (fun _ h => by cases h) (by kernel_rfl) (fun _ h => by cases h) natShifts_row_tie rfl ⟨rfl, rfl⟩ (by kernel_rfl) rfl plain (by kernel_rfl)
end Go.Proofs.YtmbajngbiefilabDoor.natShifts
namespace Go.Proofs.YtmbajngbiefilabDoor
/-- NatShifts: the statement as it is given. -/
theorem natShifts_holds : Rows.NatShiftsCardSaid := natShifts.card
end Go.Proofs.YtmbajngbiefilabDoor
