/-
  The steps of package eft at the constants of plumblaw7's laws.
-/
import Derived.Test.YtcpjdgfnblkfpaaGreatDoorXI
namespace Go.Proofs.YtcpjdgfnblkfpaaGreatDoor
open Go Go.RowKit Go.Proofs.YtcpjdgfnblkfpaaGreatDoor.M Ieee
set_option linter.unusedSimpArgs false
set_option linter.unusedVariables false

theorem xk_fw {p r : Int} {c : Nat} (h : FW p c) (hr : patW c = r) (hn : c % 9223372036854775808 ≤ 9218868437227405312) : p = r := by
  rcases h with ⟨_, hp, e⟩ | ⟨_, hN⟩
  · rw [← hr, e, patW_wd hp]
  · have := hN.2; omega
theorem xk_fsum {p q r : Int} {x y c : Nat} (hp : FW p x) (hq : FW q y) (h : Ieee.double.add x y = some c) (hr : patW c = r) (hn : c % 9223372036854775808 ≤ 9218868437227405312) : fsum p q = r := by
  rcases add_FW hp hq with ⟨z, e, f⟩ | ⟨e, _⟩
  · rw [h] at e; cases e; exact xk_fw f hr hn
  · rw [h] at e; cases e
theorem xk_fprod {p q r : Int} {x y c : Nat} (hp : FW p x) (hq : FW q y) (h : Ieee.double.mul x y = some c) (hr : patW c = r) (hn : c % 9223372036854775808 ≤ 9218868437227405312) : fprod p q = r := by
  rcases mul_FW hp hq with ⟨z, e, f⟩ | ⟨e, _⟩
  · rw [h] at e; cases e; exact xk_fw f hr hn
  · rw [h] at e; cases e
theorem xk_w0 : FW 9218868437227405311 9218868437227405311 := .inl ⟨by decide, by unfold rng; decide, by decide⟩
theorem xk_s1 : fsum 9218868437227405311 9218868437227405311 = 9218868437227405312 := xk_fsum xk_w0 xk_w0 (c := 9218868437227405312) (by decide +kernel) (by decide) (by decide)
theorem xk_s2 : fprod 9218868437227405311 9218868437227405311 = 9218868437227405312 := xk_fprod xk_w0 xk_w0 (c := 9218868437227405312) (by decide +kernel) (by decide) (by decide)
theorem xk_w1 : FW 4336966441157787648 4336966441157787648 := .inl ⟨by decide, by unfold rng; decide, by decide⟩
theorem xk_w2 : FW 4607182418800017408 4607182418800017408 := .inl ⟨by decide, by unfold rng; decide, by decide⟩
theorem xk_s3 : fsum 4336966441157787648 4607182418800017408 = 4607182418800017408 := xk_fsum xk_w1 xk_w2 (c := 4607182418800017408) (by decide +kernel) (by decide) (by decide)
theorem xk_n4336966441157787648 : M.neg 4336966441157787648 = (-4886405595696988160) := by decide
theorem xk_w4 : FW (-4886405595696988160) 13560338478012563456 := .inl ⟨by decide, by unfold rng; decide, by decide⟩
theorem xk_s4 : fsum 4607182418800017408 (-4886405595696988160) = 4607182418800017408 := xk_fsum xk_w2 xk_w4 (c := 4607182418800017408) (by decide +kernel) (by decide) (by decide)
theorem xk_sV4336966441157787648_4607182418800017408 : sV 4336966441157787648 4607182418800017408 = 4607182418800017408 := by unfold sV; simp only [xk_s3, xk_n4336966441157787648, xk_s4]
theorem xk_n4607182418800017408 : M.neg 4607182418800017408 = (-4616189618054758400) := by decide
theorem xk_w7 : FW (-4616189618054758400) 13830554455654793216 := .inl ⟨by decide, by unfold rng; decide, by decide⟩
theorem xk_s5 : fsum 4607182418800017408 (-4616189618054758400) = 0 := xk_fsum xk_w2 xk_w7 (c := 0) (by decide +kernel) (by decide) (by decide)
theorem xk_n0 : M.neg 0 = (-9223372036854775808) := by decide
theorem xk_w9 : FW (-9223372036854775808) 9223372036854775808 := .inl ⟨by decide, by unfold rng; decide, by decide⟩
theorem xk_s6 : fsum 4336966441157787648 (-9223372036854775808) = 4336966441157787648 := xk_fsum xk_w1 xk_w9 (c := 4336966441157787648) (by decide +kernel) (by decide) (by decide)
theorem xk_w10 : FW 0 0 := .inl ⟨by decide, by unfold rng; decide, by decide⟩
theorem xk_s7 : fsum 4336966441157787648 0 = 4336966441157787648 := xk_fsum xk_w1 xk_w10 (c := 4336966441157787648) (by decide +kernel) (by decide) (by decide)
theorem xk_sL4336966441157787648_4607182418800017408 : sL 4336966441157787648 4607182418800017408 = 4336966441157787648 := by unfold sL; simp only [xk_sV4336966441157787648_4607182418800017408, xk_s3, xk_n4607182418800017408, xk_s5, xk_n0, xk_s6, xk_s7]
theorem xk_w12 : FW 4611686018427387904 4611686018427387904 := .inl ⟨by decide, by unfold rng; decide, by decide⟩
theorem xk_s8 : fprod 4336966441157787648 4611686018427387904 = 4341470040785158144 := xk_fprod xk_w1 xk_w12 (c := 4341470040785158144) (by decide +kernel) (by decide) (by decide)
theorem xk_w13 : FW 4728779608772575232 4728779608772575232 := .inl ⟨by decide, by unfold rng; decide, by decide⟩
theorem xk_s9 : fprod 4728779608772575232 4336966441157787648 = 4458563631130345472 := xk_fprod xk_w13 xk_w1 (c := 4458563631130345472) (by decide +kernel) (by decide) (by decide)
theorem xk_w14 : FW 4458563631130345472 4458563631130345472 := .inl ⟨by decide, by unfold rng; decide, by decide⟩
theorem xk_s10 : fsum 4458563631130345472 (-4886405595696988160) = 4458563631096791040 := xk_fsum xk_w14 xk_w4 (c := 4458563631096791040) (by decide +kernel) (by decide) (by decide)
theorem xk_n4458563631096791040 : M.neg 4458563631096791040 = (-4764808405757984768) := by decide
theorem xk_w16 : FW (-4764808405757984768) 13681935667951566848 := .inl ⟨by decide, by unfold rng; decide, by decide⟩
theorem xk_s11 : fsum 4458563631130345472 (-4764808405757984768) = 4336966441157787648 := xk_fsum xk_w14 xk_w16 (c := 4336966441157787648) (by decide +kernel) (by decide) (by decide)
theorem xk_s12 : fsum 4336966441157787648 (-4886405595696988160) = 0 := xk_fsum xk_w1 xk_w4 (c := 0) (by decide +kernel) (by decide) (by decide)
theorem xk_cC4336966441157787648 : cC 4336966441157787648 = 4458563631130345472 := by unfold cC; simp only [xk_s9]
theorem xk_spH4336966441157787648 : spH 4336966441157787648 = 4336966441157787648 := by unfold spH; simp only [xk_cC4336966441157787648, xk_n4336966441157787648, xk_s10, xk_n4458563631096791040, xk_s11]
theorem xk_spL4336966441157787648 : spL 4336966441157787648 = 0 := by unfold spL; simp only [xk_spH4336966441157787648, xk_n4336966441157787648, xk_s12]
theorem xk_s13 : fprod 4728779608772575232 4611686018427387904 = 4733283208399945728 := xk_fprod xk_w13 xk_w12 (c := 4733283208399945728) (by decide +kernel) (by decide) (by decide)
theorem xk_n4611686018427387904 : M.neg 4611686018427387904 = (-4611686018427387904) := by decide
theorem xk_w21 : FW 4733283208399945728 4733283208399945728 := .inl ⟨by decide, by unfold rng; decide, by decide⟩
theorem xk_w22 : FW (-4611686018427387904) 13835058055282163712 := .inl ⟨by decide, by unfold rng; decide, by decide⟩
theorem xk_s14 : fsum 4733283208399945728 (-4611686018427387904) = 4733283208366391296 := xk_fsum xk_w21 xk_w22 (c := 4733283208366391296) (by decide +kernel) (by decide) (by decide)
theorem xk_n4733283208366391296 : M.neg 4733283208366391296 = (-4490088828488384512) := by decide
theorem xk_w24 : FW (-4490088828488384512) 13956655245221167104 := .inl ⟨by decide, by unfold rng; decide, by decide⟩
theorem xk_s15 : fsum 4733283208399945728 (-4490088828488384512) = 4611686018427387904 := xk_fsum xk_w21 xk_w24 (c := 4611686018427387904) (by decide +kernel) (by decide) (by decide)
theorem xk_s16 : fsum 4611686018427387904 (-4611686018427387904) = 0 := xk_fsum xk_w12 xk_w22 (c := 0) (by decide +kernel) (by decide) (by decide)
theorem xk_cC4611686018427387904 : cC 4611686018427387904 = 4733283208399945728 := by unfold cC; simp only [xk_s13]
theorem xk_spH4611686018427387904 : spH 4611686018427387904 = 4611686018427387904 := by unfold spH; simp only [xk_cC4611686018427387904, xk_n4611686018427387904, xk_s14, xk_n4733283208366391296, xk_s15]
theorem xk_spL4611686018427387904 : spL 4611686018427387904 = 0 := by unfold spL; simp only [xk_spH4611686018427387904, xk_n4611686018427387904, xk_s16]
theorem xk_n4341470040785158144 : M.neg 4341470040785158144 = (-4881901996069617664) := by decide
theorem xk_w29 : FW 4341470040785158144 4341470040785158144 := .inl ⟨by decide, by unfold rng; decide, by decide⟩
theorem xk_w30 : FW (-4881901996069617664) 13564842077639933952 := .inl ⟨by decide, by unfold rng; decide, by decide⟩
theorem xk_s17 : fsum 4341470040785158144 (-4881901996069617664) = 0 := xk_fsum xk_w29 xk_w30 (c := 0) (by decide +kernel) (by decide) (by decide)
theorem xk_T14336966441157787648_4611686018427387904 : pT1 4336966441157787648 4611686018427387904 = 0 := by unfold pT1; simp only [xk_s8, xk_spH4336966441157787648, xk_spH4611686018427387904, xk_n4341470040785158144, xk_s17]
theorem xk_s18 : fprod 0 4611686018427387904 = 0 := xk_fprod xk_w10 xk_w12 (c := 0) (by decide +kernel) (by decide) (by decide)
theorem xk_s19 : fsum 0 (-9223372036854775808) = 0 := xk_fsum xk_w10 xk_w9 (c := 0) (by decide +kernel) (by decide) (by decide)
theorem xk_T24336966441157787648_4611686018427387904 : pT2 4336966441157787648 4611686018427387904 = 0 := by unfold pT2; simp only [xk_T14336966441157787648_4611686018427387904, xk_spL4336966441157787648, xk_spH4611686018427387904, xk_s18, xk_n0, xk_s19]
theorem xk_s20 : fprod 4336966441157787648 0 = 0 := xk_fprod xk_w1 xk_w10 (c := 0) (by decide +kernel) (by decide) (by decide)
theorem xk_T34336966441157787648_4611686018427387904 : pT3 4336966441157787648 4611686018427387904 = 0 := by unfold pT3; simp only [xk_T24336966441157787648_4611686018427387904, xk_spH4336966441157787648, xk_spL4611686018427387904, xk_s20, xk_n0, xk_s19]
theorem xk_s21 : fprod 0 0 = 0 := xk_fprod xk_w10 xk_w10 (c := 0) (by decide +kernel) (by decide) (by decide)
theorem xk_prL4336966441157787648_4611686018427387904 : prL 4336966441157787648 4611686018427387904 = 0 := by unfold prL; simp only [xk_spL4336966441157787648, xk_spL4611686018427387904, xk_s21, xk_T34336966441157787648_4611686018427387904, xk_n0, xk_s19]
theorem xk_s22 : fprod 4607182418800017408 4611686018427387904 = 4611686018427387904 := xk_fprod xk_w2 xk_w12 (c := 4611686018427387904) (by decide +kernel) (by decide) (by decide)
theorem xk_s23 : fprod 4728779608772575232 4607182418800017408 = 4728779608772575232 := xk_fprod xk_w13 xk_w2 (c := 4728779608772575232) (by decide +kernel) (by decide) (by decide)
theorem xk_s24 : fsum 4728779608772575232 (-4616189618054758400) = 4728779608739020800 := xk_fsum xk_w13 xk_w7 (c := 4728779608739020800) (by decide +kernel) (by decide) (by decide)
theorem xk_n4728779608739020800 : M.neg 4728779608739020800 = (-4494592428115755008) := by decide
theorem xk_w36 : FW (-4494592428115755008) 13952151645593796608 := .inl ⟨by decide, by unfold rng; decide, by decide⟩
theorem xk_s25 : fsum 4728779608772575232 (-4494592428115755008) = 4607182418800017408 := xk_fsum xk_w13 xk_w36 (c := 4607182418800017408) (by decide +kernel) (by decide) (by decide)
theorem xk_cC4607182418800017408 : cC 4607182418800017408 = 4728779608772575232 := by unfold cC; simp only [xk_s23]
theorem xk_spH4607182418800017408 : spH 4607182418800017408 = 4607182418800017408 := by unfold spH; simp only [xk_cC4607182418800017408, xk_n4607182418800017408, xk_s24, xk_n4728779608739020800, xk_s25]
theorem xk_spL4607182418800017408 : spL 4607182418800017408 = 0 := by unfold spL; simp only [xk_spH4607182418800017408, xk_n4607182418800017408, xk_s5]
theorem xk_T14607182418800017408_4611686018427387904 : pT1 4607182418800017408 4611686018427387904 = 0 := by unfold pT1; simp only [xk_s22, xk_spH4607182418800017408, xk_spH4611686018427387904, xk_n4611686018427387904, xk_s16]
theorem xk_T24607182418800017408_4611686018427387904 : pT2 4607182418800017408 4611686018427387904 = 0 := by unfold pT2; simp only [xk_T14607182418800017408_4611686018427387904, xk_spL4607182418800017408, xk_spH4611686018427387904, xk_s18, xk_n0, xk_s19]
theorem xk_s26 : fprod 4607182418800017408 0 = 0 := xk_fprod xk_w2 xk_w10 (c := 0) (by decide +kernel) (by decide) (by decide)
theorem xk_T34607182418800017408_4611686018427387904 : pT3 4607182418800017408 4611686018427387904 = 0 := by unfold pT3; simp only [xk_T24607182418800017408_4611686018427387904, xk_spH4607182418800017408, xk_spL4611686018427387904, xk_s26, xk_n0, xk_s19]
theorem xk_prL4607182418800017408_4611686018427387904 : prL 4607182418800017408 4611686018427387904 = 0 := by unfold prL; simp only [xk_spL4607182418800017408, xk_spL4611686018427387904, xk_s21, xk_T34607182418800017408_4611686018427387904, xk_n0, xk_s19]
theorem xk_s27 : fsum 4341470040785158144 0 = 4341470040785158144 := xk_fsum xk_w29 xk_w10 (c := 4341470040785158144) (by decide +kernel) (by decide) (by decide)
theorem xk_sV4341470040785158144_0 : sV 4341470040785158144 0 = 0 := by unfold sV; simp only [xk_s27, xk_n4341470040785158144, xk_s17]
theorem xk_s28 : fsum 4341470040785158144 (-9223372036854775808) = 4341470040785158144 := xk_fsum xk_w29 xk_w9 (c := 4341470040785158144) (by decide +kernel) (by decide) (by decide)
theorem xk_s29 : fsum 0 0 = 0 := xk_fsum xk_w10 xk_w10 (c := 0) (by decide +kernel) (by decide) (by decide)
theorem xk_sL4341470040785158144_0 : sL 4341470040785158144 0 = 0 := by unfold sL; simp only [xk_sV4341470040785158144_0, xk_s27, xk_n0, xk_s28, xk_n4341470040785158144, xk_s17, xk_s19, xk_s29]
theorem xk_s30 : fsum 4611686018427387904 4341470040785158144 = 4611686018427387904 := xk_fsum xk_w12 xk_w29 (c := 4611686018427387904) (by decide +kernel) (by decide) (by decide)
theorem xk_fL4611686018427387904_4341470040785158144 : fL 4611686018427387904 4341470040785158144 = 4341470040785158144 := by unfold fL; simp only [xk_s30, xk_n4611686018427387904, xk_s16, xk_n0, xk_s28]
theorem xk_rng (b : Int) (h : decide (-9223372036854775808 ≤ b ∧ b ≤ 9223372036854775807) = true) : rng b := by
  have := of_decide_eq_true h
  unfold rng
  omega
theorem gx_one (d : Nat → Int) (q : Int) : gx d q 1 = pok (sL q (d 0)) := by
  show (true && pok (sL q (d 0))) = _
  rw [Bool.true_and]
theorem grw_one (d : Nat → Int) (q : Int) : grw 1 d q = ((⟨0, d⟩ : Ls).add (sL q (d 0))).add (fsum q (d 0)) := rfl
theorem sx_zero (d : Nat → Int) (b : Int) : sx d b 0 = pX (d 0) b := rfl
theorem sx_one (d : Nat → Int) (b : Int) : sx d b 1 = (pX (d 0) b && (pX (d 1) b && (pok (sL (fprod (d 0) b) (prL (d 1) b)) && fX (fprod (d 1) b) (fsum (fprod (d 0) b) (prL (d 1) b))))) := rfl
theorem scl_one (s : Ls) (d : Nat → Int) (b : Int) : scl s d b 1 = (((s.add (prL (d 0) b)).add (sL (fprod (d 0) b) (prL (d 1) b))).add (fL (fprod (d 1) b) (fsum (fprod (d 0) b) (prL (d 1) b)))).add (fsum (fprod (d 1) b) (fsum (fprod (d 0) b) (prL (d 1) b))) := rfl
theorem sxN_succ {d : Nat → Int} {b : Int} {n : Nat} (h : ¬ rg b = 0) : sxN d b (n + 1) = sx d b n := if_neg h
theorem sclN_succ {d : Nat → Int} {b : Int} {n : Nat} (h : ¬ rg b = 0) : sclN d b (n + 1) = scl ⟨0, fun _ => 0⟩ d b n := if_neg h
theorem ls_no {s : Ls} {b : Int} (h : rg b = 0) : s.add b = s := if_pos h
theorem ls_yes {n : Nat} {d : Nat → Int} {b : Int} (h : ¬ rg b = 0) : (⟨n, d⟩ : Ls).add b = ⟨n + 1, upd d n b⟩ := if_neg h
theorem xk_pt : pok 9218868437227405311 = true := by decide
theorem xk_pi : pok 9218868437227405312 = false := by decide
/-- Grow of (top) and top is not exact. -/
theorem xk_grow_top : gx (fun _ => 9218868437227405311) 9218868437227405311 1 = false := by
  rw [gx_one]
  cases h : pok (sL 9218868437227405311 9218868437227405311)
  · rfl
  · have := (sL_exact (xk_rng _ (by decide)) (xk_rng _ (by decide)) h).2.1
    rw [xk_s1, xk_pi] at this
    cases this
theorem xk_scale_top : sxN (fun _ => 9218868437227405311) 9218868437227405311 1 = false := by
  rw [sxN_succ (by decide), sx_zero]
  cases h : pX 9218868437227405311 9218868437227405311
  · rfl
  · have := (pX_fin (xk_rng _ (by decide)) (xk_rng _ (by decide)) h).1
    rw [xk_s2, xk_pi] at this
    cases this
theorem xk_scale_one : sxN (fun _ => 1) 1 1 = false := by
  have h : reach 1 1 = false := by decide +kernel
  rw [sxN_succ (by decide), sx_zero]
  unfold pX
  rw [h, Bool.and_false]
theorem xk_pT : pok 4336966441157787648 = true := by decide
theorem xk_p0 : pok 0 = true := by decide
theorem xk_p1 : pok 0 = true := by decide
theorem xk_p2 : pok 0 = true := by decide
theorem xk_p3 : pok 4341470040785158144 = true := by decide
theorem xk_grow_x : gx (fun _ => 4607182418800017408) 4336966441157787648 1 = true := by
  rw [gx_one, xk_sL4336966441157787648_4607182418800017408, xk_pT]
theorem xk_grow_s : grw 1 (fun _ => 4607182418800017408) 4336966441157787648 = ⟨2, upd (upd (fun _ => 4607182418800017408) 0 4336966441157787648) 1 4607182418800017408⟩ := by
  rw [grw_one, xk_sL4336966441157787648_4607182418800017408, xk_s3, ls_yes (show ¬ rg 4336966441157787648 = 0 by decide), ls_yes (show ¬ rg 4607182418800017408 = 0 by decide)]
theorem xk_pX0 : pX 4336966441157787648 4611686018427387904 = true := by
  have h : reach 4336966441157787648 4611686018427387904 = true := by decide +kernel
  unfold pX
  rw [h, xk_prL4336966441157787648_4611686018427387904, xk_p0]
  rfl
theorem xk_pX1 : pX 4607182418800017408 4611686018427387904 = true := by
  have h : reach 4607182418800017408 4611686018427387904 = true := by decide +kernel
  unfold pX
  rw [h, xk_prL4607182418800017408_4611686018427387904, xk_p1]
  rfl
theorem xk_fX : fX 4611686018427387904 4341470040785158144 = true := by
  have h : decide ((iV 4611686018427387904).natAbs < (iV 4341470040785158144).natAbs) = false := by decide +kernel
  unfold fX
  rw [xk_fL4611686018427387904_4341470040785158144, xk_p3, h]
  rfl
theorem xk_d0 : d2 4336966441157787648 4607182418800017408 0 = 4336966441157787648 := rfl
theorem xk_d1 : d2 4336966441157787648 4607182418800017408 1 = 4607182418800017408 := rfl
theorem xk_scale_x : sxN (d2 4336966441157787648 4607182418800017408) 4611686018427387904 2 = true := by
  rw [sxN_succ (by decide), sx_one, xk_d0, xk_d1, xk_pX0, xk_pX1, xk_s8, xk_prL4607182418800017408_4611686018427387904, xk_s22, xk_s27, xk_sL4341470040785158144_0, xk_fX, xk_p2]
  rfl
theorem xk_scale_n : (sclN (d2 4336966441157787648 4607182418800017408) 4611686018427387904 2).n = 2 := by
  rw [sclN_succ (by decide), scl_one, xk_d0, xk_d1, xk_prL4336966441157787648_4611686018427387904, xk_s8, xk_prL4607182418800017408_4611686018427387904, xk_s22, xk_s27, xk_sL4341470040785158144_0, xk_fL4611686018427387904_4341470040785158144, xk_s30, ls_no (show rg 0 = 0 by decide), ls_no (show rg 0 = 0 by decide), ls_yes (show ¬ rg 4341470040785158144 = 0 by decide), ls_yes (show ¬ rg 4611686018427387904 = 0 by decide)]
theorem xk_v1 : xval (fun _ => 9218868437227405311) 1 = true := by decide +kernel
theorem xk_v2 : xval (fun _ => 1) 1 = true := by decide +kernel
theorem xk_v3 : xval (fun _ => 4607182418800017408) 1 = true := by decide +kernel
theorem xk_v4 : xval (d2 4336966441157787648 4607182418800017408) 2 = true := by decide +kernel
theorem xk_v5 : xval (upd (upd (fun _ => 4607182418800017408) 0 4336966441157787648) 1 4607182418800017408) 2 = true := by decide +kernel
end Go.Proofs.YtcpjdgfnblkfpaaGreatDoor
