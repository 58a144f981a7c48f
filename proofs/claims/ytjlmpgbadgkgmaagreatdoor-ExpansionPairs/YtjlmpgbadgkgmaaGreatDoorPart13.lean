/-
  Parts of the proof, one behind another.
-/
import Derived.Test.YtjlmpgbadgkgmaaGreatDoorPart12
import Derived.Test.YtjlmpgbadgkgmaaGreatDoorPart1
import Derived.Test.YtjlmpgbadgkgmaaGreatDoorPart4
import Derived.Test.YtjlmpgbadgkgmaaGreatDoorPart5
import Derived.Test.YtjlmpgbadgkgmaaGreatDoorPart7
import Derived.Test.YtjlmpgbadgkgmaaGreatDoorPart2
import Derived.Test.YtjlmpgbadgkgmaaGreatDoorPart6
/-
  The steps of package eft at the constants of plumblaw7's laws.
-/
namespace Go.Proofs.YtjlmpgbadgkgmaaGreatDoor
open Go Go.RowKit Go.Proofs.YtjlmpgbadgkgmaaGreatDoor.M Ieee
set_option linter.unusedSimpArgs false
set_option linter.unusedVariables false

theorem xk_fw {p r : Int} {c : Nat} (h : FW p c) (hr : patW c = r) (hn : c % 9223372036854775808 ≤ 9218868437227405312) : p = r := by
  rcases h with ⟨_, hp, e⟩ | ⟨_, hN⟩
  · rw [← hr, e, patW_wd hp]
  · have := hN.2; omega
theorem xk_fsum {p q r : Int} {x y c : Nat} (hp : FW p x) (hq : FW q y) (h : Ieee.double.add x y = some c) (hr : patW c = r) (hn : c % 9223372036854775808 ≤ 9218868437227405312) : fsum p q = r := by
  rcases add_FW hp hq with ⟨z, e, f⟩ | ⟨e, _⟩
  · rw [h] at e; cases e; exact xk_fw f hr hn
  · rw [h] at e; cases e
theorem xk_fprod {p q r : Int} {x y c : Nat} (hp : FW p x) (hq : FW q y) (h : Ieee.double.mul x y = some c) (hr : patW c = r) (hn : c % 9223372036854775808 ≤ 9218868437227405312) : fprod p q = r := by
  rcases mul_FW hp hq with ⟨z, e, f⟩ | ⟨e, _⟩
  · rw [h] at e; cases e; exact xk_fw f hr hn
  · rw [h] at e; cases e
theorem xk_w1 : FW 4336966441157787648 4336966441157787648 := .inl ⟨by decide, by unfold rng; decide, by decide⟩
theorem xk_w2 : FW 4607182418800017408 4607182418800017408 := .inl ⟨by decide, by unfold rng; decide, by decide⟩
theorem xk_s3 : fsum 4336966441157787648 4607182418800017408 = 4607182418800017408 := xk_fsum xk_w1 xk_w2 (c := 4607182418800017408) (by decide +kernel) (by decide) (by decide)
theorem xk_n4336966441157787648 : M.neg 4336966441157787648 = (-4886405595696988160) := by decide
theorem xk_w4 : FW (-4886405595696988160) 13560338478012563456 := .inl ⟨by decide, by unfold rng; decide, by decide⟩
theorem xk_s4 : fsum 4607182418800017408 (-4886405595696988160) = 4607182418800017408 := xk_fsum xk_w2 xk_w4 (c := 4607182418800017408) (by decide +kernel) (by decide) (by decide)
theorem xk_sV4336966441157787648_4607182418800017408 : sV 4336966441157787648 4607182418800017408 = 4607182418800017408 := by unfold sV; simp only [xk_s3, xk_n4336966441157787648, xk_s4]
theorem xk_n4607182418800017408 : M.neg 4607182418800017408 = (-4616189618054758400) := by decide
theorem xk_w7 : FW (-4616189618054758400) 13830554455654793216 := .inl ⟨by decide, by unfold rng; decide, by decide⟩
theorem xk_s5 : fsum 4607182418800017408 (-4616189618054758400) = 0 := xk_fsum xk_w2 xk_w7 (c := 0) (by decide +kernel) (by decide) (by decide)
theorem xk_n0 : M.neg 0 = (-9223372036854775808) := by decide
theorem xk_w9 : FW (-9223372036854775808) 9223372036854775808 := .inl ⟨by decide, by unfold rng; decide, by decide⟩
theorem xk_s6 : fsum 4336966441157787648 (-9223372036854775808) = 4336966441157787648 := xk_fsum xk_w1 xk_w9 (c := 4336966441157787648) (by decide +kernel) (by decide) (by decide)
theorem xk_w10 : FW 0 0 := .inl ⟨by decide, by unfold rng; decide, by decide⟩
theorem xk_s7 : fsum 4336966441157787648 0 = 4336966441157787648 := xk_fsum xk_w1 xk_w10 (c := 4336966441157787648) (by decide +kernel) (by decide) (by decide)
theorem xk_sL4336966441157787648_4607182418800017408 : sL 4336966441157787648 4607182418800017408 = 4336966441157787648 := by unfold sL; simp only [xk_sV4336966441157787648_4607182418800017408, xk_s3, xk_n4607182418800017408, xk_s5, xk_n0, xk_s6, xk_s7]
theorem xk_w12 : FW 4611686018427387904 4611686018427387904 := .inl ⟨by decide, by unfold rng; decide, by decide⟩
theorem xk_s8 : fprod 4336966441157787648 4611686018427387904 = 4341470040785158144 := xk_fprod xk_w1 xk_w12 (c := 4341470040785158144) (by decide +kernel) (by decide) (by decide)
theorem xk_w13 : FW 4728779608772575232 4728779608772575232 := .inl ⟨by decide, by unfold rng; decide, by decide⟩
theorem xk_s9 : fprod 4728779608772575232 4336966441157787648 = 4458563631130345472 := xk_fprod xk_w13 xk_w1 (c := 4458563631130345472) (by decide +kernel) (by decide) (by decide)
theorem xk_w14 : FW 4458563631130345472 4458563631130345472 := .inl ⟨by decide, by unfold rng; decide, by decide⟩
theorem xk_s10 : fsum 4458563631130345472 (-4886405595696988160) = 4458563631096791040 := xk_fsum xk_w14 xk_w4 (c := 4458563631096791040) (by decide +kernel) (by decide) (by decide)
theorem xk_n4458563631096791040 : M.neg 4458563631096791040 = (-4764808405757984768) := by decide
theorem xk_w16 : FW (-4764808405757984768) 13681935667951566848 := .inl ⟨by decide, by unfold rng; decide, by decide⟩
theorem xk_s11 : fsum 4458563631130345472 (-4764808405757984768) = 4336966441157787648 := xk_fsum xk_w14 xk_w16 (c := 4336966441157787648) (by decide +kernel) (by decide) (by decide)
theorem xk_s12 : fsum 4336966441157787648 (-4886405595696988160) = 0 := xk_fsum xk_w1 xk_w4 (c := 0) (by decide +kernel) (by decide) (by decide)
theorem xk_cC4336966441157787648 : cC 4336966441157787648 = 4458563631130345472 := by unfold cC; simp only [xk_s9]
theorem xk_spH4336966441157787648 : spH 4336966441157787648 = 4336966441157787648 := by unfold spH; simp only [xk_cC4336966441157787648, xk_n4336966441157787648, xk_s10, xk_n4458563631096791040, xk_s11]
theorem xk_spL4336966441157787648 : spL 4336966441157787648 = 0 := by unfold spL; simp only [xk_spH4336966441157787648, xk_n4336966441157787648, xk_s12]
theorem xk_s13 : fprod 4728779608772575232 4611686018427387904 = 4733283208399945728 := xk_fprod xk_w13 xk_w12 (c := 4733283208399945728) (by decide +kernel) (by decide) (by decide)
theorem xk_n4611686018427387904 : M.neg 4611686018427387904 = (-4611686018427387904) := by decide
theorem xk_w21 : FW 4733283208399945728 4733283208399945728 := .inl ⟨by decide, by unfold rng; decide, by decide⟩
theorem xk_w22 : FW (-4611686018427387904) 13835058055282163712 := .inl ⟨by decide, by unfold rng; decide, by decide⟩
theorem xk_s14 : fsum 4733283208399945728 (-4611686018427387904) = 4733283208366391296 := xk_fsum xk_w21 xk_w22 (c := 4733283208366391296) (by decide +kernel) (by decide) (by decide)
theorem xk_n4733283208366391296 : M.neg 4733283208366391296 = (-4490088828488384512) := by decide
theorem xk_w24 : FW (-4490088828488384512) 13956655245221167104 := .inl ⟨by decide, by unfold rng; decide, by decide⟩
theorem xk_s15 : fsum 4733283208399945728 (-4490088828488384512) = 4611686018427387904 := xk_fsum xk_w21 xk_w24 (c := 4611686018427387904) (by decide +kernel) (by decide) (by decide)
theorem xk_s16 : fsum 4611686018427387904 (-4611686018427387904) = 0 := xk_fsum xk_w12 xk_w22 (c := 0) (by decide +kernel) (by decide) (by decide)
theorem xk_cC4611686018427387904 : cC 4611686018427387904 = 4733283208399945728 := by unfold cC; simp only [xk_s13]
theorem xk_spH4611686018427387904 : spH 4611686018427387904 = 4611686018427387904 := by unfold spH; simp only [xk_cC4611686018427387904, xk_n4611686018427387904, xk_s14, xk_n4733283208366391296, xk_s15]
theorem xk_spL4611686018427387904 : spL 4611686018427387904 = 0 := by unfold spL; simp only [xk_spH4611686018427387904, xk_n4611686018427387904, xk_s16]
theorem xk_n4341470040785158144 : M.neg 4341470040785158144 = (-4881901996069617664) := by decide
theorem xk_w29 : FW 4341470040785158144 4341470040785158144 := .inl ⟨by decide, by unfold rng; decide, by decide⟩
theorem xk_w30 : FW (-4881901996069617664) 13564842077639933952 := .inl ⟨by decide, by unfold rng; decide, by decide⟩
theorem xk_s17 : fsum 4341470040785158144 (-4881901996069617664) = 0 := xk_fsum xk_w29 xk_w30 (c := 0) (by decide +kernel) (by decide) (by decide)
theorem xk_T14336966441157787648_4611686018427387904 : pT1 4336966441157787648 4611686018427387904 = 0 := by unfold pT1; simp only [xk_s8, xk_spH4336966441157787648, xk_spH4611686018427387904, xk_n4341470040785158144, xk_s17]
theorem xk_s18 : fprod 0 4611686018427387904 = 0 := xk_fprod xk_w10 xk_w12 (c := 0) (by decide +kernel) (by decide) (by decide)
theorem xk_s19 : fsum 0 (-9223372036854775808) = 0 := xk_fsum xk_w10 xk_w9 (c := 0) (by decide +kernel) (by decide) (by decide)
theorem xk_T24336966441157787648_4611686018427387904 : pT2 4336966441157787648 4611686018427387904 = 0 := by unfold pT2; simp only [xk_T14336966441157787648_4611686018427387904, xk_spL4336966441157787648, xk_spH4611686018427387904, xk_s18, xk_n0, xk_s19]
theorem xk_s20 : fprod 4336966441157787648 0 = 0 := xk_fprod xk_w1 xk_w10 (c := 0) (by decide +kernel) (by decide) (by decide)
theorem xk_T34336966441157787648_4611686018427387904 : pT3 4336966441157787648 4611686018427387904 = 0 := by unfold pT3; simp only [xk_T24336966441157787648_4611686018427387904, xk_spH4336966441157787648, xk_spL4611686018427387904, xk_s20, xk_n0, xk_s19]
theorem xk_s21 : fprod 0 0 = 0 := xk_fprod xk_w10 xk_w10 (c := 0) (by decide +kernel) (by decide) (by decide)
theorem xk_prL4336966441157787648_4611686018427387904 : prL 4336966441157787648 4611686018427387904 = 0 := by unfold prL; simp only [xk_spL4336966441157787648, xk_spL4611686018427387904, xk_s21, xk_T34336966441157787648_4611686018427387904, xk_n0, xk_s19]
theorem xk_s22 : fprod 4607182418800017408 4611686018427387904 = 4611686018427387904 := xk_fprod xk_w2 xk_w12 (c := 4611686018427387904) (by decide +kernel) (by decide) (by decide)
theorem xk_s23 : fprod 4728779608772575232 4607182418800017408 = 4728779608772575232 := xk_fprod xk_w13 xk_w2 (c := 4728779608772575232) (by decide +kernel) (by decide) (by decide)
theorem xk_s24 : fsum 4728779608772575232 (-4616189618054758400) = 4728779608739020800 := xk_fsum xk_w13 xk_w7 (c := 4728779608739020800) (by decide +kernel) (by decide) (by decide)
theorem xk_n4728779608739020800 : M.neg 4728779608739020800 = (-4494592428115755008) := by decide
theorem xk_w36 : FW (-4494592428115755008) 13952151645593796608 := .inl ⟨by decide, by unfold rng; decide, by decide⟩
theorem xk_s25 : fsum 4728779608772575232 (-4494592428115755008) = 4607182418800017408 := xk_fsum xk_w13 xk_w36 (c := 4607182418800017408) (by decide +kernel) (by decide) (by decide)
theorem xk_cC4607182418800017408 : cC 4607182418800017408 = 4728779608772575232 := by unfold cC; simp only [xk_s23]
theorem xk_spH4607182418800017408 : spH 4607182418800017408 = 4607182418800017408 := by unfold spH; simp only [xk_cC4607182418800017408, xk_n4607182418800017408, xk_s24, xk_n4728779608739020800, xk_s25]
theorem xk_spL4607182418800017408 : spL 4607182418800017408 = 0 := by unfold spL; simp only [xk_spH4607182418800017408, xk_n4607182418800017408, xk_s5]
theorem xk_T14607182418800017408_4611686018427387904 : pT1 4607182418800017408 4611686018427387904 = 0 := by unfold pT1; simp only [xk_s22, xk_spH4607182418800017408, xk_spH4611686018427387904, xk_n4611686018427387904, xk_s16]
theorem xk_T24607182418800017408_4611686018427387904 : pT2 4607182418800017408 4611686018427387904 = 0 := by unfold pT2; simp only [xk_T14607182418800017408_4611686018427387904, xk_spL4607182418800017408, xk_spH4611686018427387904, xk_s18, xk_n0, xk_s19]
theorem xk_s26 : fprod 4607182418800017408 0 = 0 := xk_fprod xk_w2 xk_w10 (c := 0) (by decide +kernel) (by decide) (by decide)
theorem xk_T34607182418800017408_4611686018427387904 : pT3 4607182418800017408 4611686018427387904 = 0 := by unfold pT3; simp only [xk_T24607182418800017408_4611686018427387904, xk_spH4607182418800017408, xk_spL4611686018427387904, xk_s26, xk_n0, xk_s19]
theorem xk_prL4607182418800017408_4611686018427387904 : prL 4607182418800017408 4611686018427387904 = 0 := by unfold prL; simp only [xk_spL4607182418800017408, xk_spL4611686018427387904, xk_s21, xk_T34607182418800017408_4611686018427387904, xk_n0, xk_s19]
theorem xk_s27 : fsum 4341470040785158144 0 = 4341470040785158144 := xk_fsum xk_w29 xk_w10 (c := 4341470040785158144) (by decide +kernel) (by decide) (by decide)
theorem xk_sV4341470040785158144_0 : sV 4341470040785158144 0 = 0 := by unfold sV; simp only [xk_s27, xk_n4341470040785158144, xk_s17]
theorem xk_s28 : fsum 4341470040785158144 (-9223372036854775808) = 4341470040785158144 := xk_fsum xk_w29 xk_w9 (c := 4341470040785158144) (by decide +kernel) (by decide) (by decide)
theorem xk_s29 : fsum 0 0 = 0 := xk_fsum xk_w10 xk_w10 (c := 0) (by decide +kernel) (by decide) (by decide)
theorem xk_sL4341470040785158144_0 : sL 4341470040785158144 0 = 0 := by unfold sL; simp only [xk_sV4341470040785158144_0, xk_s27, xk_n0, xk_s28, xk_n4341470040785158144, xk_s17, xk_s19, xk_s29]
theorem xk_s30 : fsum 4611686018427387904 4341470040785158144 = 4611686018427387904 := xk_fsum xk_w12 xk_w29 (c := 4611686018427387904) (by decide +kernel) (by decide) (by decide)
theorem xk_fL4611686018427387904_4341470040785158144 : fL 4611686018427387904 4341470040785158144 = 4341470040785158144 := by unfold fL; simp only [xk_s30, xk_n4611686018427387904, xk_s16, xk_n0, xk_s28]
theorem xk_rng (b : Int) (h : decide (-9223372036854775808 ≤ b ∧ b ≤ 9223372036854775807) = true) : rng b := by
  have := of_decide_eq_true h
  unfold rng
  omega
theorem gx_one (d : Nat → Int) (q : Int) : gx d q 1 = pok (sL q (d 0)) := by
  show (true && pok (sL q (d 0))) = _
  rw [Bool.true_and]
theorem grw_one (d : Nat → Int) (q : Int) : grw 1 d q = ((⟨0, d⟩ : Ls).add (sL q (d 0))).add (fsum q (d 0)) := rfl
theorem sx_one (d : Nat → Int) (b : Int) : sx d b 1 = (pX (d 0) b && (pX (d 1) b && (pok (sL (fprod (d 0) b) (prL (d 1) b)) && fX (fprod (d 1) b) (fsum (fprod (d 0) b) (prL (d 1) b))))) := rfl
theorem scl_one (s : Ls) (d : Nat → Int) (b : Int) : scl s d b 1 = (((s.add (prL (d 0) b)).add (sL (fprod (d 0) b) (prL (d 1) b))).add (fL (fprod (d 1) b) (fsum (fprod (d 0) b) (prL (d 1) b)))).add (fsum (fprod (d 1) b) (fsum (fprod (d 0) b) (prL (d 1) b))) := rfl
theorem sxN_succ {d : Nat → Int} {b : Int} {n : Nat} (h : ¬ rg b = 0) : sxN d b (n + 1) = sx d b n := if_neg h
theorem sclN_succ {d : Nat → Int} {b : Int} {n : Nat} (h : ¬ rg b = 0) : sclN d b (n + 1) = scl ⟨0, fun _ => 0⟩ d b n := if_neg h
theorem ls_no {s : Ls} {b : Int} (h : rg b = 0) : s.add b = s := if_pos h
theorem ls_yes {n : Nat} {d : Nat → Int} {b : Int} (h : ¬ rg b = 0) : (⟨n, d⟩ : Ls).add b = ⟨n + 1, upd d n b⟩ := if_neg h
theorem xk_pT : pok 4336966441157787648 = true := by decide
theorem xk_p0 : pok 0 = true := by decide
theorem xk_p1 : pok 0 = true := by decide
theorem xk_p2 : pok 0 = true := by decide
theorem xk_p3 : pok 4341470040785158144 = true := by decide
theorem xk_grow_x : gx (fun _ => 4607182418800017408) 4336966441157787648 1 = true := by
  rw [gx_one, xk_sL4336966441157787648_4607182418800017408, xk_pT]
theorem xk_grow_s : grw 1 (fun _ => 4607182418800017408) 4336966441157787648 = ⟨2, upd (upd (fun _ => 4607182418800017408) 0 4336966441157787648) 1 4607182418800017408⟩ := by
  rw [grw_one, xk_sL4336966441157787648_4607182418800017408, xk_s3, ls_yes (show ¬ rg 4336966441157787648 = 0 by decide), ls_yes (show ¬ rg 4607182418800017408 = 0 by decide)]
theorem xk_pX0 : pX 4336966441157787648 4611686018427387904 = true := by
  have h : reach 4336966441157787648 4611686018427387904 = true := by decide +kernel
  unfold pX
  rw [h, xk_prL4336966441157787648_4611686018427387904, xk_p0]
  rfl
theorem xk_pX1 : pX 4607182418800017408 4611686018427387904 = true := by
  have h : reach 4607182418800017408 4611686018427387904 = true := by decide +kernel
  unfold pX
  rw [h, xk_prL4607182418800017408_4611686018427387904, xk_p1]
  rfl
theorem xk_fX : fX 4611686018427387904 4341470040785158144 = true := by
  have h : decide ((iV 4611686018427387904).natAbs < (iV 4341470040785158144).natAbs) = false := by decide +kernel
  unfold fX
  rw [xk_fL4611686018427387904_4341470040785158144, xk_p3, h]
  rfl
theorem xk_d0 : d2 4336966441157787648 4607182418800017408 0 = 4336966441157787648 := rfl
theorem xk_d1 : d2 4336966441157787648 4607182418800017408 1 = 4607182418800017408 := rfl
theorem xk_scale_x : sxN (d2 4336966441157787648 4607182418800017408) 4611686018427387904 2 = true := by
  rw [sxN_succ (by decide), sx_one, xk_d0, xk_d1, xk_pX0, xk_pX1, xk_s8, xk_prL4607182418800017408_4611686018427387904, xk_s22, xk_s27, xk_sL4341470040785158144_0, xk_fX, xk_p2]
  rfl
theorem xk_scale_n : (sclN (d2 4336966441157787648 4607182418800017408) 4611686018427387904 2).n = 2 := by
  rw [sclN_succ (by decide), scl_one, xk_d0, xk_d1, xk_prL4336966441157787648_4611686018427387904, xk_s8, xk_prL4607182418800017408_4611686018427387904, xk_s22, xk_s27, xk_sL4341470040785158144_0, xk_fL4611686018427387904_4341470040785158144, xk_s30, ls_no (show rg 0 = 0 by decide), ls_no (show rg 0 = 0 by decide), ls_yes (show ¬ rg 4341470040785158144 = 0 by decide), ls_yes (show ¬ rg 4611686018427387904 = 0 by decide)]
theorem xk_v3 : xval (fun _ => 4607182418800017408) 1 = true := by decide +kernel
theorem xk_v4 : xval (d2 4336966441157787648 4607182418800017408) 2 = true := by decide +kernel
theorem xk_v5 : xval (upd (upd (fun _ => 4607182418800017408) 0 4336966441157787648) 1 4607182418800017408) 2 = true := by decide +kernel
end Go.Proofs.YtjlmpgbadgkgmaaGreatDoor

/-
  plumblaw7.alive, by its contract.
-/
namespace Go.Proofs.YtjlmpgbadgkgmaaGreatDoor
open Go Go.RowKit Go.Proofs.YtjlmpgbadgkgmaaGreatDoor.M
set_option linter.unusedSimpArgs false
set_option linter.unusedVariables false

theorem LsO.row {B : Nat} {w : World} {v : Value} {s : Ls} (h : LsO B w v s) : ∃ ao cap, v = .slice ao s.n cap ∧ Row w ao s.n cap s.d := by
  rcases h with h | ⟨h0, ad, rfl⟩
  · exact h.row
  · rw [h0]
    exact ⟨some ad, 0, rfl, Nat.le_refl _, by decide, (fun q => by cases q), fun q => by omega⟩
theorem XA.yes {w w' : World} {ok : Bool} {s : Ls} {r : Ending} (h : XA w ok s r w') (ho : ok = true) : ∃ ao cap, r = .returned (.tuple #[.slice ao s.n cap, .int .i64 0]) ∧ Row w' ao s.n cap s.d ∧ Below w.heap.size w w' := by
  obtain ⟨(⟨_, v, h1, h2⟩ | ⟨h1, _⟩), hb⟩ := h
  · obtain ⟨ao, cap, rfl, hR⟩ := h2.row
    exact ⟨ao, cap, h1, hR, hb⟩
  · rw [ho] at h1; cases h1
theorem XA.no {w w' : World} {ok : Bool} {s : Ls} {r : Ending} (h : XA w ok s r w') (ho : ok = false) : r = .returned (.tuple #[.slice none 0 0, .int .i64 14]) ∧ Below w.heap.size w w' := by
  obtain ⟨(⟨h1, _⟩ | ⟨_, h1⟩), hb⟩ := h
  · rw [ho] at h1; cases h1
  · exact ⟨h1, hb⟩
theorem xk_r (b : Int) (h : decide (-9223372036854775808 ≤ b ∧ b ≤ 9223372036854775807) = true) : ∀ i : Nat, i < 1 → rng ((fun _ => b) i) := fun _ _ => xk_rng b h
theorem xk_r2 : ∀ i : Nat, i < 2 → rng (d2 4336966441157787648 4607182418800017408 i) := fun i hi => by
  match i, hi with
  | 0, _ => exact xk_rng _ (by decide)
  | 1, _ => exact xk_rng _ (by decide)
theorem xk_same : sameB (upd (upd (fun _ => 4607182418800017408) 0 4336966441157787648) 1 4607182418800017408) (d2 4336966441157787648 4607182418800017408) 2 2 = true := by
  refine decide_eq_true ⟨rfl, fun i hi => ?_⟩
  match i, hi with
  | 0, _ => rfl
  | 1, _ => rfl
set_option maxRecDepth 100000 in
set_option maxHeartbeats 1000000 in
theorem alive7 (w : World) (H : Hold4 w) : Calls Tryz.prog 5 #[] w fun e w' => e = .returned (.bool true) ∧ Below w.heap.size w w' := by
  have HH : Hid (Hold4 w) := H
  have C1 : Hid (∀ W ao cap, Hold4 W → Row W ao 1 cap (fun _ => 4607182418800017408) → Calls Tryz.prog 9 #[.slice ao 1 cap, .int .i64 4336966441157787648] W fun r w' => ∃ ao cap, r = .returned (.tuple #[.slice ao 2 cap, .int .i64 0]) ∧ Row w' ao 2 cap (upd (upd (fun _ => 4607182418800017408) 0 4336966441157787648) 1 4607182418800017408) ∧ Below W.heap.size W w') := fun W ao cap hW hR => by
    have h := xGrow W hR (xk_r _ (by decide)) xk_v3 (xk_rng _ (by decide)) xk_pT (by decide) hW
    rw [xk_grow_s] at h
    exact h.mono fun r w' hx => hx.yes xk_grow_x
  have C2 : Hid (∀ W ao cap, Hold4 W → Row W ao 2 cap (d2 4336966441157787648 4607182418800017408) → Calls Tryz.prog 10 #[.slice ao 2 cap, .int .i64 4611686018427387904] W fun r w' => ∃ ao cap, r = .returned (.tuple #[.slice ao 2 cap, .int .i64 0]) ∧ Below W.heap.size W w') := fun W ao cap hW hR => by
    have h := xScale (b := 4611686018427387904) W hR xk_r2 xk_v4 (xk_rng _ (by decide)) (by decide) (by decide) hW
    refine h.mono fun r w' hx => ?_
    obtain ⟨ao, cap, e1, e2, e3⟩ := hx.yes xk_scale_x
    rw [xk_scale_n] at e1
    exact ⟨ao, cap, e1, e3⟩
  clear H
  go_enter Tryz.func5, Tryz.ntmps5
  go_wp2_with fail
  have hb0 := bel_alloc w (.cells #[.int .i64 4607182418800017408] 3)
  refine (C1.out _ _ _ (HH.out.keeps hb0) (row1 w _ rfl)).mono ?_
  rintro _ w1 ⟨ao1, cap1, rfl, hR1, hb1⟩
  have hb01 := bel_trans hb0 hb1
  have hb2 := bel_alloc w1 (.cells #[.int .i64 4336966441157787648, .int .i64 4607182418800017408] 3)
  have hb02 := bel_trans hb01 hb2
  go_wp2_with fail
  refine (C2.out _ _ _ (HH.out.keeps hb02) (row2 w1 _ _ rfl)).mono ?_
  rintro _ w2 ⟨ao2, cap2, rfl, hb3⟩
  have hb03 := bel_trans hb02 hb3
  have hR2 := (hR1.keeps hb2).keeps hb3
  have hb4 := bel_alloc w2 (.cells #[.int .i64 4336966441157787648, .int .i64 4607182418800017408] 3)
  have CS := same_any _ _ _ _ _ _ _ _ _ (hR2.keeps hb4) (row2 w2 4336966441157787648 4607182418800017408 rfl)
  rw [xk_same] at CS
  go_wp2_with fail
  refine CS.mono ?_
  rintro _ w3 ⟨rfl, hb5⟩
  have hb05 := bel_trans (bel_trans hb03 hb4) hb5
  have CV := xvalid_any w3 ((hR2.keeps hb4).keeps hb5) (HH.out.keeps hb05)
  rw [xk_v5] at CV
  clear CS
  go_wp2_with fail
  refine CV.mono ?_
  rintro _ w4 ⟨rfl, hb6⟩
  go_wp2
  all_goals go_ret
  all_goals exact ⟨rfl, by first | exact bel_trans hb05 hb6 | exact (bel_trans hb05 hb6).drew⟩
end Go.Proofs.YtjlmpgbadgkgmaaGreatDoor

/-
  plumblaw7.is, by its contract.
-/
namespace Go.Proofs.YtjlmpgbadgkgmaaGreatDoor
open Go Go.RowKit Go.Proofs.YtjlmpgbadgkgmaaGreatDoor.M
set_option linter.unusedSimpArgs false
set_option linter.unusedVariables false

theorem LsO.outE {B : Nat} {w : World} {v : Value} {s : Ls} (h : LsO B w v s) : OutE B w v s.n s.d := by
  rcases h with h | ⟨h0, ad, rfl⟩
  · exact .inr h
  · exact .inl ⟨h0, some ad, rfl⟩
theorem OutE.nil (B : Nat) (w : World) (d : Nat → Int) : OutE B w (.slice none 0 0) 0 d := .inl ⟨rfl, none, rfl⟩
theorem OutE.congr {B : Nat} {w : World} {v : Value} {n : Nat} {d e : Nat → Int} (h : OutE B w v n d) (he : ∀ i, i < n → d i = e i) : OutE B w v n e := by
  rcases h with h | h
  · exact .inl h
  · exact .inr (h.congr he)
/-- is, of an error ahead of all steps. -/
theorem is7_err {k : Nat} {lo wo : Option Addr} {lc wn wc : Nat} {er f : Int} (w : World) (h0 : er ≠ 0) :
    Calls Tryz.prog 21 #[.pointer (some ⟨k, 0, none⟩), .slice lo 0 lc, .int .i64 er, .int .i64 er, .slice wo wn wc, .int .i64 f] w fun e w' => e = .returned (.bool true) ∧ w' = w := by
  have h1 : (er == 0) = false := by simpa using h0
  go_enter Tryz.func21, Tryz.ntmps21
  go_wp2
  all_goals go_ret
  all_goals exact ⟨rfl, rfl⟩
/-- is, of an answer. -/
theorem is7_add {B k : Nat} {w : World} {S : Nat → Prop} {l : Value} {xo : Option Addr} {t xc : Nat} {ld : Nat → Int} {er : Int} (h : KeptE B w k S) (hl : OutE B w l t ld) (hx : Rd B w xo t xc ld) (ht : t ≤ 100000) (hB : B ≤ w.heap.size) (hap : ∀ g, ownE l = some g → ¬ S g) :
    Calls Tryz.prog 21 #[.pointer (some ⟨k, 0, none⟩), l, .int .i64 er, .int .i64 0, .slice xo t xc, .int .i64 er] w fun e w' => e = .returned (.bool true) ∧ Ik B w w' ∧ KeptE B w' k (S2E S l w.heap.size) := by
  have CA := keep_E h hl hx ht hB hap
  obtain ⟨lo, lc, rfl, _⟩ := hl.row
  clear h hl hx hap
  go_enter Tryz.func21, Tryz.ntmps21
  go_wp2_with fail
  refine CA.mono ?_
  rintro _ w1 ⟨rfl, h1, h2⟩
  go_wp2
  go_ret
  exact ⟨rfl, h1, h2⟩
end Go.Proofs.YtjlmpgbadgkgmaaGreatDoor

/-
  Plain mathematics: which numbers in their one form are floats. No Go text in sight.
-/
namespace Go.Proofs.YtjlmpgbadgkgmaaGreatDoor
open Go Go.RowKit Go.Proofs.YtjlmpgbadgkgmaaGreatDoor.M
set_option linter.unusedSimpArgs false
set_option linter.unusedVariables false

end Go.Proofs.YtjlmpgbadgkgmaaGreatDoor

/-
  Package plumbref7, plainly: the ends of a float; lists that are added to from nothing.
-/
namespace Go.Proofs.YtjlmpgbadgkgmaaGreatDoor
open Go Go.RowKit Go.Proofs.YtjlmpgbadgkgmaaGreatDoor.M
set_option linter.unusedSimpArgs false
set_option linter.unusedVariables false

/-- The ends of a float: the worth of its lowest bit; the least power of 2 that is greater. -/
theorem ends_eq {b m e : Int} {ng : Bool} (hp : pok b = true) (h0 : pmag b ≠ 0) (h : Dy (sg (pneg b) (pmag b) * pw (pexp b)) ng m e) : e = pexp b + jz (pmag b) ∧ e + blen m = pexp b + blen (pmag b) ∧ 0 < m ∧ m < 9007199254740992 := by
  obtain ⟨i0, i1, i2, i3⟩ := pmag_in hp
  have hm : 0 < pmag b := by omega
  obtain ⟨k, hk, _, _⟩ := jz_spec hm (by omega)
  have hl : IsLow (pmag b) (jz (pmag b)) := ⟨k, by rw [Int.mul_comm]; exact hk⟩
  obtain ⟨c1, c2, c3⟩ := isLow_odd hl hm
  have hD := Dy.of (e := pexp b) (pneg b) hl hm (by omega)
  obtain ⟨_, rfl, rfl⟩ := h.unique hD
  have hle : pmag b / 2 ^ jz (pmag b) ≤ pmag b := Int.ediv_le_self _ (by omega)
  refine ⟨rfl, ?_, c1, by omega⟩
  obtain ⟨p1, p2⟩ := blen_pos c1
  have p3 := blen_lt (pmag b / 2 ^ jz (pmag b))
  have t := two_pos (jz (pmag b))
  have q1 : (2 : Int) ^ (blen (pmag b / 2 ^ jz (pmag b)) - 1) * 2 ^ jz (pmag b) ≤ pmag b / 2 ^ jz (pmag b) * 2 ^ jz (pmag b) := Int.mul_le_mul_of_nonneg_right p2 (by omega)
  have q2 : pmag b / 2 ^ jz (pmag b) * 2 ^ jz (pmag b) < 2 ^ blen (pmag b / 2 ^ jz (pmag b)) * 2 ^ jz (pmag b) := Int.mul_lt_mul_of_pos_right p3 t
  rw [c3, ← Int.pow_add] at q1 q2
  have := blen_of (k := blen (pmag b / 2 ^ jz (pmag b)) - 1 + jz (pmag b)) q1 (by rw [show blen (pmag b / 2 ^ jz (pmag b)) - 1 + jz (pmag b) + 1 = blen (pmag b / 2 ^ jz (pmag b)) + jz (pmag b) by omega]; exact q2)
  omega
/-- What is no nought, is none, by its class. -/
theorem cls_nought {b : Int} (hb : rng b) : cls b = 0 ↔ rg b = 0 := by
  have h1 := q_cls hb
  rw [← h1]
  constructor
  · intro h
    have hr := (q_rg hb).1
    have h0 : 0 ≤ rg b := (q_rg hb).2
    generalize rg b = r at *
    unfold rng at hr
    unfold cls fld frc at h
    split at h
    · split at h <;> omega
    · split at h
      · split at h
        · omega
        · omega
      · omega
  · intro h; rw [h]; decide
theorem Ls.same.refl (s : Ls) : s.same s := ⟨rfl, fun _ _ => rfl⟩
theorem Ls.same.symm {s t : Ls} (h : s.same t) : t.same s := ⟨h.1.symm, fun i hi => (h.2 i (by rw [h.1]; exact hi)).symm⟩
theorem Ls.same.trans {s t u : Ls} (h : s.same t) (k : t.same u) : s.same u := ⟨h.1.trans k.1, fun i hi => (h.2 i hi).trans (k.2 i (by rw [← h.1]; exact hi))⟩
/-- Grow hangs on the list's floats alone. -/
theorem gq_same {d f : Nat → Int} {q : Int} {n : Nat} (h : ∀ i, i < n → d i = f i) : ∀ k, k ≤ n → gq d q k = gq f q k
  | 0, _ => rfl
  | k + 1, hk => by
    show fsum (gq d q k) (d k) = fsum (gq f q k) (f k)
    rw [gq_same h k (by omega), h k (by omega)]
theorem gl_same {d f : Nat → Int} {q : Int} {n : Nat} (h : ∀ i, i < n → d i = f i) (k : Nat) (hk : k < n) : gl d q k = gl f q k := by
  unfold gl
  rw [gq_same h k (by omega), h k hk]
theorem gx_same {d f : Nat → Int} {q : Int} {n : Nat} (h : ∀ i, i < n → d i = f i) : ∀ k, k ≤ n → gx d q k = gx f q k
  | 0, _ => rfl
  | k + 1, hk => by
    show (gx d q k && pok (gl d q k)) = (gx f q k && pok (gl f q k))
    rw [gx_same h k (by omega), gl_same h k (by omega)]
theorem gs_same {d f : Nat → Int} {q : Int} {n : Nat} (h : ∀ i, i < n → d i = f i) : ∀ k, k ≤ n → (gs d q k).same (gs f q k)
  | 0, _ => ⟨rfl, fun i hi => absurd hi (Nat.not_lt_zero _)⟩
  | k + 1, hk => by
    show ((gs d q k).add (gl d q k)).same ((gs f q k).add (gl f q k))
    rw [gl_same h k (by omega)]
    exact (gs_same h k (by omega)).add _
theorem grw_same {d f : Nat → Int} {q : Int} {n : Nat} (h : ∀ i, i < n → d i = f i) : (grw n d q).same (grw n f q) := by
  unfold grw
  rw [gq_same h n (Nat.le_refl _)]
  exact (gs_same h n (Nat.le_refl _)).add _
theorem ss_same {s t : Ls} (h : s.same t) (d : Nat → Int) (b : Int) : ∀ k, (ss s d b k).same (ss t d b k)
  | 0 => h.add _
  | k + 1 => ((ss_same h d b k).add _).add _
theorem gaS_same {s t : Ls} (h : s.same t) {f g : Nat → Int} {m : Nat} (hf : ∀ i, i < m → f i = g i) : ∀ k, k ≤ m → (gaS s f k).same (gaS t g k) ∧ gaX s f k = gaX t g k
  | 0, _ => ⟨h, rfl⟩
  | k + 1, hk => by
    obtain ⟨h1, h2⟩ := gaS_same h hf k (by omega)
    rw [gaS_succ, gaS_succ, gaX_succ, gaX_succ, h2, hf k (by omega), ← h1.1, gx_same h1.2 _ (Nat.le_refl _)]
    exact ⟨grw_same h1.2, rfl⟩
theorem sclN_le (d : Nat → Int) (b : Int) : ∀ n, (sclN d b n).n ≤ 2 * n
  | 0 => Nat.le_refl _
  | n + 1 => by
    show (if rg b = 0 then (⟨0, fun _ => 0⟩ : Ls) else scl ⟨0, fun _ => 0⟩ d b n).n ≤ _
    split
    · exact Nat.zero_le _
    · have h1 := ss_le ⟨0, fun _ => 0⟩ d b n
      have h2 := ((ss ⟨0, fun _ => 0⟩ d b n).add_le (sq d b n)).2
      have h1' : (ss ⟨0, fun _ => 0⟩ d b n).n ≤ 0 + 2 * n + 1 := h1
      show ((ss ⟨0, fun _ => 0⟩ d b n).add (sq d b n)).n ≤ _
      omega
end Go.Proofs.YtjlmpgbadgkgmaaGreatDoor

/-
  Package plumbref7: row.add, row.answer, by their contracts.
-/
namespace Go.Proofs.YtjlmpgbadgkgmaaGreatDoor
open Go Go.RowKit Go.Proofs.YtjlmpgbadgkgmaaGreatDoor.M
set_option linter.unusedSimpArgs false
set_option linter.unusedVariables false

/-- A row as it lies: its list, and whether a step was not exact. -/
def RwB (w : World) (rb : Nat) (v : Value) (bad : Bool) : Prop := w.heap[rb]? = some (Obj.cells #[v, .bool bad] 55 (0, 0))
theorem RwB.lt {w : World} {rb : Nat} {v : Value} {bad : Bool} (h : RwB w rb v bad) : rb < w.heap.size := (Array.getElem?_eq_some_iff.1 h).1
theorem RwB.at {w : World} {rb : Nat} {v : Value} {bad : Bool} (h : RwB w rb v bad) : w.cell? ⟨rb, 0, none⟩ = some v ∧ w.cell? ⟨rb, 1, none⟩ = some (.bool bad) ∧ w.frozen? ⟨rb, 0, none⟩ = false ∧ w.frozen? ⟨rb, 1, none⟩ = false :=
  ⟨by rw [cell_of_row w rb 0 _ _ _ h]; rfl, by rw [cell_of_row w rb 1 _ _ _ h]; rfl, frozen_of_row w rb 0 _ _ h, frozen_of_row w rb 1 _ _ h⟩
theorem RwB.keeps {w w' : World} {rb : Nat} {v : Value} {bad : Bool} (h : RwB w rb v bad) (hb : Below w.heap.size w w') : RwB w' rb v bad := (hb.block rb h.lt).trans h
theorem RwB.below {B : Nat} {w w' : World} {rb : Nat} {v : Value} {bad : Bool} (h : RwB w rb v bad) (hb : Below B w w') (hB : rb < B) : RwB w' rb v bad := (hb.block rb hB).trans h
theorem RwB.set0 {w : World} {rb : Nat} {v : Value} {bad : Bool} (h : RwB w rb v bad) (u : Value) : RwB (w.setCell ⟨rb, 0, none⟩ u) rb u bad := by
  unfold RwB at *
  rw [heap_setCell_same w rb 0 _ _ _ h]; rfl
theorem RwB.set1 {w : World} {rb : Nat} {v : Value} {bad : Bool} (h : RwB w rb v bad) (u : Bool) : RwB (w.setCell ⟨rb, 1, none⟩ (.bool u)) rb v u := by
  unfold RwB at *
  rw [heap_setCell_same w rb 1 _ _ _ h]; rfl
theorem RwB.other {w : World} {rb ro : Nat} {v : Value} {bad : Bool} (h : RwB w rb v bad) (hne : rb ≠ ro) (o : Nat) (u : Value) : RwB (w.setCell ⟨ro, o, none⟩ u) rb v bad := (Below.heap_setCell _ _ _ _ hne).trans h
theorem Out.rw {B : Nat} {w : World} {x v : Value} {n rb : Nat} {d : Nat → Int} {bad : Bool} (h : Out B w x n d) (hr : RwB w rb v bad) (o : Nat) (u : Value) : Out B (w.setCell ⟨rb, o, none⟩ u) x n d :=
  h.of_block fun g hg => Below.heap_setCell _ _ _ _ fun e => by
    obtain ⟨cur, z, hc⟩ := h.typed hg
    have e' : g = rb := e
    subst e'
    unfold RwB at hr
    rw [hr] at hc
    simp at hc
theorem RwB.ne {B : Nat} {w : World} {x v : Value} {n rb : Nat} {d : Nat → Int} {bad : Bool} (hr : RwB w rb v bad) (h : Out B w x n d) : some rb ≠ x.ownBlock := fun e => by
  obtain ⟨cur, z, hc⟩ := h.typed e.symm
  unfold RwB at hr
  rw [hr] at hc
  simp at hc
set_option maxRecDepth 100000 in
set_option maxHeartbeats 1000000 in
theorem r7add_any {B rb : Nat} {v : Value} {bad : Bool} {s : Ls} {b : Int} (w : World) (hr : RwB w rb v bad) (hO : Out B w v s.n s.d) (hb : rng b) (hn : s.n ≤ 900000) (hB : B ≤ w.heap.size) (hrB : B ≤ rb) :
    Calls Tryz.prog 59 #[.pointer (some ⟨rb, 0, none⟩), .int .i64 b] w fun e w' => e = .returned (.tuple #[]) ∧ ∃ v', RwB w' rb v' bad ∧ Out B w' v' (s.add b).n (s.add b).d ∧ Below B w w' := by
  have CC := fun W => refClass b W hb
  have hcr := cls_nought hb
  obtain ⟨c0, c1, f0, f1⟩ := hr.at
  obtain ⟨vo, vc, rfl, hR⟩ := hO.row
  clear hR
  by_cases h0 : rg b = 0
  · have hc : cls b = 0 := hcr.2 h0
    have e : s.add b = s := by unfold Ls.add; rw [if_pos h0]
    rw [hc] at CC
    rw [e]
    go_enter Tryz.func59, Tryz.ntmps59
    go_wp2_with fail
    refine (CC _).mono ?_
    rintro _ _ ⟨rfl, rfl⟩
    go_wp2
    exact ⟨rfl, .tuple #[], (by simp [results, Tryz.results59, go_sem]), rfl, _, hr, hO, Below.refl _ _⟩
  · have hc : (cls b == 0) = false := by
      have : ¬ cls b = 0 := fun q => h0 (hcr.1 q)
      simpa using this
    have e : s.add b = ⟨s.n + 1, upd s.d s.n b⟩ := by unfold Ls.add; rw [if_neg h0]
    rw [e]
    clear hcr
    have HR : Hid (RwB w rb (.slice vo s.n vc) bad) := hr
    have HO : Hid (Out B w (.slice vo s.n vc) s.n s.d) := hO
    clear hr hO
    generalize cls b = c at *
    go_enter Tryz.func59, Tryz.ntmps59
    go_wp2_with fail
    refine (CC _).mono ?_
    rintro _ _ ⟨rfl, rfl⟩
    rename_i w
    go_wp2_with (at_builtin
                 refine wpList_app rfl _ _ rfl B _ s.n s.d rfl (HO.out.stays (bel_alloc _ _)) _ 1 1 (fun _ => b) rfl (row1 _ _ rfl) (by omega) (by simp; omega) ?_
                 intro v' w1 hO1 hg1
                 have hr1 : RwB w1 rb (.slice vo s.n vc) bad := (hg1.block rb (by have := HR.out.lt; simp; omega) (HR.out.ne HO.out)).trans (HR.out.keeps (bel_alloc _ _))
                 obtain ⟨d0, d1, g0, g1⟩ := hr1.at
                 obtain ⟨vo', vc', rfl, _⟩ := hO1.row)
    refine ⟨rfl, .tuple #[], (by simp [results, Tryz.results59, go_sem]), rfl, _, hr1.set0 _, (Out.rw hO1 hr1 _ _).congr fun i hi => ?_, ?_⟩
    · by_cases e : i < s.n
      · simp [cat, e, upd_other s.d _ (show i ≠ s.n by omega)]
      · obtain rfl : i = s.n := by omega
        simp [cat, upd_same]
    · refine Below.setCell ?_ hrB _
      exact ((Below.refl B _).alloc hB _).grown hg1 (by simp; omega) (own_ge HO.out)
set_option maxRecDepth 100000 in
theorem r7answer_bad {rb : Nat} {v : Value} (w : World) (hr : RwB w rb v true) :
    Calls Tryz.prog 36 #[.pointer (some ⟨rb, 0, none⟩)] w fun e w' => e = .returned (.tuple #[.slice none 0 0, .int .i64 14]) ∧ w' = w := by
  obtain ⟨c0, c1, f0, f1⟩ := hr.at
  clear hr
  go_enter Tryz.func36, Tryz.ntmps36
  go_wp2
  refine bodyPost_ret (v := .tuple #[.slice none 0 0, .int .i64 14]) (by simp [results, Tryz.results36, go_sem]) rfl ⟨rfl, rfl⟩
set_option maxRecDepth 100000 in
theorem r7answer_ok {rb n vc : Nat} {vo : Option Addr} (w : World) (hr : RwB w rb (.slice vo n vc) false) (hn : n ≤ 4096) :
    Calls Tryz.prog 36 #[.pointer (some ⟨rb, 0, none⟩)] w fun e w' => e = .returned (.tuple #[.slice vo n vc, .int .i64 0]) ∧ w' = w := by
  obtain ⟨c0, c1, f0, f1⟩ := hr.at
  clear hr
  go_enter Tryz.func36, Tryz.ntmps36
  go_wp2
  refine bodyPost_ret (v := .tuple #[.slice vo n vc, .int .i64 0]) (by simp [results, Tryz.results36, go_sem]) rfl ⟨rfl, rfl⟩
end Go.Proofs.YtjlmpgbadgkgmaaGreatDoor

/-
  Plain mathematics of the document's rounding (plumbref4.Cut): what is kept, the half, the rest; the rung that it tells. No Go text in sight.
-/
namespace Go.Proofs.YtjlmpgbadgkgmaaGreatDoor
open Go Go.Proofs.YtjlmpgbadgkgmaaGreatDoor.M
set_option linter.unusedSimpArgs false
set_option linter.unusedVariables false

/-- The half: the bit below the last one that is kept. -/
def cH (M : Nat) (low : Int) : Bool := decide (0 < low) && bitB M (low - 1).toNat
/-- The rest below it. -/
def cR (M : Nat) (more : Bool) (low : Int) : Bool := more || (decide (1 < low) && decide (M % 2 ^ (low - 1).toNat ≠ 0))
theorem cut_left {M : Nat} {more : Bool} {low : Int} (hc : more = true → 0 < low) : rL M more low = if cH M low then (if cR M more low then 3 else 2) else (if cR M more low then 1 else 0) := by
  by_cases h : low ≤ 0
  · have hm : more = false := by
      cases more
      · rfl
      · have := hc rfl; omega
    unfold rL cH cR
    rw [if_pos h, decide_eq_false (show ¬ 0 < low by omega), decide_eq_false (show ¬ 1 < low by omega), hm]
    rfl
  · obtain ⟨s, rfl⟩ : ∃ s : Nat, low = (s : Int) + 1 := ⟨(low - 1).toNat, by omega⟩
    have e1 : ((s : Int) + 1 - 1).toNat = s := by omega
    have e2 : ((s : Int) + 1).toNat = s + 1 := by omega
    unfold rL cH cR
    rw [if_neg h, e1, e2, decide_eq_true (show (0 : Int) < (s : Int) + 1 by omega), Bool.true_and]
    have hb : bitB (M : Int) s = decide (M / 2 ^ s % 2 = 1) := by
      unfold bitB
      have : (M : Int) / 2 ^ s % 2 = ((M / 2 ^ s % 2 : Nat) : Int) := by simp
      rw [this]
      rcases Nat.mod_two_eq_zero_or_one (M / 2 ^ s) with q | q <;> rw [q] <;> rfl
    rw [hb]
    have hs : M % 2 ^ (s + 1) = M / 2 ^ s % 2 * 2 ^ s + M % 2 ^ s := by
      rw [Nat.pow_succ, Nat.mod_mul]
      rw [Nat.mul_comm, Nat.add_comm]
    have hr : (decide ((1 : Int) < (s : Int) + 1) && decide (M % 2 ^ s ≠ 0)) = decide (M % 2 ^ s ≠ 0) := by
      cases s with
      | zero => simp [Nat.mod_one]
      | succ k => rw [decide_eq_true (show (1 : Int) < ((k + 1 : Nat) : Int) + 1 by omega), Bool.true_and]
    rw [hr, hs, Nat.pow_succ]
    have hlt := Nat.mod_lt M (Nat.two_pow_pos s)
    generalize M % 2 ^ s = t at *
    generalize 2 ^ s = q at *
    rcases Nat.mod_two_eq_zero_or_one (M / q) with p | p
    · rw [p]
      cases more
      · by_cases t0 : t = 0
        · simp [t0]
        · simp [t0]
          omega
      · simp
        omega
    · rw [p]
      cases more
      · by_cases t0 : t = 0
        · subst t0
          simp
          omega
        · simp [t0]
          omega
      · simp
        omega
/-- The rest, by the lowest bit. -/
theorem rest_low {M : Nat} {l : Int} {s : Nat} (h : LowA M l) (h0 : M ≠ 0) : (0 ≤ l ∧ l < s) ↔ M % 2 ^ s ≠ 0 := by
  rcases h with ⟨h, _⟩ | ⟨k, rfl, m, hm⟩
  · omega
  · have hm0 : 0 ≤ m := by
      rcases Int.lt_or_le m 0 with q | q
      · have h2 := two_pos k
        have : (2 * m + 1) * 2 ^ k < 0 := Int.mul_neg_of_neg_of_pos (by omega) h2
        omega
      · exact q
    obtain ⟨c, rfl⟩ := Int.eq_ofNat_of_zero_le hm0
    have hM : M = (2 * c + 1) * 2 ^ k := by
      have : ((M : Nat) : Int) = (((2 * c + 1) * 2 ^ k : Nat) : Int) := by rw [hm]; push_cast; rfl
      exact Int.ofNat.inj this
    constructor
    · rintro ⟨_, hk⟩ hz
      obtain ⟨j, rfl⟩ : ∃ j, s = k + (j + 1) := ⟨s - k - 1, by omega⟩
      have hd : 2 ^ (k + (j + 1)) ∣ (2 * c + 1) * 2 ^ k := by rw [← hM]; exact Nat.dvd_of_mod_eq_zero hz
      rw [Nat.pow_add, Nat.mul_comm (2 * c + 1)] at hd
      have hd2 := Nat.dvd_of_mul_dvd_mul_left (Nat.two_pow_pos k) hd
      obtain ⟨x, hx⟩ := hd2
      rw [Nat.pow_succ, Nat.mul_assoc, Nat.mul_left_comm] at hx
      omega
    · intro hz
      refine ⟨by omega, ?_⟩
      rcases Int.lt_or_le (k : Int) s with q | q
      · exact q
      · exfalso
        apply hz
        obtain ⟨j, rfl⟩ : ∃ j, k = s + j := ⟨k - s, by omega⟩
        rw [hM, Nat.pow_add, Nat.mul_left_comm]
        exact Nat.mul_mod_right _ _
/-- The exponent of the last bit that is kept. -/
def cE (sz lowE : Int) (M : Nat) (exp : Int) : Int := max ((blen M : Int) + exp - sz) lowE
theorem blen_two {M : Nat} (h0 : M ≠ 0) : 1 ≤ blen M ∧ 2 ^ (blen M - 1) ≤ M ∧ M < 2 ^ blen M := by
  obtain ⟨h1, h2⟩ := blen_pos (V := (M : Int)) (by omega)
  have h3 := blen_lt (M : Int)
  refine ⟨h1, ?_, ?_⟩
  · have : ((2 ^ (blen M - 1) : Nat) : Int) ≤ (M : Int) := by simpa using h2
    exact Int.ofNat_le.1 this
  · have : (M : Int) < ((2 ^ blen M : Nat) : Int) := by simpa using h3
    exact Int.ofNat_lt.1 this
theorem cU_bits {sz lowE : Int} {M : Nat} {exp : Int} (hs : 0 < sz) (h0 : M ≠ 0) : rU M (cE sz lowE M exp - exp) < 2 ^ sz.toNat ∧ (lowE < cE sz lowE M exp → 2 ^ (sz.toNat - 1) ≤ rU M (cE sz lowE M exp - exp)) := by
  obtain ⟨b0, b1, b2⟩ := blen_two h0
  obtain ⟨n, hn⟩ : ∃ n, blen M = n := ⟨_, rfl⟩
  obtain ⟨z, rfl⟩ : ∃ z : Nat, sz = z := ⟨sz.toNat, by omega⟩
  unfold cE rU
  rw [hn] at b0 b1 b2 ⊢
  rw [Int.toNat_natCast]
  obtain ⟨e, he⟩ : ∃ e, max ((n : Int) + exp - (z : Int)) lowE = e := ⟨_, rfl⟩
  have he1 : (n : Int) + exp - z ≤ e := by omega
  have he2 : lowE < e → e = n + exp - z := by omega
  rw [he]
  by_cases hse : e - exp ≤ 0
  · rw [if_pos hse]
    obtain ⟨k, hk⟩ : ∃ k, (-(e - exp)).toNat = k := ⟨_, rfl⟩
    rw [hk]
    refine ⟨?_, fun hl => ?_⟩
    · calc M * 2 ^ k < 2 ^ n * 2 ^ k := Nat.mul_lt_mul_of_pos_right b2 (Nat.two_pow_pos k)
        _ = 2 ^ (n + k) := by rw [Nat.pow_add]
        _ ≤ 2 ^ z := Nat.pow_le_pow_right (by decide) (by omega)
    · have := he2 hl
      calc 2 ^ (z - 1) ≤ 2 ^ (n - 1 + k) := Nat.pow_le_pow_right (by decide) (by omega)
        _ = 2 ^ (n - 1) * 2 ^ k := by rw [Nat.pow_add]
        _ ≤ M * 2 ^ k := Nat.mul_le_mul_right _ b1
  · rw [if_neg hse]
    obtain ⟨k, hk⟩ : ∃ k, (e - exp).toNat = k := ⟨_, rfl⟩
    rw [hk]
    refine ⟨?_, fun hl => ?_⟩
    · rw [Nat.div_lt_iff_lt_mul (Nat.two_pow_pos k), ← Nat.pow_add]
      exact Nat.lt_of_lt_of_le b2 (Nat.pow_le_pow_right (by decide) (by omega))
    · have := he2 hl
      rw [Nat.le_div_iff_mul_le (Nat.two_pow_pos k), ← Nat.pow_add]
      exact Nat.le_trans (Nat.pow_le_pow_right (by decide) (by omega)) b1
/-- The units that are told, raised or not. -/
def cU (sz lowE way : Int) (ng : Bool) (M : Nat) (exp : Int) (more : Bool) : Nat :=
  rU M (cE sz lowE M exp - exp) + (if rUp way ng (decide (rU M (cE sz lowE M exp - exp) % 2 = 1)) (rL M more (cE sz lowE M exp - exp)) then 1 else 0)
/-- Is it too great? -/
def cO (sz lowE high way : Int) (ng : Bool) (M : Nat) (exp : Int) (more : Bool) : Bool :=
  decide (2 ^ (sz.toNat - 1) ≤ cU sz lowE way ng M exp more) && decide (high < (blen (cU sz lowE way ng M exp more) : Int) + cE sz lowE M exp)
/-- The sign's worth in a pattern. -/
def cS (sgn : Int) (ng : Bool) : Int := if ng then sgn else 0
theorem cut_spec {way : Int} {ng : Bool} {A : Int} {M : Nat} {exp : Int} {more : Bool} (hA : Held A M exp more) (h0 : M ≠ 0) (he : -4194304 ≤ exp) (hc : more = true → 2 ^ 60 ≤ M) :
    ∃ (r0 : Nat) (left : Int), Rung A r0 left ∧ (if cO 53 (-1074) 1024 way ng M exp more then cS (-9223372036854775808) ng + (if rUp way ng true 3 then 9218868437227405312 else 9218868437227405311) else cS (-9223372036854775808) ng + jp false (cU 53 (-1074) way ng M exp more) (cE 53 (-1074) M exp)) = patS ng (rTo way ng r0 left) ∧
      (cO 53 (-1074) 1024 way ng M exp more || (decide (rL M more (cE 53 (-1074) M exp - exp) ≠ 0))) = (decide (left ≠ 0) || decide (9218868437227405312 ≤ (r0 : Int))) := by
  obtain ⟨b0, b1, b2⟩ := blen_two h0
  have hbits := cU_bits (sz := 53) (lowE := -1074) (exp := exp) (by decide) h0
  have hE1 : -1074 ≤ cE 53 (-1074) M exp := by unfold cE; omega
  have hcs : more = true → 0 < cE 53 (-1074) M exp - exp := fun h => by
    have h1 := hc h
    have h2 : 60 < blen M := by
      have := (Nat.pow_lt_pow_iff_right (by decide : 1 < 2)).1 (Nat.lt_of_le_of_lt h1 b2)
      exact this
    unfold cE
    omega
  have hL := left_of hA hcs (by omega) he
  unfold cO cU
  obtain ⟨E, hE⟩ : ∃ E, cE 53 (-1074) M exp = E := ⟨_, rfl⟩
  rw [hE] at hbits hE1 hL ⊢
  obtain ⟨u, hu⟩ : ∃ u, rU M (E - exp) = u := ⟨_, rfl⟩
  obtain ⟨left, hl⟩ : ∃ l, rL M more (E - exp) = l := ⟨_, rfl⟩
  rw [hu] at hbits hL ⊢
  rw [hl] at hL ⊢
  obtain ⟨a, ha⟩ : ∃ a, (E - -1074).toNat = a := ⟨_, rfl⟩
  have e53 : (2 : Nat) ^ (53 : Int).toNat = 9007199254740992 := by decide
  have e52 : (2 : Nat) ^ ((53 : Int).toNat - 1) = 4503599627370496 := by decide
  rw [e53, e52] at hbits
  rw [e52]
  have eB : Ieee.double.binade = 4503599627370496 := by decide
  have hV := V_rung Ieee.double a u (by rw [eB]; omega) (fun h => by rw [eB]; exact hbits.2 (by omega))
  rw [eB] at hV
  have hpw : pw E = 2 ^ a * pw (-1074) := by rw [pw_sub (e := E) (low := -1074) (by decide) hE1, ha]
  rw [hpw] at hL
  refine ⟨a * 4503599627370496 + u, left, left_rung hL hV.1 hV.2, ?_⟩
  have hodd : decide ((a * 4503599627370496 + u) % 2 = 1) = decide (u % 2 = 1) := by congr 1; apply propext; omega
  unfold rTo
  rw [hodd]
  obtain ⟨R, hR⟩ : ∃ R, rUp way ng (decide (u % 2 = 1)) left = R := ⟨_, rfl⟩
  rw [hR]
  obtain ⟨U, hU⟩ : ∃ U, u + (if R = true then 1 else 0) = U := ⟨_, rfl⟩
  rw [hU]
  have hR1 : R = true → left ≠ 0 := fun h hz => by rw [hz, h] at hR; exact rUp_left hR
  have hR2 : R = true → rUp way ng true 3 = true := fun h => rUp_more (hR.trans h)
  have hUle : U ≤ 9007199254740992 := by rw [← hU]; split <;> omega
  have hcast : ((a * 4503599627370496 + u : Nat) : Int) + (if R = true then 1 else 0) = ((a * 4503599627370496 + U : Nat) : Int) := by
    rw [← hU]
    cases R <;> simp only [if_true, if_false, Bool.false_eq_true] <;> omega
  rw [hcast]
  have huU : u ≤ U := by rw [← hU]; omega
  have hO : (decide (4503599627370496 ≤ U) && decide (1024 < (blen (U : Int) : Int) + E)) = decide (9218868437227405312 ≤ ((a * 4503599627370496 + U : Nat) : Int)) := by
    have hsub : U < 4503599627370496 → a = 0 := fun h => by
      rcases Nat.eq_zero_or_pos a with q | q
      · exact q
      · have := hbits.2 (by omega); omega
    have hEa : E = (a : Int) - 1074 := by omega
    by_cases c1 : 4503599627370496 ≤ U
    · rw [decide_eq_true c1, Bool.true_and]
      by_cases c2 : U = 9007199254740992
      · have : blen (U : Int) = 54 := blen_of (k := 53) (by rw [show (2 : Int) ^ 53 = 9007199254740992 from rfl]; omega) (by rw [show (2 : Int) ^ (53 + 1) = 18014398509481984 from rfl]; omega)
        rw [this]
        congr 1
        apply propext
        omega
      · have : blen (U : Int) = 53 := blen_of (k := 52) (by rw [show (2 : Int) ^ 52 = 4503599627370496 from rfl]; omega) (by rw [show (2 : Int) ^ (52 + 1) = 9007199254740992 from rfl]; omega)
        rw [this]
        congr 1
        apply propext
        omega
    · rw [decide_eq_false c1, Bool.false_and]
      have := hsub (by omega)
      symm
      rw [decide_eq_false]
      omega
  rw [hO]
  by_cases hf : ((a * 4503599627370496 + U : Nat) : Int) < 9218868437227405312
  · have hf0 : ((a * 4503599627370496 + u : Nat) : Int) < 9218868437227405312 := by omega
    rw [decide_eq_false (show ¬ 9218868437227405312 ≤ ((a * 4503599627370496 + U : Nat) : Int) by omega), if_neg (by decide), if_pos hf0, decide_eq_false (p := 9218868437227405312 ≤ ((a * 4503599627370496 + u : Nat) : Int)) (by omega), Bool.or_false, Bool.false_or]
    refine ⟨?_, rfl⟩
    have hjp : jp false (U : Int) E = ((a * 4503599627370496 + U : Nat) : Int) := by
      by_cases hU0 : U = 0
      · have hu0 : u = 0 := by omega
        have ha0 : a = 0 := by
          rcases Nat.eq_zero_or_pos a with h | h
          · exact h
          · have := hbits.2 (by omega); omega
        subst hU0 ha0
        rfl
      · have hjr := join_rung Ieee.double 52 (by decide) dB 2047 (-1074) (by decide) U E (by omega) (by rw [show (2 : Nat) ^ (52 + 1) = 9007199254740992 by decide]; exact hUle) hE1 (fun h => by rw [show (2 : Nat) ^ 52 = 4503599627370496 by decide]; have := hbits.2 h; omega)
        simp only at hjr
        rw [ha, show (2 : Nat) ^ 52 = 4503599627370496 by decide, show (2047 : Int) * 2 ^ 52 = 9218868437227405312 by decide] at hjr
        obtain ⟨j1, j2⟩ := hjr
        rw [show jk ((52 : Nat) : Int) 2047 (-1074) (U : Int) E = jk 52 2047 (-1074) (U : Int) E from rfl, decide_eq_true hf] at j1
        have hjv := j2 hf
        rw [show jv ((52 : Nat) : Int) 2047 (-1074) (U : Int) E = jv 52 2047 (-1074) (U : Int) E from rfl] at hjv
        unfold jp
        rw [j1, hjv]
        rfl
    rw [hjp]
    unfold cS patS
    cases ng <;> simp <;> omega
  · rw [decide_eq_true (show 9218868437227405312 ≤ ((a * 4503599627370496 + U : Nat) : Int) by omega), if_pos rfl, Bool.true_or]
    by_cases hf0 : ((a * 4503599627370496 + u : Nat) : Int) < 9218868437227405312
    · have hRt : R = true := by
        cases R
        · exfalso; simp at hU; omega
        · rfl
      have hUe : ((a * 4503599627370496 + U : Nat) : Int) = 9218868437227405312 := by rw [hRt] at hU; simp at hU; omega
      rw [if_pos hf0, hUe, decide_eq_true (hR1 hRt), Bool.true_or, hR2 hRt, if_pos rfl]
      refine ⟨?_, rfl⟩
      unfold cS patS
      cases ng <;> simp
    · rw [if_neg hf0, decide_eq_true (p := 9218868437227405312 ≤ ((a * 4503599627370496 + u : Nat) : Int)) (by omega), Bool.or_true]
      refine ⟨?_, rfl⟩
      unfold cS patS bRung
      cases ng <;> simp <;> split <;> omega
end Go.Proofs.YtjlmpgbadgkgmaaGreatDoor

/-
  The document's own Join and Join32: the two loops of shifted, then the pattern; by contracts over the same plain functions as package bits' join.
-/
namespace Go.Proofs.YtjlmpgbadgkgmaaGreatDoor
open Go Go.RowKit Go.Proofs.YtjlmpgbadgkgmaaGreatDoor.M
set_option linter.unusedSimpArgs false
set_option linter.unusedVariables false

theorem keepRef {p : Prop} (h : p) : Hid p := h
theorem go_int {k : IntKind} {a b : Int} (h : a = b) : Value.int k a = .int k b := by rw [h]
set_option maxHeartbeats 1000000 in
theorem shifted64 (mag exp : Int) (w : World) (h0 : 0 < mag) (h : mag < 9223372036854775808) (e0 : -2000 ≤ exp) (e1 : exp ≤ 2000) :
    Calls Tryz.prog 115 #[.int .i64 mag, .int .i64 exp, .int .i64 (-1074), .int .i64 53] w fun e w' => e = .returned (.tuple #[.int .i64 (sm 52 (-1074) mag exp), .int .i64 (se 52 (-1074) mag exp), .bool (sk 52 (-1074) mag exp)]) ∧ w' = w := by
  have hj := jo_le h0 h
  have hL := jl_le h0 h
  have hz63 : jz mag < 63 := by obtain ⟨_, _, a, _⟩ := jz_spec h0 h; exact a
  have hodd := halved_end h0 h
  go_enter Tryz.func115, Tryz.ntmps115
  go_wp2
  go_loop [0, 1] (fun a b => ∃ k : Nat, k ≤ jz mag ∧ a = .int .i64 (mag / 2 ^ k) ∧ b = .int .i64 (exp + k)) (fun _ b => (exp + jz mag - intOf b).toNat)
  case atStart => exact ⟨0, Nat.zero_le _, by simp, by simp⟩
  case round =>
    obtain ⟨k, hk, rfl, rfl⟩ := hrel
    by_cases hlt : k < jz mag
    · obtain ⟨a1, a2, a3, a4⟩ := halved h0 h k hlt
      have b1 : (mag / 2 ^ k % 2 == 0) = true := by simp [a1]
      have A2 := keepRef a2
      clear a2 a1
      go_wp2
      go_round
      case rel => exact ⟨k + 1, hlt, go_int A2.out, go_int (by omega)⟩
      case measure => simp [intOf]; omega
    · have hke : k = jz mag := by omega
      subst hke
      have eo : mag / 2 ^ jz mag = jo mag := rfl
      have b1 : (jo mag % 2 == 0) = false := by simp [hodd]
      have hd0 := doubled (fr := 53) h0 h (by omega) 0
      have hd1 : jo mag < 9007199254740992 ↔ 0 ≤ jsp 52 mag := by
        have e : jo mag * 2 ^ 0 = jo mag := by simp
        rw [e, show (2 : Int) ^ (53 : Int).toNat = 9007199254740992 by decide] at hd0
        rw [hd0]; unfold jsp; omega
      clear hd0 hodd
      by_cases s1 : jo mag < 9007199254740992
      · have sp := hd1.1 s1
        clear hd1
        by_cases s2 : exp + jz mag < -1074
        · have hk : Hid (sk 52 (-1074) mag exp = false) := by unfold Hid sk; simp; omega
          go_wp2
          go_ret3
          exact ⟨ret_ttt (by simp [sm, hk.out]) (by simp [se, hk.out]) (by simp [hk.out]), rfl⟩
        · have hk : Hid (sk 52 (-1074) mag exp = true) := by unfold Hid sk; simp; omega
          obtain ⟨s, hs⟩ : ∃ s : Nat, jsh 52 (-1074) mag exp = (s : Int) := ⟨(jsh 52 (-1074) mag exp).toNat, by unfold jsh; omega⟩
          have hs' : Hid (jsh 52 (-1074) mag exp = (s : Int)) := hs
          have hsd : Hid ((s : Int) = min (jsp 52 mag) (exp + jz mag + 1074)) := by unfold Hid; rw [← hs]; unfold jsh; omega
          clear hs
          go_wp2
          go_loop [0, 1] (fun a b => ∃ j : Nat, j ≤ s ∧ a = .int .i64 (jo mag * 2 ^ j) ∧ b = .int .i64 (exp + jz mag - j)) (fun _ b => (intOf b + 1074).toNat)
          case atStart => exact ⟨0, Nat.zero_le _, by simp, by simp⟩
          case round =>
            obtain ⟨j, hjs, rfl, rfl⟩ := hrel
            have hd := doubled (fr := 52) h0 h (by omega) j
            rw [show (2 : Int) ^ (52 : Int).toNat = 4503599627370496 by decide] at hd
            have hb := jshift_lt (fr := 52) h0 h (by omega) j (by have := hsd.out; omega)
            have hb1 := hb.1
            have hb2 : jo mag * 2 ^ j < 9007199254740992 := hb.2
            clear hb
            by_cases hlt : j < s
            · have c1 : jo mag * 2 ^ j < 4503599627370496 := hd.2 (by have := hsd.out; omega)
              have c2 : -1074 < exp + jz mag - j := by have := hsd.out; omega
              have e2 : Hid (jo mag * 2 ^ j + jo mag * 2 ^ j = jo mag * 2 ^ (j + 1)) := by
                unfold Hid; rw [Int.pow_succ, ← Int.mul_assoc]; omega
              clear hd
              go_wp2
              go_round
              case rel => exact ⟨j + 1, hlt, go_int e2.out, go_int (by omega)⟩
              case measure => simp [intOf]; omega
            · have hje : j = s := by omega
              subst hje
              have fin : ¬ (-1074 < exp + jz mag - j ∧ jo mag * 2 ^ j < 4503599627370496) := by
                rw [hd]; have := hsd.out; omega
              clear hd
              by_cases c2 : -1074 < exp + jz mag - j
              all_goals
                go_wp2
                go_ret3
                exact ⟨ret_ttt (by simp [sm, hk.out, hs'.out]) (by simp [se, hk.out, hs'.out]) (by simp [hk.out]), rfl⟩
      · have hk : Hid (sk 52 (-1074) mag exp = false) := by unfold Hid sk; simp; omega
        clear hd1
        go_wp2
        go_ret3
        exact ⟨ret_ttt (by simp [sm, hk.out]) (by simp [se, hk.out]) (by simp [hk.out]), rfl⟩
set_option maxHeartbeats 1000000 in
theorem refJoin (neg : Bool) (mag exp : Int) (w : World) (hm : rng mag) (he : rng exp) :
    Calls Tryz.prog 102 #[.bool neg, .int .i64 mag, .int .i64 exp] w fun e w' => e = .returned (.tuple #[.int .i64 (jp neg mag exp), .bool (jk 52 2047 (-1074) mag exp)]) ∧ w' = w := by
  unfold rng at hm he
  rcases Int.lt_trichotomy mag 0 with h | h | h
  · have hk : Hid (jk 52 2047 (-1074) mag exp = false) := by unfold Hid jk; rw [if_pos h]
    have hv : Hid (jp neg mag exp = 0) := by unfold Hid jp; rw [hk.out]; simp [jv]; omega
    cases neg
    all_goals
      go_enter Tryz.func102, Tryz.ntmps102
      go_wp2
      go_ret2
      exact ⟨ret_ib hv.out.symm hk.out.symm, rfl⟩
  · subst h
    cases neg
    all_goals
      go_enter Tryz.func102, Tryz.ntmps102
      go_wp2
      all_goals go_ret2
      all_goals exact ⟨ret_ib (by simp [jp, jk, jv]) (by simp [jk]), rfl⟩
  · have hn : (mag == 0) = false := by simp; omega
    by_cases f1 : 2000 < exp
    · have hg := jgood_far h hm.2 (exp := exp) (by omega)
      have hk : Hid (jk 52 2047 (-1074) mag exp = false) := by unfold Hid jk; rw [if_neg (by omega), if_neg (by omega), hg]
      have hv : Hid (jp neg mag exp = 0) := by unfold Hid jp; rw [hk.out]; simp [jv, hg]
      clear hg
      cases neg
      all_goals
        go_enter Tryz.func102, Tryz.ntmps102
        go_wp2
        go_ret2
        exact ⟨ret_ib hv.out.symm hk.out.symm, rfl⟩
    · by_cases f2 : exp < -2000
      · have hg := jgood_near h hm.2 f2
        have hk : Hid (jk 52 2047 (-1074) mag exp = false) := by unfold Hid jk; rw [if_neg (by omega), if_neg (by omega), hg]
        have hv : Hid (jp neg mag exp = 0) := by unfold Hid jp; rw [hk.out]; simp [jv, hg]
        clear hg
        cases neg
        all_goals
          go_enter Tryz.func102, Tryz.ntmps102
          go_wp2
          go_ret2
          exact ⟨ret_ib hv.out.symm hk.out.symm, rfl⟩
      · have hgs := jgood_sk mag exp
        by_cases g1 : sk 52 (-1074) mag exp = true
        · by_cases g2 : se 52 (-1074) mag exp ≤ 971
          · obtain ⟨b1, b2, b3, b4⟩ := jv_sm h hm.2 g1 g2
            have hk : Hid (jk 52 2047 (-1074) mag exp = true) := by unfold Hid jk; rw [if_neg (by omega), if_neg (by omega), hgs, g1]; simpa using g2
            have hv : Hid (jv 52 2047 (-1074) mag exp = (if sm 52 (-1074) mag exp < 4503599627370496 then sm 52 (-1074) mag exp else (se 52 (-1074) mag exp + 1075) * 4503599627370496 + sm 52 (-1074) mag exp - 4503599627370496)) := b4
            clear b4 hgs
            by_cases g3 : sm 52 (-1074) mag exp < 4503599627370496
            all_goals
              cases neg
              all_goals
                go_enter Tryz.func102, Tryz.ntmps102
                go_wp2_with (go_at_call 115; refine (shifted64 mag exp _ h hm.2 (by omega) (by omega)).mono ?_; rintro e w1 ⟨rfl, rfl⟩)
                go_ret2
                refine ⟨ret_ib ?_ hk.out.symm, rfl⟩
                unfold jp
                rw [hk.out, hv.out]
                simp
                omega
          · have hg : jgood 52 2047 (-1074) mag exp = false := by rw [hgs, g1]; simpa using g2
            have hk : Hid (jk 52 2047 (-1074) mag exp = false) := by unfold Hid jk; rw [if_neg (by omega), if_neg (by omega), hg]
            have hv : Hid (jp neg mag exp = 0) := by unfold Hid jp; rw [hk.out]; simp [jv, hg]
            clear hg hgs
            cases neg
            all_goals
              go_enter Tryz.func102, Tryz.ntmps102
              go_wp2_with (go_at_call 115; refine (shifted64 mag exp _ h hm.2 (by omega) (by omega)).mono ?_; rintro e w1 ⟨rfl, rfl⟩)
              go_ret2
              exact ⟨ret_ib hv.out.symm hk.out.symm, rfl⟩
        · have g1' : sk 52 (-1074) mag exp = false := by simpa using g1
          have hg : jgood 52 2047 (-1074) mag exp = false := by rw [hgs, g1']; rfl
          have hk : Hid (jk 52 2047 (-1074) mag exp = false) := by unfold Hid jk; rw [if_neg (by omega), if_neg (by omega), hg]
          have hv : Hid (jp neg mag exp = 0) := by unfold Hid jp; rw [hk.out]; simp [jv, hg]
          clear hg hgs g1
          cases neg
          all_goals
            go_enter Tryz.func102, Tryz.ntmps102
            go_wp2_with (go_at_call 115; refine (shifted64 mag exp _ h hm.2 (by omega) (by omega)).mono ?_; rintro e w1 ⟨rfl, rfl⟩)
            go_ret2
            exact ⟨ret_ib hv.out.symm hk.out.symm, rfl⟩
end Go.Proofs.YtjlmpgbadgkgmaaGreatDoor

/-
  Package plumbref3: Valid, Neg, Sign, by contracts.
-/
namespace Go.Proofs.YtjlmpgbadgkgmaaGreatDoor
open Go Go.RowKit Go.Proofs.YtjlmpgbadgkgmaaGreatDoor.M
set_option linter.unusedSimpArgs false
set_option linter.unusedVariables false

end Go.Proofs.YtjlmpgbadgkgmaaGreatDoor
