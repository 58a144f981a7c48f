/-
  Parts of the proof, one behind another.
-/
import Derived.Test.YtmghplbmfjhkcaaDoorPart11
import Derived.Test.YtmghplbmfjhkcaaDoorPart3
import Derived.Test.YtmghplbmfjhkcaaDoorPart10
import Derived.Test.YtmghplbmfjhkcaaDoorPart1
import Derived.Test.YtmghplbmfjhkcaaDoorPart6
/-
  The steps of package eft at the constants of plumblaw7's laws.
-/
namespace Go.Proofs.YtmghplbmfjhkcaaDoor
open Go Go.RowKit Go.Proofs.YtmghplbmfjhkcaaDoor.M Ieee
set_option linter.unusedSimpArgs false
set_option linter.unusedVariables false

theorem xk_fw {p r : Int} {c : Nat} (h : FW p c) (hr : patW c = r) (hn : c % 9223372036854775808 ≤ 9218868437227405312) : p = r := by
  rcases h with ⟨_, hp, e⟩ | ⟨_, hN⟩
  · rw [← hr, e, patW_wd hp]
  · have := hN.2; omega
theorem xk_fsum {p q r : Int} {x y c : Nat} (hp : FW p x) (hq : FW q y) (h : Ieee.double.add x y = some c) (hr : patW c = r) (hn : c % 9223372036854775808 ≤ 9218868437227405312) : fsum p q = r := by
  rcases add_FW hp hq with ⟨z, e, f⟩ | ⟨e, _⟩
  · rw [h] at e; cases e; exact xk_fw f hr hn
  · rw [h] at e; cases e
theorem xk_fprod {p q r : Int} {x y c : Nat} (hp : FW p x) (hq : FW q y) (h : Ieee.double.mul x y = some c) (hr : patW c = r) (hn : c % 9223372036854775808 ≤ 9218868437227405312) : fprod p q = r := by
  rcases mul_FW hp hq with ⟨z, e, f⟩ | ⟨e, _⟩
  · rw [h] at e; cases e; exact xk_fw f hr hn
  · rw [h] at e; cases e
theorem xk_w1 : FW 4336966441157787648 4336966441157787648 := .inl ⟨by decide, by unfold rng; decide, by decide⟩
theorem xk_w2 : FW 4607182418800017408 4607182418800017408 := .inl ⟨by decide, by unfold rng; decide, by decide⟩
theorem xk_s3 : fsum 4336966441157787648 4607182418800017408 = 4607182418800017408 := xk_fsum xk_w1 xk_w2 (c := 4607182418800017408) (by decide +kernel) (by decide) (by decide)
theorem xk_n4336966441157787648 : M.neg 4336966441157787648 = (-4886405595696988160) := by decide
theorem xk_w4 : FW (-4886405595696988160) 13560338478012563456 := .inl ⟨by decide, by unfold rng; decide, by decide⟩
theorem xk_s4 : fsum 4607182418800017408 (-4886405595696988160) = 4607182418800017408 := xk_fsum xk_w2 xk_w4 (c := 4607182418800017408) (by decide +kernel) (by decide) (by decide)
theorem xk_sV4336966441157787648_4607182418800017408 : sV 4336966441157787648 4607182418800017408 = 4607182418800017408 := by unfold sV; simp only [xk_s3, xk_n4336966441157787648, xk_s4]
theorem xk_n4607182418800017408 : M.neg 4607182418800017408 = (-4616189618054758400) := by decide
theorem xk_w7 : FW (-4616189618054758400) 13830554455654793216 := .inl ⟨by decide, by unfold rng; decide, by decide⟩
theorem xk_s5 : fsum 4607182418800017408 (-4616189618054758400) = 0 := xk_fsum xk_w2 xk_w7 (c := 0) (by decide +kernel) (by decide) (by decide)
theorem xk_n0 : M.neg 0 = (-9223372036854775808) := by decide
theorem xk_w9 : FW (-9223372036854775808) 9223372036854775808 := .inl ⟨by decide, by unfold rng; decide, by decide⟩
theorem xk_s6 : fsum 4336966441157787648 (-9223372036854775808) = 4336966441157787648 := xk_fsum xk_w1 xk_w9 (c := 4336966441157787648) (by decide +kernel) (by decide) (by decide)
theorem xk_w10 : FW 0 0 := .inl ⟨by decide, by unfold rng; decide, by decide⟩
theorem xk_s7 : fsum 4336966441157787648 0 = 4336966441157787648 := xk_fsum xk_w1 xk_w10 (c := 4336966441157787648) (by decide +kernel) (by decide) (by decide)
theorem xk_sL4336966441157787648_4607182418800017408 : sL 4336966441157787648 4607182418800017408 = 4336966441157787648 := by unfold sL; simp only [xk_sV4336966441157787648_4607182418800017408, xk_s3, xk_n4607182418800017408, xk_s5, xk_n0, xk_s6, xk_s7]
theorem xk_w12 : FW 4611686018427387904 4611686018427387904 := .inl ⟨by decide, by unfold rng; decide, by decide⟩
theorem xk_s8 : fprod 4336966441157787648 4611686018427387904 = 4341470040785158144 := xk_fprod xk_w1 xk_w12 (c := 4341470040785158144) (by decide +kernel) (by decide) (by decide)
theorem xk_w13 : FW 4728779608772575232 4728779608772575232 := .inl ⟨by decide, by unfold rng; decide, by decide⟩
theorem xk_s9 : fprod 4728779608772575232 4336966441157787648 = 4458563631130345472 := xk_fprod xk_w13 xk_w1 (c := 4458563631130345472) (by decide +kernel) (by decide) (by decide)
theorem xk_w14 : FW 4458563631130345472 4458563631130345472 := .inl ⟨by decide, by unfold rng; decide, by decide⟩
theorem xk_s10 : fsum 4458563631130345472 (-4886405595696988160) = 4458563631096791040 := xk_fsum xk_w14 xk_w4 (c := 4458563631096791040) (by decide +kernel) (by decide) (by decide)
theorem xk_n4458563631096791040 : M.neg 4458563631096791040 = (-4764808405757984768) := by decide
theorem xk_w16 : FW (-4764808405757984768) 13681935667951566848 := .inl ⟨by decide, by unfold rng; decide, by decide⟩
theorem xk_s11 : fsum 4458563631130345472 (-4764808405757984768) = 4336966441157787648 := xk_fsum xk_w14 xk_w16 (c := 4336966441157787648) (by decide +kernel) (by decide) (by decide)
theorem xk_s12 : fsum 4336966441157787648 (-4886405595696988160) = 0 := xk_fsum xk_w1 xk_w4 (c := 0) (by decide +kernel) (by decide) (by decide)
theorem xk_cC4336966441157787648 : cC 4336966441157787648 = 4458563631130345472 := by unfold cC; simp only [xk_s9]
theorem xk_spH4336966441157787648 : spH 4336966441157787648 = 4336966441157787648 := by unfold spH; simp only [xk_cC4336966441157787648, xk_n4336966441157787648, xk_s10, xk_n4458563631096791040, xk_s11]
theorem xk_spL4336966441157787648 : spL 4336966441157787648 = 0 := by unfold spL; simp only [xk_spH4336966441157787648, xk_n4336966441157787648, xk_s12]
theorem xk_s13 : fprod 4728779608772575232 4611686018427387904 = 4733283208399945728 := xk_fprod xk_w13 xk_w12 (c := 4733283208399945728) (by decide +kernel) (by decide) (by decide)
theorem xk_n4611686018427387904 : M.neg 4611686018427387904 = (-4611686018427387904) := by decide
theorem xk_w21 : FW 4733283208399945728 4733283208399945728 := .inl ⟨by decide, by unfold rng; decide, by decide⟩
theorem xk_w22 : FW (-4611686018427387904) 13835058055282163712 := .inl ⟨by decide, by unfold rng; decide, by decide⟩
theorem xk_s14 : fsum 4733283208399945728 (-4611686018427387904) = 4733283208366391296 := xk_fsum xk_w21 xk_w22 (c := 4733283208366391296) (by decide +kernel) (by decide) (by decide)
theorem xk_n4733283208366391296 : M.neg 4733283208366391296 = (-4490088828488384512) := by decide
theorem xk_w24 : FW (-4490088828488384512) 13956655245221167104 := .inl ⟨by decide, by unfold rng; decide, by decide⟩
theorem xk_s15 : fsum 4733283208399945728 (-4490088828488384512) = 4611686018427387904 := xk_fsum xk_w21 xk_w24 (c := 4611686018427387904) (by decide +kernel) (by decide) (by decide)
theorem xk_s16 : fsum 4611686018427387904 (-4611686018427387904) = 0 := xk_fsum xk_w12 xk_w22 (c := 0) (by decide +kernel) (by decide) (by decide)
theorem xk_cC4611686018427387904 : cC 4611686018427387904 = 4733283208399945728 := by unfold cC; simp only [xk_s13]
theorem xk_spH4611686018427387904 : spH 4611686018427387904 = 4611686018427387904 := by unfold spH; simp only [xk_cC4611686018427387904, xk_n4611686018427387904, xk_s14, xk_n4733283208366391296, xk_s15]
theorem xk_spL4611686018427387904 : spL 4611686018427387904 = 0 := by unfold spL; simp only [xk_spH4611686018427387904, xk_n4611686018427387904, xk_s16]
theorem xk_n4341470040785158144 : M.neg 4341470040785158144 = (-4881901996069617664) := by decide
theorem xk_w29 : FW 4341470040785158144 4341470040785158144 := .inl ⟨by decide, by unfold rng; decide, by decide⟩
theorem xk_w30 : FW (-4881901996069617664) 13564842077639933952 := .inl ⟨by decide, by unfold rng; decide, by decide⟩
theorem xk_s17 : fsum 4341470040785158144 (-4881901996069617664) = 0 := xk_fsum xk_w29 xk_w30 (c := 0) (by decide +kernel) (by decide) (by decide)
theorem xk_T14336966441157787648_4611686018427387904 : pT1 4336966441157787648 4611686018427387904 = 0 := by unfold pT1; simp only [xk_s8, xk_spH4336966441157787648, xk_spH4611686018427387904, xk_n4341470040785158144, xk_s17]
theorem xk_s18 : fprod 0 4611686018427387904 = 0 := xk_fprod xk_w10 xk_w12 (c := 0) (by decide +kernel) (by decide) (by decide)
theorem xk_s19 : fsum 0 (-9223372036854775808) = 0 := xk_fsum xk_w10 xk_w9 (c := 0) (by decide +kernel) (by decide) (by decide)
theorem xk_T24336966441157787648_4611686018427387904 : pT2 4336966441157787648 4611686018427387904 = 0 := by unfold pT2; simp only [xk_T14336966441157787648_4611686018427387904, xk_spL4336966441157787648, xk_spH4611686018427387904, xk_s18, xk_n0, xk_s19]
theorem xk_s20 : fprod 4336966441157787648 0 = 0 := xk_fprod xk_w1 xk_w10 (c := 0) (by decide +kernel) (by decide) (by decide)
theorem xk_T34336966441157787648_4611686018427387904 : pT3 4336966441157787648 4611686018427387904 = 0 := by unfold pT3; simp only [xk_T24336966441157787648_4611686018427387904, xk_spH4336966441157787648, xk_spL4611686018427387904, xk_s20, xk_n0, xk_s19]
theorem xk_s21 : fprod 0 0 = 0 := xk_fprod xk_w10 xk_w10 (c := 0) (by decide +kernel) (by decide) (by decide)
theorem xk_prL4336966441157787648_4611686018427387904 : prL 4336966441157787648 4611686018427387904 = 0 := by unfold prL; simp only [xk_spL4336966441157787648, xk_spL4611686018427387904, xk_s21, xk_T34336966441157787648_4611686018427387904, xk_n0, xk_s19]
theorem xk_s22 : fprod 4607182418800017408 4611686018427387904 = 4611686018427387904 := xk_fprod xk_w2 xk_w12 (c := 4611686018427387904) (by decide +kernel) (by decide) (by decide)
theorem xk_s23 : fprod 4728779608772575232 4607182418800017408 = 4728779608772575232 := xk_fprod xk_w13 xk_w2 (c := 4728779608772575232) (by decide +kernel) (by decide) (by decide)
theorem xk_s24 : fsum 4728779608772575232 (-4616189618054758400) = 4728779608739020800 := xk_fsum xk_w13 xk_w7 (c := 4728779608739020800) (by decide +kernel) (by decide) (by decide)
theorem xk_n4728779608739020800 : M.neg 4728779608739020800 = (-4494592428115755008) := by decide
theorem xk_w36 : FW (-4494592428115755008) 13952151645593796608 := .inl ⟨by decide, by unfold rng; decide, by decide⟩
theorem xk_s25 : fsum 4728779608772575232 (-4494592428115755008) = 4607182418800017408 := xk_fsum xk_w13 xk_w36 (c := 4607182418800017408) (by decide +kernel) (by decide) (by decide)
theorem xk_cC4607182418800017408 : cC 4607182418800017408 = 4728779608772575232 := by unfold cC; simp only [xk_s23]
theorem xk_spH4607182418800017408 : spH 4607182418800017408 = 4607182418800017408 := by unfold spH; simp only [xk_cC4607182418800017408, xk_n4607182418800017408, xk_s24, xk_n4728779608739020800, xk_s25]
theorem xk_spL4607182418800017408 : spL 4607182418800017408 = 0 := by unfold spL; simp only [xk_spH4607182418800017408, xk_n4607182418800017408, xk_s5]
theorem xk_T14607182418800017408_4611686018427387904 : pT1 4607182418800017408 4611686018427387904 = 0 := by unfold pT1; simp only [xk_s22, xk_spH4607182418800017408, xk_spH4611686018427387904, xk_n4611686018427387904, xk_s16]
theorem xk_T24607182418800017408_4611686018427387904 : pT2 4607182418800017408 4611686018427387904 = 0 := by unfold pT2; simp only [xk_T14607182418800017408_4611686018427387904, xk_spL4607182418800017408, xk_spH4611686018427387904, xk_s18, xk_n0, xk_s19]
theorem xk_s26 : fprod 4607182418800017408 0 = 0 := xk_fprod xk_w2 xk_w10 (c := 0) (by decide +kernel) (by decide) (by decide)
theorem xk_T34607182418800017408_4611686018427387904 : pT3 4607182418800017408 4611686018427387904 = 0 := by unfold pT3; simp only [xk_T24607182418800017408_4611686018427387904, xk_spH4607182418800017408, xk_spL4611686018427387904, xk_s26, xk_n0, xk_s19]
theorem xk_prL4607182418800017408_4611686018427387904 : prL 4607182418800017408 4611686018427387904 = 0 := by unfold prL; simp only [xk_spL4607182418800017408, xk_spL4611686018427387904, xk_s21, xk_T34607182418800017408_4611686018427387904, xk_n0, xk_s19]
theorem xk_s27 : fsum 4341470040785158144 0 = 4341470040785158144 := xk_fsum xk_w29 xk_w10 (c := 4341470040785158144) (by decide +kernel) (by decide) (by decide)
theorem xk_sV4341470040785158144_0 : sV 4341470040785158144 0 = 0 := by unfold sV; simp only [xk_s27, xk_n4341470040785158144, xk_s17]
theorem xk_s28 : fsum 4341470040785158144 (-9223372036854775808) = 4341470040785158144 := xk_fsum xk_w29 xk_w9 (c := 4341470040785158144) (by decide +kernel) (by decide) (by decide)
theorem xk_s29 : fsum 0 0 = 0 := xk_fsum xk_w10 xk_w10 (c := 0) (by decide +kernel) (by decide) (by decide)
theorem xk_sL4341470040785158144_0 : sL 4341470040785158144 0 = 0 := by unfold sL; simp only [xk_sV4341470040785158144_0, xk_s27, xk_n0, xk_s28, xk_n4341470040785158144, xk_s17, xk_s19, xk_s29]
theorem xk_s30 : fsum 4611686018427387904 4341470040785158144 = 4611686018427387904 := xk_fsum xk_w12 xk_w29 (c := 4611686018427387904) (by decide +kernel) (by decide) (by decide)
theorem xk_fL4611686018427387904_4341470040785158144 : fL 4611686018427387904 4341470040785158144 = 4341470040785158144 := by unfold fL; simp only [xk_s30, xk_n4611686018427387904, xk_s16, xk_n0, xk_s28]
theorem xk_rng (b : Int) (h : decide (-9223372036854775808 ≤ b ∧ b ≤ 9223372036854775807) = true) : rng b := by
  have := of_decide_eq_true h
  unfold rng
  omega
theorem gx_one (d : Nat → Int) (q : Int) : gx d q 1 = pok (sL q (d 0)) := by
  show (true && pok (sL q (d 0))) = _
  rw [Bool.true_and]
theorem grw_one (d : Nat → Int) (q : Int) : grw 1 d q = ((⟨0, d⟩ : Ls).add (sL q (d 0))).add (fsum q (d 0)) := rfl
theorem sx_one (d : Nat → Int) (b : Int) : sx d b 1 = (pX (d 0) b && (pX (d 1) b && (pok (sL (fprod (d 0) b) (prL (d 1) b)) && fX (fprod (d 1) b) (fsum (fprod (d 0) b) (prL (d 1) b))))) := rfl
theorem scl_one (s : Ls) (d : Nat → Int) (b : Int) : scl s d b 1 = (((s.add (prL (d 0) b)).add (sL (fprod (d 0) b) (prL (d 1) b))).add (fL (fprod (d 1) b) (fsum (fprod (d 0) b) (prL (d 1) b)))).add (fsum (fprod (d 1) b) (fsum (fprod (d 0) b) (prL (d 1) b))) := rfl
theorem sxN_succ {d : Nat → Int} {b : Int} {n : Nat} (h : ¬ rg b = 0) : sxN d b (n + 1) = sx d b n := if_neg h
theorem sclN_succ {d : Nat → Int} {b : Int} {n : Nat} (h : ¬ rg b = 0) : sclN d b (n + 1) = scl ⟨0, fun _ => 0⟩ d b n := if_neg h
theorem ls_no {s : Ls} {b : Int} (h : rg b = 0) : s.add b = s := if_pos h
theorem ls_yes {n : Nat} {d : Nat → Int} {b : Int} (h : ¬ rg b = 0) : (⟨n, d⟩ : Ls).add b = ⟨n + 1, upd d n b⟩ := if_neg h
theorem xk_pT : pok 4336966441157787648 = true := by decide
theorem xk_p0 : pok 0 = true := by decide
theorem xk_p1 : pok 0 = true := by decide
theorem xk_p2 : pok 0 = true := by decide
theorem xk_p3 : pok 4341470040785158144 = true := by decide
theorem xk_grow_x : gx (fun _ => 4607182418800017408) 4336966441157787648 1 = true := by
  rw [gx_one, xk_sL4336966441157787648_4607182418800017408, xk_pT]
theorem xk_grow_s : grw 1 (fun _ => 4607182418800017408) 4336966441157787648 = ⟨2, upd (upd (fun _ => 4607182418800017408) 0 4336966441157787648) 1 4607182418800017408⟩ := by
  rw [grw_one, xk_sL4336966441157787648_4607182418800017408, xk_s3, ls_yes (show ¬ rg 4336966441157787648 = 0 by decide), ls_yes (show ¬ rg 4607182418800017408 = 0 by decide)]
theorem xk_pX0 : pX 4336966441157787648 4611686018427387904 = true := by
  have h : reach 4336966441157787648 4611686018427387904 = true := by decide +kernel
  unfold pX
  rw [h, xk_prL4336966441157787648_4611686018427387904, xk_p0]
  rfl
theorem xk_pX1 : pX 4607182418800017408 4611686018427387904 = true := by
  have h : reach 4607182418800017408 4611686018427387904 = true := by decide +kernel
  unfold pX
  rw [h, xk_prL4607182418800017408_4611686018427387904, xk_p1]
  rfl
theorem xk_fX : fX 4611686018427387904 4341470040785158144 = true := by
  have h : decide ((iV 4611686018427387904).natAbs < (iV 4341470040785158144).natAbs) = false := by decide +kernel
  unfold fX
  rw [xk_fL4611686018427387904_4341470040785158144, xk_p3, h]
  rfl
theorem xk_d0 : d2 4336966441157787648 4607182418800017408 0 = 4336966441157787648 := rfl
theorem xk_d1 : d2 4336966441157787648 4607182418800017408 1 = 4607182418800017408 := rfl
theorem xk_scale_x : sxN (d2 4336966441157787648 4607182418800017408) 4611686018427387904 2 = true := by
  rw [sxN_succ (by decide), sx_one, xk_d0, xk_d1, xk_pX0, xk_pX1, xk_s8, xk_prL4607182418800017408_4611686018427387904, xk_s22, xk_s27, xk_sL4341470040785158144_0, xk_fX, xk_p2]
  rfl
theorem xk_scale_n : (sclN (d2 4336966441157787648 4607182418800017408) 4611686018427387904 2).n = 2 := by
  rw [sclN_succ (by decide), scl_one, xk_d0, xk_d1, xk_prL4336966441157787648_4611686018427387904, xk_s8, xk_prL4607182418800017408_4611686018427387904, xk_s22, xk_s27, xk_sL4341470040785158144_0, xk_fL4611686018427387904_4341470040785158144, xk_s30, ls_no (show rg 0 = 0 by decide), ls_no (show rg 0 = 0 by decide), ls_yes (show ¬ rg 4341470040785158144 = 0 by decide), ls_yes (show ¬ rg 4611686018427387904 = 0 by decide)]
theorem xk_v3 : xval (fun _ => 4607182418800017408) 1 = true := by decide +kernel
theorem xk_v4 : xval (d2 4336966441157787648 4607182418800017408) 2 = true := by decide +kernel
theorem xk_v5 : xval (upd (upd (fun _ => 4607182418800017408) 0 4336966441157787648) 1 4607182418800017408) 2 = true := by decide +kernel
end Go.Proofs.YtmghplbmfjhkcaaDoor

/-
  plumblaw7.alive, by its contract.
-/
namespace Go.Proofs.YtmghplbmfjhkcaaDoor
open Go Go.RowKit Go.Proofs.YtmghplbmfjhkcaaDoor.M
set_option linter.unusedSimpArgs false
set_option linter.unusedVariables false

theorem LsO.row {B : Nat} {w : World} {v : Value} {s : Ls} (h : LsO B w v s) : ∃ ao cap, v = .slice ao s.n cap ∧ Row w ao s.n cap s.d := by
  rcases h with h | ⟨h0, ad, rfl⟩
  · exact h.row
  · rw [h0]
    exact ⟨some ad, 0, rfl, Nat.le_refl _, by decide, (fun q => by cases q), fun q => by omega⟩
theorem XA.yes {w w' : World} {ok : Bool} {s : Ls} {r : Ending} (h : XA w ok s r w') (ho : ok = true) : ∃ ao cap, r = .returned (.tuple #[.slice ao s.n cap, .int .i64 0]) ∧ Row w' ao s.n cap s.d ∧ Below w.heap.size w w' := by
  obtain ⟨(⟨_, v, h1, h2⟩ | ⟨h1, _⟩), hb⟩ := h
  · obtain ⟨ao, cap, rfl, hR⟩ := h2.row
    exact ⟨ao, cap, h1, hR, hb⟩
  · rw [ho] at h1; cases h1
theorem XA.no {w w' : World} {ok : Bool} {s : Ls} {r : Ending} (h : XA w ok s r w') (ho : ok = false) : r = .returned (.tuple #[.slice none 0 0, .int .i64 14]) ∧ Below w.heap.size w w' := by
  obtain ⟨(⟨h1, _⟩ | ⟨_, h1⟩), hb⟩ := h
  · rw [ho] at h1; cases h1
  · exact ⟨h1, hb⟩
theorem xk_r (b : Int) (h : decide (-9223372036854775808 ≤ b ∧ b ≤ 9223372036854775807) = true) : ∀ i : Nat, i < 1 → rng ((fun _ => b) i) := fun _ _ => xk_rng b h
theorem xk_r2 : ∀ i : Nat, i < 2 → rng (d2 4336966441157787648 4607182418800017408 i) := fun i hi => by
  match i, hi with
  | 0, _ => exact xk_rng _ (by decide)
  | 1, _ => exact xk_rng _ (by decide)
theorem xk_same : sameB (upd (upd (fun _ => 4607182418800017408) 0 4336966441157787648) 1 4607182418800017408) (d2 4336966441157787648 4607182418800017408) 2 2 = true := by
  refine decide_eq_true ⟨rfl, fun i hi => ?_⟩
  match i, hi with
  | 0, _ => rfl
  | 1, _ => rfl
set_option maxRecDepth 100000 in
set_option maxHeartbeats 1000000 in
theorem alive7 (w : World) (H : Hold4 w) : Calls Tryd.prog 5 #[] w fun e w' => e = .returned (.bool true) ∧ Below w.heap.size w w' := by
  have HH : Hid (Hold4 w) := H
  have C1 : Hid (∀ W ao cap, Hold4 W → Row W ao 1 cap (fun _ => 4607182418800017408) → Calls Tryd.prog 12 #[.slice ao 1 cap, .int .i64 4336966441157787648] W fun r w' => ∃ ao cap, r = .returned (.tuple #[.slice ao 2 cap, .int .i64 0]) ∧ Row w' ao 2 cap (upd (upd (fun _ => 4607182418800017408) 0 4336966441157787648) 1 4607182418800017408) ∧ Below W.heap.size W w') := fun W ao cap hW hR => by
    have h := xGrow W hR (xk_r _ (by decide)) xk_v3 (xk_rng _ (by decide)) xk_pT (by decide) hW
    rw [xk_grow_s] at h
    exact h.mono fun r w' hx => hx.yes xk_grow_x
  have C2 : Hid (∀ W ao cap, Hold4 W → Row W ao 2 cap (d2 4336966441157787648 4607182418800017408) → Calls Tryd.prog 13 #[.slice ao 2 cap, .int .i64 4611686018427387904] W fun r w' => ∃ ao cap, r = .returned (.tuple #[.slice ao 2 cap, .int .i64 0]) ∧ Below W.heap.size W w') := fun W ao cap hW hR => by
    have h := xScale (b := 4611686018427387904) W hR xk_r2 xk_v4 (xk_rng _ (by decide)) (by decide) (by decide) hW
    refine h.mono fun r w' hx => ?_
    obtain ⟨ao, cap, e1, e2, e3⟩ := hx.yes xk_scale_x
    rw [xk_scale_n] at e1
    exact ⟨ao, cap, e1, e3⟩
  clear H
  go_enter Tryd.func5, Tryd.ntmps5
  go_wp2_with fail
  have hb0 := bel_alloc w (.cells #[.int .i64 4607182418800017408] 3)
  refine (C1.out _ _ _ (HH.out.keeps hb0) (row1 w _ rfl)).mono ?_
  rintro _ w1 ⟨ao1, cap1, rfl, hR1, hb1⟩
  have hb01 := bel_trans hb0 hb1
  have hb2 := bel_alloc w1 (.cells #[.int .i64 4336966441157787648, .int .i64 4607182418800017408] 3)
  have hb02 := bel_trans hb01 hb2
  go_wp2_with fail
  refine (C2.out _ _ _ (HH.out.keeps hb02) (row2 w1 _ _ rfl)).mono ?_
  rintro _ w2 ⟨ao2, cap2, rfl, hb3⟩
  have hb03 := bel_trans hb02 hb3
  have hR2 := (hR1.keeps hb2).keeps hb3
  have hb4 := bel_alloc w2 (.cells #[.int .i64 4336966441157787648, .int .i64 4607182418800017408] 3)
  have CS := same_any _ _ _ _ _ _ _ _ _ (hR2.keeps hb4) (row2 w2 4336966441157787648 4607182418800017408 rfl)
  rw [xk_same] at CS
  go_wp2_with fail
  refine CS.mono ?_
  rintro _ w3 ⟨rfl, hb5⟩
  have hb05 := bel_trans (bel_trans hb03 hb4) hb5
  have CV := xvalid_any w3 ((hR2.keeps hb4).keeps hb5) (HH.out.keeps hb05)
  rw [xk_v5] at CV
  clear CS
  go_wp2_with fail
  refine CV.mono ?_
  rintro _ w4 ⟨rfl, hb6⟩
  go_wp2
  all_goals go_ret
  all_goals exact ⟨rfl, by first | exact bel_trans hb05 hb6 | exact (bel_trans hb05 hb6).drew⟩
end Go.Proofs.YtmghplbmfjhkcaaDoor

/-
  Two floats that overlap, stand the wrong way round, or of which one is a nought or none: no expansion.
-/
namespace Go.Proofs.YtmghplbmfjhkcaaDoor
open Go Go.RowKit Go.Proofs.YtmghplbmfjhkcaaDoor.M
set_option linter.unusedSimpArgs false
set_option linter.unusedVariables false

end Go.Proofs.YtmghplbmfjhkcaaDoor

/-
  EftHalves: Split is finite where floats are not too great; its halves have 26 bits.
-/
namespace Go.Proofs.YtmghplbmfjhkcaaDoor
open Go Go.RowKit Go.Proofs.YtmghplbmfjhkcaaDoor.M Ieee
set_option linter.unusedSimpArgs false
set_option linter.unusedVariables false

end Go.Proofs.YtmghplbmfjhkcaaDoor

/-
  The mathematics of EftPremise: where floats are not too great all steps are finite.
-/
namespace Go.Proofs.YtmghplbmfjhkcaaDoor
open Go Go.RowKit Go.Proofs.YtmghplbmfjhkcaaDoor.M Ieee
set_option linter.unusedSimpArgs false
set_option linter.unusedVariables false

theorem pr_1 {a b h M : Int} (h1 : ((a.natAbs : Int) + b.natAbs) ≤ M) : ((a + b).natAbs : Int) ≤ M := by omega
theorem pr_2 {a b h M : Int} (ha : 2 * (a.natAbs : Int) ≤ M) (hb : 2 * (b.natAbs : Int) ≤ M) (e1 : (h - (a + b)).natAbs ≤ (a - (a + b)).natAbs) : ((h - a).natAbs : Int) ≤ M := by omega
theorem pr_3 {a b h v M : Int} (ha : 2 * (a.natAbs : Int) ≤ M) (e2 : (h - (a + b)).natAbs ≤ (b - (a + b)).natAbs) (e3 : (v - (h - a)).natAbs ≤ (b - (h - a)).natAbs) : ((h - v).natAbs : Int) ≤ M := by omega
theorem pr_4 {a b h v u M : Int} (ha : 2 * (a.natAbs : Int) ≤ M) (e2 : (h - (a + b)).natAbs ≤ (b - (a + b)).natAbs) (e3 : (v - (h - a)).natAbs ≤ (b - (h - a)).natAbs) (e4 : (u - (h - v)).natAbs ≤ (a - (h - v)).natAbs) : ((a - u).natAbs : Int) ≤ M ∧ (a - u).natAbs ≤ 2 * (h - (a + b)).natAbs := by omega
theorem pr_5 {a b h v M : Int} (hb : 2 * (b.natAbs : Int) ≤ M) (e1 : (h - (a + b)).natAbs ≤ (a - (a + b)).natAbs) (e3 : (v - (h - a)).natAbs ≤ (b - (h - a)).natAbs) : ((b - v).natAbs : Int) ≤ M ∧ (b - v).natAbs ≤ 2 * (h - (a + b)).natAbs := by omega
theorem pr_6 {S h x y p q M : Int} (hM : (S.natAbs : Int) ≤ M) (r : 1000 * (h - S).natAbs ≤ S.natAbs) (g1 : x.natAbs ≤ 2 * (h - S).natAbs) (g2 : y.natAbs ≤ 2 * (h - S).natAbs) (n1 : (p - x).natAbs ≤ (0 - x).natAbs) (n2 : (q - y).natAbs ≤ (0 - y).natAbs) : ((p + q).natAbs : Int) ≤ M := by omega
theorem sum_fin {p q : Int} (hp : M.rng p) (hq : M.rng q) (pp : pok p = true) (pq : pok q = true) (h1 : 2 * ((iV p).natAbs : Int) ≤ maxV) (h2 : 2 * ((iV q).natAbs : Int) ≤ maxV) : pok (fsum p q) = true ∧ pok (sL p q) = true := by
  have rh := fsum_rng hp hq
  have rv : M.rng (sV p q) := fsum_rng rh (neg_rng hp)
  have rU := fsum_rng rh (neg_rng rv)
  have rX := fsum_rng hp (neg_rng rU)
  have rY := fsum_rng hq (neg_rng rv)
  have Sh := stp_sum hp hq pp pq
  have hM := pr_1 (h := 0) (a := iV p) (b := iV q) (M := maxV) (by omega)
  have ph := Sh.fin hM
  have nh := Sh.nr ph
  have e1 := nh.2 _ (fl_iV p)
  have e2 := nh.2 _ (fl_iV q)
  have Sv := stp_diff rh hp ph pp
  have pv := Sv.fin (pr_2 h1 h2 e1)
  have nv := Sv.nr pv
  have e3 := nv.2 _ (fl_iV q)
  have SU := stp_diff rh rv ph pv
  have pU := SU.fin (pr_3 h1 e2 e3)
  have e4 := (SU.nr pU).2 _ (fl_iV p)
  have SX := stp_diff hp rU pp pU
  obtain ⟨g1, g2⟩ := pr_4 h1 e2 e3 e4
  have pX := SX.fin g1
  have SY := stp_diff hq rv pq pv
  obtain ⟨g3, g4⟩ := pr_5 h2 e1 e3
  have pY := SY.fin g3
  exact ⟨ph, (stp_sum rX rY pX pY).fin (pr_6 hM (nr_rel nh) g2 g4 ((SX.nr pX).2 _ fl_zero) ((SY.nr pY).2 _ fl_zero))⟩
end Go.Proofs.YtmghplbmfjhkcaaDoor

/-
  Plain mathematics: which numbers in their one form are floats. No Go text in sight.
-/
namespace Go.Proofs.YtmghplbmfjhkcaaDoor
open Go Go.RowKit Go.Proofs.YtmghplbmfjhkcaaDoor.M
set_option linter.unusedSimpArgs false
set_option linter.unusedVariables false

end Go.Proofs.YtmghplbmfjhkcaaDoor

/-
  Package plumbref7, plainly: the ends of a float; lists that are added to from nothing.
-/
namespace Go.Proofs.YtmghplbmfjhkcaaDoor
open Go Go.RowKit Go.Proofs.YtmghplbmfjhkcaaDoor.M
set_option linter.unusedSimpArgs false
set_option linter.unusedVariables false

/-- What is no nought, is none, by its class. -/
theorem cls_nought {b : Int} (hb : rng b) : cls b = 0 ↔ rg b = 0 := by
  have h1 := q_cls hb
  rw [← h1]
  constructor
  · intro h
    have hr := (q_rg hb).1
    have h0 : 0 ≤ rg b := (q_rg hb).2
    generalize rg b = r at *
    unfold rng at hr
    unfold cls fld frc at h
    split at h
    · split at h <;> omega
    · split at h
      · split at h
        · omega
        · omega
      · omega
  · intro h; rw [h]; decide
theorem Ls.same.refl (s : Ls) : s.same s := ⟨rfl, fun _ _ => rfl⟩
theorem Ls.same.symm {s t : Ls} (h : s.same t) : t.same s := ⟨h.1.symm, fun i hi => (h.2 i (by rw [h.1]; exact hi)).symm⟩
theorem Ls.same.trans {s t u : Ls} (h : s.same t) (k : t.same u) : s.same u := ⟨h.1.trans k.1, fun i hi => (h.2 i hi).trans (k.2 i (by rw [← h.1]; exact hi))⟩
end Go.Proofs.YtmghplbmfjhkcaaDoor

/-
  Plain mathematics: expansions grown by a float stay expansions (Shewchuk), of the exact sum; one whose sum is 0 is empty.
-/
namespace Go.Proofs.YtmghplbmfjhkcaaDoor
open Go Go.RowKit Go.Proofs.YtmghplbmfjhkcaaDoor.M
set_option linter.unusedSimpArgs false
set_option linter.unusedVariables false

/-- Below the lowest bit. -/
def Lo (x y : Int) : Prop := ∃ s : Nat, (x.natAbs : Int) < 2 ^ s ∧ (2 ^ s : Int) ∣ y
theorem dvd_abs_le {x y : Int} (h : x ∣ y) (h0 : y ≠ 0) (hx : 0 < x) : x ≤ (y.natAbs : Int) := by
  have h1 : x ∣ (y.natAbs : Int) := Int.dvd_natAbs.2 h
  exact Int.le_of_dvd (by omega) h1
/-- What is rounded, if not itself, is told in units that are greater than what was lost. -/
theorem nr_unit {S x : Int} (n : Nr S x) (hne : x ≠ S) : ∃ u : Nat, (2 ^ u : Int) ∣ x ∧ ((S - x).natAbs : Int) < 2 ^ u := by
  obtain ⟨k, h1, h2⟩ := binade (S.natAbs : Int) (by omega)
  rcases h2 with rfl | h2
  · exfalso
    have : Fl S := ⟨0, ⟨S, by simp⟩, by simpa using h1⟩
    exact hne (nr_self this n)
  · have f : Fl (4503599627370496 * 2 ^ k : Int) := by
      have := fl_p2 k (m := 4503599627370496) (by decide)
      exact this
    have h3 := dk5 n f h2
    have h4 := nr_err n (i := k) (by omega)
    have p := p2 k
    exact ⟨k, fl_units n.1 h3, by omega⟩
theorem nr_loss {a b x : Int} (ha : Fl a) (n : Nr (a + b) x) : (a + b - x).natAbs ≤ b.natAbs := by
  have := n.2 a ha
  omega
theorem Lo.trans {x y z : Int} (h : Lo x y) (hy : y ≠ 0) (k : Lo y z) : Lo x z := by
  obtain ⟨s, h1, h2⟩ := h
  obtain ⟨t, k1, k2⟩ := k
  have h3 := dvd_abs_le h2 hy (p2 s)
  have h4 : s < t := p2lt (Int.lt_of_le_of_lt h3 k1)
  exact ⟨s, h1, Int.dvd_trans (p2dvd (by omega)) k2⟩
theorem iV_nought {b : Int} (hb : rng b) (h : rg b = 0) : iV b = 0 := by
  have := iV_abs b
  rw [h] at this
  have h2 : (V Ieee.double (0 : Int).toNat : Int) = 0 := by decide +kernel
  omega
theorem iV_some {b : Int} (hb : rng b) (pb : pok b = true) (h : rg b ≠ 0) : iV b ≠ 0 ∧ pmag b ≠ 0 := by
  have e := iV_form hb pb
  have hm : pmag b ≠ 0 := by
    intro q
    have hc : cls b = 0 := by
      have hf : fld b ≠ 2047 := by simpa [pok] using pb
      have := frc_le b
      unfold pmag at q
      rw [if_neg hf] at q
      unfold cls
      rw [if_neg hf]
      by_cases h0 : fld b = 0
      · rw [if_pos h0] at q ⊢
        rw [if_pos q]
      · rw [if_neg h0] at q
        omega
    exact h ((cls_nought hb).1 hc)
  refine ⟨fun q => ?_, hm⟩
  obtain ⟨i0, _⟩ := pmag_in pb
  have p1 := two_pos (pexp b + 1074).toNat
  have : 0 < pmag b * 2 ^ (pexp b + 1074).toNat := Int.mul_pos (by omega) p1
  rw [q] at e
  omega
theorem odd_dvd {s t : Nat} {m : Int} (h : (2 ^ s : Int) ∣ 2 ^ t * (2 * m + 1)) : s ≤ t := by
  apply Classical.byContradiction
  intro hn
  obtain ⟨r, rfl⟩ : ∃ r, s = t + 1 + r := ⟨s - t - 1, by omega⟩
  obtain ⟨c, hc⟩ := h
  rw [Int.pow_add, Int.pow_add, Int.mul_assoc, Int.mul_assoc] at hc
  have := Int.eq_of_mul_eq_mul_left (Int.ne_of_gt (two_pos t)) hc
  omega
/-- Two floats that don't overlap. -/
theorem lo_iff {a b : Int} (ha : rng a) (hb : rng b) (pa : pok a = true) (pb : pok b = true) (ma : pmag a ≠ 0) (mb : pmag b ≠ 0) : (pexp a + blen (pmag a) ≤ pexp b + jz (pmag b)) ↔ Lo (iV a) (iV b) := by
  obtain ⟨i0, i1, i2, i3⟩ := pmag_in pa
  obtain ⟨j0, j1, j2, j3⟩ := pmag_in pb
  obtain ⟨m, hm, _, _⟩ := jz_spec (show 0 < pmag b by omega) (by omega)
  have e1 := iV_form ha pa
  have e2 := iV_form hb pb
  have hl := blen_lt (pmag a)
  obtain ⟨_, hg⟩ := blen_pos (show 0 < pmag a by omega)
  have hb1 : 1 ≤ blen (pmag a) := (blen_pos (show 0 < pmag a by omega)).1
  have p1 := two_pos (pexp a + 1074).toNat
  have p2' := two_pos (pexp b + 1074).toNat
  have s1 : pmag a * 2 ^ (pexp a + 1074).toNat < 2 ^ blen (pmag a) * 2 ^ (pexp a + 1074).toNat := Int.mul_lt_mul_of_pos_right hl p1
  rw [← Int.pow_add] at s1
  have s2 : (2 : Int) ^ (blen (pmag a) - 1) * 2 ^ (pexp a + 1074).toNat ≤ pmag a * 2 ^ (pexp a + 1074).toNat := Int.mul_le_mul_of_nonneg_right hg (by omega)
  rw [← Int.pow_add] at s2
  have e3 : ((iV b).natAbs : Int) = 2 ^ (jz (pmag b) + (pexp b + 1074).toNat) * (2 * (m : Int) + 1) := by
    rw [e2, Int.pow_add]
    calc pmag b * 2 ^ (pexp b + 1074).toNat = 2 ^ jz (pmag b) * (2 * (m : Int) + 1) * 2 ^ (pexp b + 1074).toNat := by rw [← hm]
      _ = _ := by rw [Int.mul_assoc, Int.mul_comm (2 * (m : Int) + 1), ← Int.mul_assoc]
  constructor
  · intro h
    refine ⟨blen (pmag a) + (pexp a + 1074).toNat, by rw [e1]; exact s1, ?_⟩
    apply Int.dvd_natAbs.1
    rw [e3]
    exact Int.dvd_trans (p2dvd (by omega)) ⟨_, rfl⟩
  · rintro ⟨s, h1, h2⟩
    have h3 : (2 ^ s : Int) ∣ 2 ^ (jz (pmag b) + (pexp b + 1074).toNat) * (2 * (m : Int) + 1) := by
      rw [← e3]
      exact Int.dvd_natAbs.2 h2
    have h4 := odd_dvd h3
    rw [e1] at h1
    have h5 := p2lt (Int.lt_of_le_of_lt s2 h1)
    omega
/-- An expansion, by its worths. -/
structure XV (d : Nat → Int) (n : Nat) : Prop where
  fin : ∀ i, i < n → rng (d i) ∧ pok (d i) = true ∧ rg (d i) ≠ 0
  lo : ∀ i, i + 1 < n → Lo (iV (d i)) (iV (d (i + 1)))
theorem XV.ne {d : Nat → Int} {n : Nat} (h : XV d n) {i : Nat} (hi : i < n) : iV (d i) ≠ 0 := (iV_some (h.fin i hi).1 (h.fin i hi).2.1 (h.fin i hi).2.2).1
theorem xval_of {d : Nat → Int} : ∀ {n}, XV d n → xval d n = true
  | 0, _ => rfl
  | n + 1, h => by
    have ih : xval d n = true := xval_of ⟨fun i hi => h.fin i (by omega), fun i hi => h.lo i (by omega)⟩
    rw [xval_succ, ih, Bool.true_and]
    obtain ⟨r, p, z⟩ := h.fin n (by omega)
    have hm := (iV_some r p z).2
    have hx := xmag_in (d n)
    unfold xok
    have hz : decide (pmag (d n) = 0) = false := decide_eq_false hm
    rw [hz]
    cases n with
    | zero =>
      have : xab d 0 = -9223372036854775808 := rfl
      rw [this]
      have : ¬ (pexp (d 0) + jz (pmag (d 0)) < -9223372036854775808) := by omega
      simp [this]
    | succ j =>
      have e : xab d (j + 1) = pexp (d j) + blen (pmag (d j)) := rfl
      obtain ⟨r', p', z'⟩ := h.fin j (by omega)
      have := (lo_iff r' r p' p (iV_some r' p' z').2 hm).2 (h.lo j (by omega))
      rw [e]
      have : ¬ (pexp (d (j + 1)) + jz (pmag (d (j + 1))) < pexp (d j) + blen (pmag (d j))) := by omega
      simp [this]
theorem XV.far {d : Nat → Int} {n : Nat} (h : XV d n) {i : Nat} : ∀ {j}, i < j → j < n → Lo (iV (d i)) (iV (d j))
  | 0, hij, _ => absurd hij (Nat.not_lt_zero _)
  | j + 1, hij, hj => by
    by_cases e : i = j
    · subst e; exact h.lo i hj
    · exact (h.far (show i < j by omega) (by omega)).trans (h.ne (by omega)) (h.lo j hj)
/-- Where a step stands: the list so far is an expansion, and all that is to come lies above each of its floats. -/
structure GI (d : Nat → Int) (q : Int) (n k : Nat) : Prop where
  xv : XV (gs d q k).d (gs d q k).n
  up : ∀ i, i < (gs d q k).n → ∃ s : Nat, ((iV ((gs d q k).d i)).natAbs : Int) < 2 ^ s ∧ (2 ^ s : Int) ∣ iV (gq d q k) ∧ ∀ j, k ≤ j → j < n → (2 ^ s : Int) ∣ iV (d j)
theorem XV.add {s : Ls} (h : XV s.d s.n) {b : Int} (hb : rng b) (pb : pok b = true) (hlo : ∀ i, i < s.n → Lo (iV (s.d i)) (iV b)) : XV (s.add b).d (s.add b).n := by
  unfold Ls.add
  split
  · exact h
  · rename_i hz
    refine ⟨fun i hi => ?_, fun i hi => ?_⟩
    · show rng (upd s.d s.n b i) ∧ pok (upd s.d s.n b i) = true ∧ rg (upd s.d s.n b i) ≠ 0
      by_cases e : i = s.n
      · subst e; rw [upd_same]; exact ⟨hb, pb, hz⟩
      · rw [upd_other _ _ e]; exact h.fin i (by have : i < s.n + 1 := hi; omega)
    · have hi' : i + 1 < s.n + 1 := hi
      show Lo (iV (upd s.d s.n b i)) (iV (upd s.d s.n b (i + 1)))
      rw [upd_other _ _ (show i ≠ s.n by omega)]
      by_cases e : i + 1 = s.n
      · rw [e, upd_same]; exact hlo i (by omega)
      · rw [upd_other _ _ e]; exact h.lo i (by omega)
/-- The sum, as it is rounded. -/
theorem fsum_nr {p q : Int} (hp : rng p) (hq : rng q) (h : pok (sL p q) = true) : Nr (iV p + iV q) (iV (fsum p q)) := by
  obtain ⟨⟨pp, pq⟩, ps, e⟩ := sL_exact hp hq h
  exact (stp_sum hp hq pp pq).nr ps
theorem gi_step {d : Nat → Int} {q : Int} {n k : Nat} (hd : XV d n) (hq : rng q) (pq : pok q = true) (hk : k < n) (hx : gx d q (k + 1) = true) (h : GI d q n k) : GI d q n (k + 1) := by
  have hfin : ∀ i, i < n → rng (d i) ∧ pok (d i) = true := fun i hi => ⟨(hd.fin i hi).1, (hd.fin i hi).2.1⟩
  have hx' : (gx d q k && pok (gl d q k)) = true := hx
  rw [Bool.and_eq_true] at hx'
  obtain ⟨r1, r2⟩ := gq_fin hfin hq pq k (by omega) hx'.1
  obtain ⟨d1, d2⟩ := hfin k hk
  have hl : pok (sL (gq d q k) (d k)) = true := hx'.2
  obtain ⟨_, ps, e⟩ := sL_exact r1 d1 hl
  have nr := fsum_nr r1 d1 hl
  have rl : rng (gl d q k) := sL_rng r1 d1
  have eq1 : gq d q (k + 1) = fsum (gq d q k) (d k) := rfl
  have egl : gl d q k = sL (gq d q k) (d k) := rfl
  have es : gs d q (k + 1) = (gs d q k).add (gl d q k) := rfl
  rw [← egl, ← eq1] at e
  rw [← eq1] at nr
  have herr : iV (gl d q k) = iV (gq d q k) + iV (d k) - iV (gq d q (k + 1)) := by omega
  have hold : ∀ i, i < (gs d q k).n → ∃ s : Nat, ((iV ((gs d q k).d i)).natAbs : Int) < 2 ^ s ∧ (2 ^ s : Int) ∣ iV (gq d q (k + 1)) ∧ (2 ^ s : Int) ∣ iV (gl d q k) ∧ ∀ j, k + 1 ≤ j → j < n → (2 ^ s : Int) ∣ iV (d j) := fun i hi => by
    obtain ⟨s, h1, h2, h3⟩ := h.up i hi
    have h4 : (2 ^ s : Int) ∣ iV (gq d q k) + iV (d k) := Int.dvd_add h2 (h3 k (Nat.le_refl _) hk)
    have h5 := nr_dvd nr h4
    exact ⟨s, h1, h5, by rw [herr]; exact Int.dvd_sub h4 h5, fun j hj hjn => h3 j (by omega) hjn⟩
  have hnew : rg (gl d q k) ≠ 0 → ∃ s : Nat, ((iV (gl d q k)).natAbs : Int) < 2 ^ s ∧ (2 ^ s : Int) ∣ iV (gq d q (k + 1)) ∧ ∀ j, k + 1 ≤ j → j < n → (2 ^ s : Int) ∣ iV (d j) := fun hz => by
    have hne := (iV_some rl hx'.2 hz).1
    obtain ⟨u, h1, h2⟩ := nr_unit nr (fun c => hne (by rw [herr, c]; omega))
    rw [← herr] at h2
    by_cases hlast : k + 1 < n
    · obtain ⟨t, k1, k2⟩ := hd.lo k hlast
      have h3 := nr_loss (fl_iV (gq d q k)) nr
      rw [← herr] at h3
      have hup : ∀ j, k + 1 ≤ j → j < n → (2 ^ t : Int) ∣ iV (d j) := fun j hj hjn => by
        by_cases e : j = k + 1
        · subst e; exact k2
        · obtain ⟨t2, m1, m2⟩ := hd.far (show k + 1 < j by omega) hjn
          have h4 := dvd_abs_le k2 (hd.ne hlast) (p2 t)
          have h5 : t < t2 := p2lt (Int.lt_of_le_of_lt h4 m1)
          exact Int.dvd_trans (p2dvd (by omega)) m2
      by_cases hut : u ≤ t
      · exact ⟨u, h2, h1, fun j hj hjn => Int.dvd_trans (p2dvd hut) (hup j hj hjn)⟩
      · exact ⟨t, by omega, Int.dvd_trans (p2dvd (by omega)) h1, hup⟩
    · exact ⟨u, h2, h1, fun j hj hjn => by omega⟩
  refine ⟨?_, ?_⟩
  · rw [es]
    exact h.xv.add rl hx'.2 fun i hi => by
      obtain ⟨s, h1, _, h3, _⟩ := hold i hi
      exact ⟨s, h1, h3⟩
  · rw [es]
    intro i hi
    by_cases hz : rg (gl d q k) = 0
    · have ea : (gs d q k).add (gl d q k) = gs d q k := by unfold Ls.add; rw [if_pos hz]
      rw [ea] at hi ⊢
      obtain ⟨s, h1, h2, _, h4⟩ := hold i hi
      exact ⟨s, h1, h2, h4⟩
    · have ea : (gs d q k).add (gl d q k) = ⟨(gs d q k).n + 1, upd (gs d q k).d (gs d q k).n (gl d q k)⟩ := by unfold Ls.add; rw [if_neg hz]
      rw [ea] at hi ⊢
      have hi' : i < (gs d q k).n + 1 := hi
      show ∃ s : Nat, ((iV (upd (gs d q k).d (gs d q k).n (gl d q k) i)).natAbs : Int) < 2 ^ s ∧ _
      by_cases e : i = (gs d q k).n
      · subst e
        rw [upd_same]
        exact hnew hz
      · rw [upd_other _ _ e]
        obtain ⟨s, h1, h2, _, h4⟩ := hold i (by omega)
        exact ⟨s, h1, h2, h4⟩
theorem gi_all {d : Nat → Int} {q : Int} {n : Nat} (hd : XV d n) (hq : rng q) (pq : pok q = true) : ∀ k, k ≤ n → gx d q k = true → GI d q n k
  | 0, _, _ => ⟨⟨fun i hi => absurd hi (Nat.not_lt_zero _), fun i hi => absurd hi (Nat.not_lt_zero _)⟩, fun i hi => absurd hi (Nat.not_lt_zero _)⟩
  | k + 1, hk, hx => by
    have hx' : (gx d q k && pok (gl d q k)) = true := hx
    rw [Bool.and_eq_true] at hx'
    exact gi_step hd hq pq (by omega) hx (gi_all hd hq pq k (by omega) hx'.1)
/-- An expansion that a float is grown into is one. -/
theorem grw_xv {d : Nat → Int} {q : Int} {n : Nat} (hd : XV d n) (hq : rng q) (pq : pok q = true) (hx : gx d q n = true) : XV (grw n d q).d (grw n d q).n := by
  have hfin : ∀ i, i < n → rng (d i) ∧ pok (d i) = true := fun i hi => ⟨(hd.fin i hi).1, (hd.fin i hi).2.1⟩
  obtain ⟨r1, r2⟩ := gq_fin hfin hq pq n (Nat.le_refl _) hx
  have h := gi_all hd hq pq n (Nat.le_refl _) hx
  exact h.xv.add r1 r2 fun i hi => by
    obtain ⟨s, h1, h2, _⟩ := h.up i hi
    exact ⟨s, h1, h2⟩
/-- The exact sum, in units of the least float. -/
def lsm (d : Nat → Int) : Nat → Int
  | 0 => 0
  | k + 1 => lsm d k + iV (d k)
theorem lsm_succ (d : Nat → Int) (k : Nat) : lsm d (k + 1) = lsm d k + iV (d k) := rfl
theorem lsm_congr {d e : Nat → Int} : ∀ {n}, (∀ i, i < n → d i = e i) → lsm d n = lsm e n
  | 0, _ => rfl
  | n + 1, h => by rw [lsm_succ, lsm_succ, lsm_congr fun i hi => h i (by omega), h n (by omega)]
theorem lsm_add {s : Ls} {b : Int} (hb : rng b) : lsm (s.add b).d (s.add b).n = lsm s.d s.n + iV b := by
  unfold Ls.add
  split
  · rename_i hz
    rw [iV_nought hb hz, Int.add_zero]
  · show lsm (upd s.d s.n b) s.n + iV (upd s.d s.n b s.n) = _
    rw [upd_same, lsm_congr (e := s.d) fun i hi => upd_other _ _ (by omega)]
theorem gs_sum {d : Nat → Int} {q : Int} {n : Nat} (hd : ∀ i, i < n → rng (d i) ∧ pok (d i) = true) (hq : rng q) (pq : pok q = true) : ∀ k, k ≤ n → gx d q k = true → lsm (gs d q k).d (gs d q k).n + iV (gq d q k) = iV q + lsm d k
  | 0, _, _ => by show 0 + iV q = iV q + 0; omega
  | k + 1, hk, hx => by
    have hx' : (gx d q k && pok (gl d q k)) = true := hx
    rw [Bool.and_eq_true] at hx'
    have ih := gs_sum hd hq pq k (by omega) hx'.1
    obtain ⟨r1, r2⟩ := gq_fin hd hq pq k (by omega) hx'.1
    obtain ⟨d1, d2⟩ := hd k (by omega)
    have rl : rng (gl d q k) := sL_rng r1 d1
    obtain ⟨_, ps, e⟩ := sL_exact r1 d1 (show pok (sL (gq d q k) (d k)) = true from hx'.2)
    have eq1 : gq d q (k + 1) = fsum (gq d q k) (d k) := rfl
    have egl : gl d q k = sL (gq d q k) (d k) := rfl
    have es : gs d q (k + 1) = (gs d q k).add (gl d q k) := rfl
    rw [← egl, ← eq1] at e
    rw [es, lsm_add rl, lsm_succ]
    omega
theorem grw_sum {d : Nat → Int} {q : Int} {n : Nat} (hd : ∀ i, i < n → rng (d i) ∧ pok (d i) = true) (hq : rng q) (pq : pok q = true) (hx : gx d q n = true) : lsm (grw n d q).d (grw n d q).n = iV q + lsm d n := by
  have h := gs_sum hd hq pq n (Nat.le_refl _) hx
  obtain ⟨r1, r2⟩ := gq_fin hd hq pq n (Nat.le_refl _) hx
  show lsm ((gs d q n).add (gq d q n)).d ((gs d q n).add (gq d q n)).n = _
  rw [lsm_add r1]
  exact h
theorem mult_lt {x u t : Int} {s : Nat} (hs : (2 ^ s : Int) ∣ x) (hu : (2 ^ s : Int) ∣ t) (h : (x.natAbs : Int) < t) : (x.natAbs : Int) + 2 ^ s ≤ t := by
  obtain ⟨a, ha⟩ := Int.dvd_natAbs.2 hs
  obtain ⟨b, hb⟩ := hu
  have p := p2 s
  rw [ha, hb] at h ⊢
  have : a < b := Int.lt_of_mul_lt_mul_left h (Int.le_of_lt p)
  have h2 : (2 : Int) ^ s * (a + 1) ≤ 2 ^ s * b := Int.mul_le_mul_of_nonneg_left (by omega) (Int.le_of_lt p)
  rw [Int.mul_add, Int.mul_one] at h2
  exact h2
/-- What lies below the last float of an expansion is less than its lowest bit; with it, it is less than what the last is less than. -/
theorem lsm_lt {d : Nat → Int} : ∀ {n}, XV d (n + 1) → ∀ t : Nat, ((iV (d n)).natAbs : Int) < 2 ^ t → ((lsm d (n + 1)).natAbs : Int) < 2 ^ t
  | 0, h, t, ht => by
    have : lsm d 1 = iV (d 0) := by rw [lsm_succ]; show 0 + _ = _; omega
    rw [this]; exact ht
  | n + 1, h, t, ht => by
    obtain ⟨s, h1, h2⟩ := h.lo n (by omega)
    have ih := lsm_lt (n := n) ⟨fun i hi => h.fin i (by omega), fun i hi => h.lo i (by omega)⟩ s h1
    have hge := dvd_abs_le h2 (h.ne (by omega)) (p2 s)
    have hst : s < t := p2lt (Int.lt_of_le_of_lt hge ht)
    have h3 := mult_lt (u := 0) h2 (p2dvd (show s ≤ t by omega)) ht
    rw [lsm_succ]
    omega
theorem lsm_ne {d : Nat → Int} {n : Nat} (h : XV d (n + 1)) : lsm d (n + 1) ≠ 0 := by
  cases n with
  | zero =>
    have : lsm d 1 = iV (d 0) := by rw [lsm_succ]; show 0 + _ = _; omega
    rw [this]; exact h.ne (by omega)
  | succ n =>
    obtain ⟨s, h1, h2⟩ := h.lo n (by omega)
    have ih := lsm_lt (n := n) ⟨fun i hi => h.fin i (by omega), fun i hi => h.lo i (by omega)⟩ s h1
    have hge := dvd_abs_le h2 (h.ne (by omega)) (p2 s)
    rw [lsm_succ]
    omega
/-- An expansion of 0 is empty. -/
theorem xv_zero {d : Nat → Int} {n : Nat} (h : XV d n) (h0 : lsm d n = 0) : n = 0 := by
  cases n with
  | zero => rfl
  | succ n => exact absurd h0 (lsm_ne h)
end Go.Proofs.YtmghplbmfjhkcaaDoor

/-
  Plain mathematics: sums of expansions, where no step is too great.
-/
namespace Go.Proofs.YtmghplbmfjhkcaaDoor
open Go Go.RowKit Go.Proofs.YtmghplbmfjhkcaaDoor.M
set_option linter.unusedSimpArgs false
set_option linter.unusedVariables false

theorem maxV_ge : (2 : Int) ^ 2097 ≤ maxV := by
  have h : (2 : Int) ^ 2097 ≤ (V Ieee.double 9218868437227405311 : Int) := by decide +kernel
  exact h
theorem p2_up {b c : Nat} {x : Int} (h : (x.natAbs : Int) ≤ 2 ^ b) (hbc : b ≤ c) : (x.natAbs : Int) ≤ 2 ^ c := Int.le_trans h (p2le hbc)
/-- No float of a list is greater. -/
def LB (s : Ls) (b : Nat) : Prop := ∀ i, i < s.n → ((iV (s.d i)).natAbs : Int) ≤ 2 ^ b
theorem LB.add {s : Ls} {b : Nat} (h : LB s b) {x : Int} (hx : ((iV x).natAbs : Int) ≤ 2 ^ b) : LB (s.add x) b := by
  unfold Ls.add
  split
  · exact h
  · intro i hi
    show ((iV (upd s.d s.n x i)).natAbs : Int) ≤ _
    by_cases e : i = s.n
    · subst e; rw [upd_same]; exact hx
    · rw [upd_other _ _ e]; exact h i (by have : i < s.n + 1 := hi; omega)
theorem gq_bd {d : Nat → Int} {q : Int} {n b : Nat} (hd : ∀ i, i < n → rng (d i) ∧ pok (d i) = true) (hq : rng q) (pq : pok q = true) (bd : ∀ i, i < n → ((iV (d i)).natAbs : Int) ≤ 2 ^ b) (bq : ((iV q).natAbs : Int) ≤ 2 ^ b) (hb : b + 2 * n ≤ 2090) :
    ∀ k, k ≤ n → gx d q k = true ∧ ((iV (gq d q k)).natAbs : Int) ≤ 2 ^ (b + 2 * k) ∧ LB (gs d q k) b
  | 0, _ => ⟨rfl, bq, fun i hi => absurd hi (Nat.not_lt_zero _)⟩
  | k + 1, hk => by
    obtain ⟨h1, h2, h3⟩ := gq_bd hd hq pq bd bq hb k (by omega)
    obtain ⟨r1, r2⟩ := gq_fin hd hq pq k (by omega) h1
    obtain ⟨d1, d2⟩ := hd k (by omega)
    have b1 := bd k (by omega)
    have hM := maxV_ge
    have p1 : (2 : Int) ^ (b + 2 * k + 1) ≤ 2 ^ 2097 := p2le (by omega)
    have p2' : (2 : Int) ^ (b + 1) ≤ 2 ^ 2097 := p2le (by omega)
    rw [p2s] at p1 p2'
    obtain ⟨f1, f2⟩ := sum_fin r1 d1 r2 d2 (by omega) (by omega)
    have nr := fsum_nr r1 d1 f2
    have hx : gx d q (k + 1) = true := by
      show (gx d q k && pok (gl d q k)) = true
      rw [h1]; exact f2
    have e := (sL_exact r1 d1 f2).2.2
    have hl := nr_loss (fl_iV (gq d q k)) nr
    have h0 := nr.2 0 fl_zero
    have hle : (2 : Int) ^ b ≤ 2 ^ (b + 2 * k) := p2le (by omega)
    have p3 : (2 : Int) ^ (b + 2 * (k + 1)) = 4 * 2 ^ (b + 2 * k) := by
      rw [show b + 2 * (k + 1) = b + 2 * k + 1 + 1 by omega, p2s, p2s]; omega
    refine ⟨hx, ?_, ?_⟩
    · show ((iV (fsum (gq d q k) (d k))).natAbs : Int) ≤ _
      rw [p3]
      omega
    · show LB ((gs d q k).add (gl d q k)) b
      refine h3.add ?_
      show ((iV (sL (gq d q k) (d k))).natAbs : Int) ≤ _
      have : iV (sL (gq d q k) (d k)) = iV (gq d q k) + iV (d k) - iV (fsum (gq d q k) (d k)) := by omega
      rw [this]
      omega
theorem grw_bd {s : Ls} {q : Int} {b : Nat} (hs : s.fin) (hq : rng q) (pq : pok q = true) (bd : LB s b) (bq : ((iV q).natAbs : Int) ≤ 2 ^ b) (hb : b + 2 * s.n ≤ 2090) : gx s.d q s.n = true ∧ LB (grw s.n s.d q) (b + 2 * s.n) := by
  obtain ⟨h1, h2, h3⟩ := gq_bd hs hq pq bd bq hb s.n (Nat.le_refl _)
  refine ⟨h1, ?_⟩
  show LB ((gs s.d q s.n).add (gq s.d q s.n)) _
  exact LB.add (fun i hi => p2_up (h3 i hi) (by omega)) h2
theorem XV.fn {s : Ls} (h : XV s.d s.n) : s.fin := fun i hi => ⟨(h.fin i hi).1, (h.fin i hi).2.1⟩
/-- Each float of a list grown into an expansion. -/
theorem gaS_all {s : Ls} {f : Nat → Int} {m b L : Nat} (hs : XV s.d s.n) (hf : ∀ i, i < m → rng (f i) ∧ pok (f i) = true) (bs : LB s b) (bf : ∀ i, i < m → ((iV (f i)).natAbs : Int) ≤ 2 ^ b) (hL : s.n + m ≤ L) (hb : b + 2 * L * m ≤ 2090) :
    ∀ k, k ≤ m → gaX s f k = true ∧ XV (gaS s f k).d (gaS s f k).n ∧ LB (gaS s f k) (b + 2 * L * k) ∧ lsm (gaS s f k).d (gaS s f k).n = lsm s.d s.n + lsm f k
  | 0, _ => ⟨rfl, hs, bs, by show lsm s.d s.n = lsm s.d s.n + 0; omega⟩
  | k + 1, hk => by
    obtain ⟨h1, h2, h3, h4⟩ := gaS_all hs hf bs bf hL hb k (by omega)
    obtain ⟨f1, f2⟩ := hf k (by omega)
    have hn := gaS_le s f k
    have hmul : 2 * L * (k + 1) ≤ 2 * L * m := Nat.mul_le_mul_left _ (by omega)
    rw [Nat.mul_add, Nat.mul_one] at hmul
    obtain ⟨g1, g2⟩ := grw_bd h2.fn f1 f2 h3 (p2_up (bf k (by omega)) (by omega)) (by omega)
    rw [gaX_succ, gaS_succ, h1, g1, lsm_succ]
    refine ⟨rfl, grw_xv h2 f1 f2 g1, fun i hi => p2_up (g2 i hi) (by rw [Nat.mul_add, Nat.mul_one]; omega), ?_⟩
    rw [grw_sum h2.fn f1 f2 g1, h4]
    omega
theorem lsm_neg {f : Nat → Int} : ∀ {m}, (∀ i, i < m → rng (f i) ∧ pok (f i) = true) → lsm (fun i => neg (f i)) m = -lsm f m
  | 0, _ => rfl
  | m + 1, h => by
    rw [lsm_succ, lsm_succ, lsm_neg fun i hi => h i (by omega), (neg_facts (h m (by omega)).1 (h m (by omega)).2).2.2]
    omega
end Go.Proofs.YtmghplbmfjhkcaaDoor

/-
  Plain mathematics: a pattern whose exponent is brought to the middle.
-/
namespace Go.Proofs.YtmghplbmfjhkcaaDoor
open Go Go.RowKit Go.Proofs.YtmghplbmfjhkcaaDoor.M
set_option linter.unusedSimpArgs false
set_option linter.unusedVariables false

/-- plumblaw7.made's pattern. -/
def mdb (z : Int) : Int := bits .or .i64 (bits .andNot .i64 z 9218868437227405312) ((823 + z / 4503599627370496 % 256) * 4503599627370496)
theorem mid_nat (u e : Nat) (he : e < 2048) : ((u &&& 9227875636482146303) ||| (e * 4503599627370496)) / 4503599627370496 % 2048 = e := by
  have h1 : ∀ a : Nat, a / 4503599627370496 = a >>> 52 := fun a => (Nat.shiftRight_eq_div_pow a 52).symm
  rw [h1, Nat.shiftRight_or_distrib, Nat.shiftRight_and_distrib]
  have h2 : (9227875636482146303 : Nat) >>> 52 = 2048 := by decide
  have h3 : (e * 4503599627370496) >>> 52 = e := by
    rw [Nat.shiftRight_eq_div_pow]; exact Nat.mul_div_cancel _ (by decide)
  rw [h2, h3]
  have h4 : ((u >>> 52 &&& 2048) ||| e) % 2 ^ 11 = ((u >>> 52 &&& 2048) % 2 ^ 11) ||| (e % 2 ^ 11) := Nat.or_mod_two_pow
  have h5 : (u >>> 52 &&& 2048) % 2 ^ 11 = (u >>> 52 % 2 ^ 11) &&& (2048 % 2 ^ 11) := Nat.and_mod_two_pow
  have h6 : (u >>> 52 % 2 ^ 11 &&& 2048 % 2 ^ 11) = 0 := by
    rw [show (2048 : Nat) % 2 ^ 11 = 0 by decide, Nat.and_zero]
  show _ % 2 ^ 11 = e
  rw [h4, h5, h6, Nat.zero_or]
  exact Nat.mod_eq_of_lt he
theorem wrap_nat (x : Nat) (h : x < 18446744073709551616) : (IntKind.i64.wrap (x : Int) % 18446744073709551616).toNat = x := by
  rw [IntKind.wrap_i64]
  omega
theorem shl_nat (e : Nat) (h : e < 2048) : (((e : Int) * 4503599627370496) % 18446744073709551616).toNat = e * 4503599627370496 := by omega
theorem fld_wrap (W e : Nat) (h : W < 18446744073709551616) (h3 : W / 4503599627370496 % 2048 = e) : rng (IntKind.i64.wrap (W : Int)) ∧ fld (IntKind.i64.wrap (W : Int)) = e := by
  unfold rng fld
  rw [IntKind.wrap_i64]
  omega
theorem or_lt64 {x y : Nat} (hx : x < 18446744073709551616) (hy : y < 18446744073709551616) : (x ||| y) < 18446744073709551616 := by
  have := Nat.or_lt_two_pow (n := 64) (x := x) (y := y) (by exact hx) (by exact hy)
  exact this
theorem mid_e (z : Int) : ∃ e : Nat, 823 + z / 4503599627370496 % 256 = e ∧ e < 2048 := ⟨(823 + z / 4503599627370496 % 256).toNat, by omega, by omega⟩
theorem and_lt64 (u : Nat) : u &&& 9227875636482146303 < 18446744073709551616 := Nat.lt_of_le_of_lt Nat.and_le_right (by decide)
theorem mid_fld (z : Int) : rng (mdb z) ∧ fld (mdb z) = 823 + z / 4503599627370496 % 256 := by
  obtain ⟨e, he, he2⟩ := mid_e z
  unfold mdb
  rw [he, bits_andNot64, bits_or64]
  have m1 : (18446744073709551615 - ((9218868437227405312 : Int) % 18446744073709551616).toNat) = 9227875636482146303 := by decide
  rw [m1, wrap_nat _ (and_lt64 _), shl_nat e he2]
  exact fld_wrap _ e (or_lt64 (and_lt64 _) (by omega)) (mid_nat _ e he2)
theorem mdb_eq (z : Int) : bits .or .i64 (bits .andNot .i64 z 9218868437227405312) (wrap64 (wrap64 (823 + bits .and .i64 (z / 4503599627370496) 255) * 4503599627370496)) = mdb z := by
  obtain ⟨e, he, he2⟩ := mid_e z
  rw [and_i64_255]
  unfold mdb
  rw [he, IntWalk.wrap64_in (e : Int) ⟨by omega, by omega⟩, IntWalk.wrap64_in ((e : Int) * 4503599627370496) ⟨by omega, by omega⟩]
theorem mid_facts (z : Int) : rng (mdb z) ∧ pok (mdb z) = true ∧ rg (mdb z) ≠ 0 ∧ ((iV (mdb z)).natAbs : Int) ≤ 2 ^ 1130 := by
  obtain ⟨h1, h2⟩ := mid_fld z
  have hf0 : fld (mdb z) ≠ 2047 := by omega
  have hf1 : fld (mdb z) ≠ 0 := by omega
  have hp : pok (mdb z) = true := by simp [pok, hf0]
  have hc : cls (mdb z) = 2 := by unfold cls; rw [if_neg hf0, if_neg hf1]
  have hfr := frc_le (mdb z)
  refine ⟨h1, hp, fun q => ?_, ?_⟩
  · have := (cls_nought h1).2 q
    omega
  · rw [iV_form h1 hp]
    have e1 : pmag (mdb z) = 4503599627370496 + frc (mdb z) := by unfold pmag; rw [if_neg hf0, if_neg hf1]
    have e2 : pexp (mdb z) = fld (mdb z) - 1075 := by unfold pexp; rw [if_neg hf0, if_neg hf1]
    have hm : pmag (mdb z) ≤ 2 ^ 53 := by
      rw [e1]
      show _ ≤ 9007199254740992
      omega
    have hx : (pexp (mdb z) + 1074).toNat ≤ 1077 := by rw [e2]; omega
    have p1 : (2 : Int) ^ (pexp (mdb z) + 1074).toNat ≤ 2 ^ 1077 := p2le hx
    have p0 := p2 (pexp (mdb z) + 1074).toNat
    calc pmag (mdb z) * 2 ^ (pexp (mdb z) + 1074).toNat ≤ 2 ^ 53 * 2 ^ (pexp (mdb z) + 1074).toNat := Int.mul_le_mul_of_nonneg_right hm (by omega)
      _ ≤ 2 ^ 53 * 2 ^ 1077 := Int.mul_le_mul_of_nonneg_left p1 (by decide)
      _ = 2 ^ 1130 := by rw [← Int.pow_add]
end Go.Proofs.YtmghplbmfjhkcaaDoor

/-
  plumblaw7.made, by its contract.
-/
namespace Go.Proofs.YtmghplbmfjhkcaaDoor
open Go Go.RowKit Go.Proofs.YtmghplbmfjhkcaaDoor.M
set_option linter.unusedSimpArgs false
set_option linter.unusedVariables false

/-- What made makes of a list. -/
def mdS (z : Nat → Int) (l : Nat) : Ls := gaS ⟨0, fun _ => 0⟩ (fun i => mdb (z i)) (min l 12)
theorem mdS_all (z : Nat → Int) (k : Nat) (hk : k ≤ 12) : gaX ⟨0, fun _ => 0⟩ (fun i => mdb (z i)) k = true ∧ XV (gaS ⟨0, fun _ => 0⟩ (fun i => mdb (z i)) k).d (gaS ⟨0, fun _ => 0⟩ (fun i => mdb (z i)) k).n ∧ LB (gaS ⟨0, fun _ => 0⟩ (fun i => mdb (z i)) k) (1130 + 2 * 12 * k) := by
  obtain ⟨h1, h2, h3, _⟩ := gaS_all (s := ⟨0, fun _ => 0⟩) (f := fun i => mdb (z i)) (m := 12) (b := 1130) (L := 12) ⟨fun i hi => absurd hi (Nat.not_lt_zero _), fun i hi => absurd hi (Nat.not_lt_zero _)⟩ (fun i _ => ⟨(mid_facts (z i)).1, (mid_facts (z i)).2.1⟩) (fun i hi => absurd hi (Nat.not_lt_zero _)) (fun i _ => (mid_facts (z i)).2.2.2) (by decide) (by decide) k hk
  exact ⟨h1, h2, h3⟩
set_option maxRecDepth 100000 in
set_option maxHeartbeats 1000000 in
theorem made_any {lo : Option Addr} {l lc : Nat} {z : Nat → Int} (w : World) (h : Row w lo l lc z) (H : Hold4 w) :
    Calls Tryd.prog 4 #[.slice lo l lc, .int .i64 12] w fun r w' => ∃ eo ec, r = .returned (.tuple #[.slice eo (mdS z l).n ec, .bool true]) ∧ Row w' eo (mdS z l).n ec (mdS z l).d ∧ Below w.heap.size w w' := by
  have HR : Hid (Row w lo l lc z) := h
  have hle := h.le
  have hmx := h.max
  have HH : Hid (Hold4 w) := H
  clear h H
  go_enter Tryd.func4, Tryd.ntmps4
  go_wp2_with fail
  go_loopw [6, 7] (fun ev iv wr => ∃ (k : Nat) (eo : Option Addr) (ec : Nat), k ≤ min l 12 ∧ iv = .int .i64 k ∧ ev = .slice eo (gaS ⟨0, fun _ => 0⟩ (fun i => mdb (z i)) k).n ec ∧ Hid (Row wr eo (gaS ⟨0, fun _ => 0⟩ (fun i => mdb (z i)) k).n ec (gaS ⟨0, fun _ => 0⟩ (fun i => mdb (z i)) k).d) ∧ Below w.heap.size w wr) (fun _ iv _ => 12 - (intOf iv).toNat)
  case atStart => exact ⟨0, none, 0, Nat.zero_le _, rfl, rfl, Row.nil _ _, bel_refl _⟩
  case round =>
    obtain ⟨k, eo, ec, hk, rfl, rfl, HE, hbw⟩ := hrel
    by_cases hlt : k < min l 12
    · obtain ⟨bb, off, rfl, hbb, hc⟩ := (HR.out.keeps hbw).spot (by omega)
      have c0 := hc k (by omega)
      clear hc
      obtain ⟨x1, x2, x3⟩ := mdS_all z k (by omega)
      obtain ⟨m1, m2, m3, m4⟩ := mid_facts (z k)
      have CG := fun W (hW : Below wr.heap.size wr W) => xGrow W (HE.out.keeps hW) (fun i hi => (x2.fin i hi).1) (xval_of x2) m1 m2 (by have := gaS_le ⟨0, fun _ => 0⟩ (fun i => mdb (z i)) k; have : (gaS ⟨0, fun _ => 0⟩ (fun i => mdb (z i)) k).n ≤ 0 + k := this; omega) (HH.out.keeps (bel_trans hbw hW))
      have HX : Hid (gx (gaS ⟨0, fun _ => 0⟩ (fun i => mdb (z i)) k).d (mdb (z k)) (gaS ⟨0, fun _ => 0⟩ (fun i => mdb (z i)) k).n = true) := by
        have := (mdS_all z (k + 1) (by omega)).1
        rw [gaX_succ, Bool.and_eq_true] at this
        exact this.2
      have HS : Hid (gaS ⟨0, fun _ => 0⟩ (fun i => mdb (z i)) (k + 1) = grw (gaS ⟨0, fun _ => 0⟩ (fun i => mdb (z i)) k).n (gaS ⟨0, fun _ => 0⟩ (fun i => mdb (z i)) k).d (mdb (z k))) := gaS_succ _ _ _
      have HMD : Hid (bits .or .i64 (bits .andNot .i64 (z k) 9218868437227405312) ((823 + z k / 4503599627370496 % 256) * 4503599627370496) = mdb (z k)) := rfl
      clear x1 x2 x3 m1 m2 m3 m4
      have i0 : (0 : Int) ≤ (k : Int) := by omega
      have i1 : (k : Int) < (l : Int) := by omega
      have i2 : (k : Int) < 12 := by omega
      go_wp2_with fail
      go_region_held3 (fun W => W.cell? ⟨bb, off + k, none⟩ = some (.int .i64 (z k))) (first | exact c0 | go_keep | fail) (fail)
      all_goals
        go_wp2_with fail
        rw [mdb_eq]
        refine (CG _ (bel_refl _).drew).mono ?_
        rintro _ w2 hx
        obtain ⟨ao, cap, rfl, hR2, hb2⟩ := hx.yes HX.out
        have hb2' := bel_trans (bel_refl wr).drew hb2
        go_wp2
        go_roundw
        case rel => exact ⟨k + 1, ao, cap, by omega, by go_num, by rw [HS.out], by show Row _ _ _ _ _; rw [HS.out]; exact hR2, bel_trans hbw hb2'⟩
        case measure => simp [intOf]; omega
    · obtain rfl : k = min l 12 := by omega
      have HFIN : Hid (Row wr eo (mdS z l).n ec (mdS z l).d) := HE.out
      have HSE : Hid (gaS ⟨0, fun _ => 0⟩ (fun i => mdb (z i)) (min l 12) = mdS z l) := rfl
      rw [HSE.out]
      generalize hK : min l 12 = K at *
      have hor : ¬ (K : Int) < (l : Int) ∨ ¬ (K : Int) < 12 := by omega
      clear HE HSE
      rcases hor with h1 | h1
      · go_wp2
        all_goals refine bodyPost_ret (v := .tuple #[.slice eo (mdS z l).n ec, .bool true]) (by simp [results, Tryd.results4, go_sem]) rfl ⟨_, _, rfl, HFIN.out, hbw⟩
      · by_cases h2 : (K : Int) < (l : Int)
        all_goals
          go_wp2
          refine bodyPost_ret (v := .tuple #[.slice eo (mdS z l).n ec, .bool true]) (by simp [results, Tryd.results4, go_sem]) rfl ⟨_, _, rfl, HFIN.out, hbw⟩
end Go.Proofs.YtmghplbmfjhkcaaDoor
