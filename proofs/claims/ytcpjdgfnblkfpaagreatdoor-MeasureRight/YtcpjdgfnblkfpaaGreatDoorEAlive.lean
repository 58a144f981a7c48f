/-
  plumblaw6.alive, by its contract: the steps at its constants.
-/
import Derived.Test.YtcpjdgfnblkfpaaGreatDoorEHelp
namespace Go.Proofs.YtcpjdgfnblkfpaaGreatDoor
open Go Go.RowKit Go.Proofs.YtcpjdgfnblkfpaaGreatDoor.M Ieee
set_option linter.unusedSimpArgs false
set_option linter.unusedVariables false

theorem fw_c {p r : Int} {c : Nat} (h : FW p c) (hr : patW c = r) (hn : c % 9223372036854775808 ≤ 9218868437227405312) : p = r := by
  rcases h with ⟨_, hp, e⟩ | ⟨_, hN⟩
  · rw [← hr, e, patW_wd hp]
  · have := hN.2; omega
theorem fsum_c {p q r : Int} {x y c : Nat} (hp : FW p x) (hq : FW q y) (h : Ieee.double.add x y = some c) (hr : patW c = r) (hn : c % 9223372036854775808 ≤ 9218868437227405312) : fsum p q = r := by
  rcases add_FW hp hq with ⟨z, e, f⟩ | ⟨e, _⟩
  · rw [h] at e; cases e; exact fw_c f hr hn
  · rw [h] at e; cases e
theorem fprod_c {p q r : Int} {x y c : Nat} (hp : FW p x) (hq : FW q y) (h : Ieee.double.mul x y = some c) (hr : patW c = r) (hn : c % 9223372036854775808 ≤ 9218868437227405312) : fprod p q = r := by
  rcases mul_FW hp hq with ⟨z, e, f⟩ | ⟨e, _⟩
  · rw [h] at e; cases e; exact fw_c f hr hn
  · rw [h] at e; cases e
theorem ea_w0 : FW 4607182418800017408 4607182418800017408 := .inl ⟨by decide, by unfold rng; decide, by decide⟩
theorem ea_w1 : FW 4336966441157787648 4336966441157787648 := .inl ⟨by decide, by unfold rng; decide, by decide⟩
theorem ea_s1 : fsum 4607182418800017408 4336966441157787648 = 4607182418800017408 := fsum_c ea_w0 ea_w1 (c := 4607182418800017408) (by decide +kernel) (by decide) (by decide)
theorem ea_n4607182418800017408 : M.neg 4607182418800017408 = (-4616189618054758400) := by decide
theorem ea_w3 : FW (-4616189618054758400) 13830554455654793216 := .inl ⟨by decide, by unfold rng; decide, by decide⟩
theorem ea_s2 : fsum 4607182418800017408 (-4616189618054758400) = 0 := fsum_c ea_w0 ea_w3 (c := 0) (by decide +kernel) (by decide) (by decide)
theorem ea_n0 : M.neg 0 = (-9223372036854775808) := by decide
theorem ea_w5 : FW (-9223372036854775808) 9223372036854775808 := .inl ⟨by decide, by unfold rng; decide, by decide⟩
theorem ea_s3 : fsum 4607182418800017408 (-9223372036854775808) = 4607182418800017408 := fsum_c ea_w0 ea_w5 (c := 4607182418800017408) (by decide +kernel) (by decide) (by decide)
theorem ea_s4 : fsum 4607182418800017408 (-4616189618054758400) = 0 := fsum_c ea_w0 ea_w3 (c := 0) (by decide +kernel) (by decide) (by decide)
theorem ea_s5 : fsum 4336966441157787648 (-9223372036854775808) = 4336966441157787648 := fsum_c ea_w1 ea_w5 (c := 4336966441157787648) (by decide +kernel) (by decide) (by decide)
theorem ea_w6 : FW 0 0 := .inl ⟨by decide, by unfold rng; decide, by decide⟩
theorem ea_s6 : fsum 0 4336966441157787648 = 4336966441157787648 := fsum_c ea_w6 ea_w1 (c := 4336966441157787648) (by decide +kernel) (by decide) (by decide)
theorem ea_w7 : FW 4728779608772575232 4728779608772575232 := .inl ⟨by decide, by unfold rng; decide, by decide⟩
theorem ea_w8 : FW 4607182418800017409 4607182418800017409 := .inl ⟨by decide, by unfold rng; decide, by decide⟩
theorem ea_s7 : fprod 4728779608772575232 4607182418800017409 = 4728779608772575233 := fprod_c ea_w7 ea_w8 (c := 4728779608772575233) (by decide +kernel) (by decide) (by decide)
theorem ea_n4607182418800017409 : M.neg 4607182418800017409 = (-4616189618054758399) := by decide
theorem ea_w10 : FW 4728779608772575233 4728779608772575233 := .inl ⟨by decide, by unfold rng; decide, by decide⟩
theorem ea_w11 : FW (-4616189618054758399) 13830554455654793217 := .inl ⟨by decide, by unfold rng; decide, by decide⟩
theorem ea_s8 : fsum 4728779608772575233 (-4616189618054758399) = 4728779608739020801 := fsum_c ea_w10 ea_w11 (c := 4728779608739020801) (by decide +kernel) (by decide) (by decide)
theorem ea_n4728779608739020801 : M.neg 4728779608739020801 = (-4494592428115755007) := by decide
theorem ea_w13 : FW (-4494592428115755007) 13952151645593796609 := .inl ⟨by decide, by unfold rng; decide, by decide⟩
theorem ea_s9 : fsum 4728779608772575233 (-4494592428115755007) = 4607182418800017408 := fsum_c ea_w10 ea_w13 (c := 4607182418800017408) (by decide +kernel) (by decide) (by decide)
theorem ea_s10 : fsum 4607182418800017409 (-4616189618054758400) = 4372995238176751616 := fsum_c ea_w8 ea_w3 (c := 4372995238176751616) (by decide +kernel) (by decide) (by decide)
theorem ea_s11 : fprod 4607182418800017409 4607182418800017409 = 4607182418800017410 := fprod_c ea_w8 ea_w8 (c := 4607182418800017410) (by decide +kernel) (by decide) (by decide)
theorem ea_s12 : fprod 4607182418800017408 4607182418800017408 = 4607182418800017408 := fprod_c ea_w0 ea_w0 (c := 4607182418800017408) (by decide +kernel) (by decide) (by decide)
theorem ea_w14 : FW 4372995238176751616 4372995238176751616 := .inl ⟨by decide, by unfold rng; decide, by decide⟩
theorem ea_s13 : fprod 4372995238176751616 4607182418800017408 = 4372995238176751616 := fprod_c ea_w14 ea_w0 (c := 4372995238176751616) (by decide +kernel) (by decide) (by decide)
theorem ea_s14 : fprod 4607182418800017408 4372995238176751616 = 4372995238176751616 := fprod_c ea_w0 ea_w14 (c := 4372995238176751616) (by decide +kernel) (by decide) (by decide)
theorem ea_s15 : fprod 4372995238176751616 4372995238176751616 = 4138808057553485824 := fprod_c ea_w14 ea_w14 (c := 4138808057553485824) (by decide +kernel) (by decide) (by decide)
theorem ea_w15 : FW 4607182418800017410 4607182418800017410 := .inl ⟨by decide, by unfold rng; decide, by decide⟩
theorem ea_s16 : fsum 4607182418800017410 (-4616189618054758400) = 4377498837804122112 := fsum_c ea_w15 ea_w3 (c := 4377498837804122112) (by decide +kernel) (by decide) (by decide)
theorem ea_n4372995238176751616 : M.neg 4372995238176751616 = (-4850376798678024192) := by decide
theorem ea_w17 : FW 4377498837804122112 4377498837804122112 := .inl ⟨by decide, by unfold rng; decide, by decide⟩
theorem ea_w18 : FW (-4850376798678024192) 13596367275031527424 := .inl ⟨by decide, by unfold rng; decide, by decide⟩
theorem ea_s17 : fsum 4377498837804122112 (-4850376798678024192) = 4372995238176751616 := fsum_c ea_w17 ea_w18 (c := 4372995238176751616) (by decide +kernel) (by decide) (by decide)
theorem ea_s18 : fsum 4372995238176751616 (-4850376798678024192) = 0 := fsum_c ea_w14 ea_w18 (c := 0) (by decide +kernel) (by decide) (by decide)
theorem ea_w19 : FW 4138808057553485824 4138808057553485824 := .inl ⟨by decide, by unfold rng; decide, by decide⟩
theorem ea_s19 : fsum 4138808057553485824 (-9223372036854775808) = 4138808057553485824 := fsum_c ea_w19 ea_w5 (c := 4138808057553485824) (by decide +kernel) (by decide) (by decide)
theorem ea_sV : sV 4607182418800017408 4336966441157787648 = 0 := by unfold sV; simp only [ea_s1, ea_n4607182418800017408, ea_s2]
theorem ea_sL : sL 4607182418800017408 4336966441157787648 = 4336966441157787648 := by unfold sL; simp only [ea_sV, ea_s1, ea_n0, ea_s3, ea_n4607182418800017408, ea_s4, ea_s5, ea_s6]
theorem ea_cC : cC 4607182418800017409 = 4728779608772575233 := by unfold cC; simp only [ea_s7]
theorem ea_spH : spH 4607182418800017409 = 4607182418800017408 := by unfold spH; simp only [ea_cC, ea_n4607182418800017409, ea_s8, ea_n4728779608739020801, ea_s9]
theorem ea_spL : spL 4607182418800017409 = 4372995238176751616 := by unfold spL; simp only [ea_spH, ea_n4607182418800017408, ea_s10]
theorem ea_m : fprod 4607182418800017409 4607182418800017409 = 4607182418800017410 := ea_s11
theorem ea_T1 : pT1 4607182418800017409 4607182418800017409 = 4377498837804122112 := by unfold pT1; simp only [ea_spH, ea_s11, ea_s12, ea_n4607182418800017408, ea_s16]
theorem ea_T2 : pT2 4607182418800017409 4607182418800017409 = 4372995238176751616 := by unfold pT2; simp only [ea_T1, ea_spL, ea_spH, ea_s13, ea_n4372995238176751616, ea_s17]
theorem ea_T3 : pT3 4607182418800017409 4607182418800017409 = 0 := by unfold pT3; simp only [ea_T2, ea_spL, ea_spH, ea_s14, ea_n4372995238176751616, ea_s18]
theorem ea_prL : prL 4607182418800017409 4607182418800017409 = 4138808057553485824 := by unfold prL; simp only [ea_T3, ea_spL, ea_s15, ea_n0, ea_s19]
theorem ea_reach : pX 4607182418800017409 4607182418800017409 = true := by unfold pX; rw [ea_prL]; decide +kernel
theorem ea_told {p : Int} (h : ¬ cls p = 4) : told p = p := by unfold told; rw [if_neg h]
end Go.Proofs.YtcpjdgfnblkfpaaGreatDoor
