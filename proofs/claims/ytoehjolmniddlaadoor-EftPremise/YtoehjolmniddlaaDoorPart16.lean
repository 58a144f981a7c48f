/-
  Parts of the proof, one behind another.
-/
import Derived.Test.YtoehjolmniddlaaDoorPart15
import Derived.Test.YtoehjolmniddlaaDoorPart11
import Derived.Test.YtoehjolmniddlaaDoorPart1
import Derived.Test.YtoehjolmniddlaaDoorPart8
/-
  plumblaw6.alive, by its contract: the steps at its constants.
-/
namespace Go.Proofs.YtoehjolmniddlaaDoor
open Go Go.RowKit Go.Proofs.YtoehjolmniddlaaDoor.M Ieee
set_option linter.unusedSimpArgs false
set_option linter.unusedVariables false

theorem fw_c {p r : Int} {c : Nat} (h : FW p c) (hr : patW c = r) (hn : c % 9223372036854775808 ≤ 9218868437227405312) : p = r := by
  rcases h with ⟨_, hp, e⟩ | ⟨_, hN⟩
  · rw [← hr, e, patW_wd hp]
  · have := hN.2; omega
theorem fsum_c {p q r : Int} {x y c : Nat} (hp : FW p x) (hq : FW q y) (h : Ieee.double.add x y = some c) (hr : patW c = r) (hn : c % 9223372036854775808 ≤ 9218868437227405312) : fsum p q = r := by
  rcases add_FW hp hq with ⟨z, e, f⟩ | ⟨e, _⟩
  · rw [h] at e; cases e; exact fw_c f hr hn
  · rw [h] at e; cases e
theorem fprod_c {p q r : Int} {x y c : Nat} (hp : FW p x) (hq : FW q y) (h : Ieee.double.mul x y = some c) (hr : patW c = r) (hn : c % 9223372036854775808 ≤ 9218868437227405312) : fprod p q = r := by
  rcases mul_FW hp hq with ⟨z, e, f⟩ | ⟨e, _⟩
  · rw [h] at e; cases e; exact fw_c f hr hn
  · rw [h] at e; cases e
theorem ea_w0 : FW 4607182418800017408 4607182418800017408 := .inl ⟨by decide, by unfold rng; decide, by decide⟩
theorem ea_w1 : FW 4336966441157787648 4336966441157787648 := .inl ⟨by decide, by unfold rng; decide, by decide⟩
theorem ea_s1 : fsum 4607182418800017408 4336966441157787648 = 4607182418800017408 := fsum_c ea_w0 ea_w1 (c := 4607182418800017408) (by decide +kernel) (by decide) (by decide)
theorem ea_n4607182418800017408 : M.neg 4607182418800017408 = (-4616189618054758400) := by decide
theorem ea_w3 : FW (-4616189618054758400) 13830554455654793216 := .inl ⟨by decide, by unfold rng; decide, by decide⟩
theorem ea_s2 : fsum 4607182418800017408 (-4616189618054758400) = 0 := fsum_c ea_w0 ea_w3 (c := 0) (by decide +kernel) (by decide) (by decide)
theorem ea_n0 : M.neg 0 = (-9223372036854775808) := by decide
theorem ea_w5 : FW (-9223372036854775808) 9223372036854775808 := .inl ⟨by decide, by unfold rng; decide, by decide⟩
theorem ea_s3 : fsum 4607182418800017408 (-9223372036854775808) = 4607182418800017408 := fsum_c ea_w0 ea_w5 (c := 4607182418800017408) (by decide +kernel) (by decide) (by decide)
theorem ea_s4 : fsum 4607182418800017408 (-4616189618054758400) = 0 := fsum_c ea_w0 ea_w3 (c := 0) (by decide +kernel) (by decide) (by decide)
theorem ea_s5 : fsum 4336966441157787648 (-9223372036854775808) = 4336966441157787648 := fsum_c ea_w1 ea_w5 (c := 4336966441157787648) (by decide +kernel) (by decide) (by decide)
theorem ea_w6 : FW 0 0 := .inl ⟨by decide, by unfold rng; decide, by decide⟩
theorem ea_s6 : fsum 0 4336966441157787648 = 4336966441157787648 := fsum_c ea_w6 ea_w1 (c := 4336966441157787648) (by decide +kernel) (by decide) (by decide)
theorem ea_w7 : FW 4728779608772575232 4728779608772575232 := .inl ⟨by decide, by unfold rng; decide, by decide⟩
theorem ea_w8 : FW 4607182418800017409 4607182418800017409 := .inl ⟨by decide, by unfold rng; decide, by decide⟩
theorem ea_s7 : fprod 4728779608772575232 4607182418800017409 = 4728779608772575233 := fprod_c ea_w7 ea_w8 (c := 4728779608772575233) (by decide +kernel) (by decide) (by decide)
theorem ea_n4607182418800017409 : M.neg 4607182418800017409 = (-4616189618054758399) := by decide
theorem ea_w10 : FW 4728779608772575233 4728779608772575233 := .inl ⟨by decide, by unfold rng; decide, by decide⟩
theorem ea_w11 : FW (-4616189618054758399) 13830554455654793217 := .inl ⟨by decide, by unfold rng; decide, by decide⟩
theorem ea_s8 : fsum 4728779608772575233 (-4616189618054758399) = 4728779608739020801 := fsum_c ea_w10 ea_w11 (c := 4728779608739020801) (by decide +kernel) (by decide) (by decide)
theorem ea_n4728779608739020801 : M.neg 4728779608739020801 = (-4494592428115755007) := by decide
theorem ea_w13 : FW (-4494592428115755007) 13952151645593796609 := .inl ⟨by decide, by unfold rng; decide, by decide⟩
theorem ea_s9 : fsum 4728779608772575233 (-4494592428115755007) = 4607182418800017408 := fsum_c ea_w10 ea_w13 (c := 4607182418800017408) (by decide +kernel) (by decide) (by decide)
theorem ea_s10 : fsum 4607182418800017409 (-4616189618054758400) = 4372995238176751616 := fsum_c ea_w8 ea_w3 (c := 4372995238176751616) (by decide +kernel) (by decide) (by decide)
theorem ea_s11 : fprod 4607182418800017409 4607182418800017409 = 4607182418800017410 := fprod_c ea_w8 ea_w8 (c := 4607182418800017410) (by decide +kernel) (by decide) (by decide)
theorem ea_s12 : fprod 4607182418800017408 4607182418800017408 = 4607182418800017408 := fprod_c ea_w0 ea_w0 (c := 4607182418800017408) (by decide +kernel) (by decide) (by decide)
theorem ea_w14 : FW 4372995238176751616 4372995238176751616 := .inl ⟨by decide, by unfold rng; decide, by decide⟩
theorem ea_s13 : fprod 4372995238176751616 4607182418800017408 = 4372995238176751616 := fprod_c ea_w14 ea_w0 (c := 4372995238176751616) (by decide +kernel) (by decide) (by decide)
theorem ea_s14 : fprod 4607182418800017408 4372995238176751616 = 4372995238176751616 := fprod_c ea_w0 ea_w14 (c := 4372995238176751616) (by decide +kernel) (by decide) (by decide)
theorem ea_s15 : fprod 4372995238176751616 4372995238176751616 = 4138808057553485824 := fprod_c ea_w14 ea_w14 (c := 4138808057553485824) (by decide +kernel) (by decide) (by decide)
theorem ea_w15 : FW 4607182418800017410 4607182418800017410 := .inl ⟨by decide, by unfold rng; decide, by decide⟩
theorem ea_s16 : fsum 4607182418800017410 (-4616189618054758400) = 4377498837804122112 := fsum_c ea_w15 ea_w3 (c := 4377498837804122112) (by decide +kernel) (by decide) (by decide)
theorem ea_n4372995238176751616 : M.neg 4372995238176751616 = (-4850376798678024192) := by decide
theorem ea_w17 : FW 4377498837804122112 4377498837804122112 := .inl ⟨by decide, by unfold rng; decide, by decide⟩
theorem ea_w18 : FW (-4850376798678024192) 13596367275031527424 := .inl ⟨by decide, by unfold rng; decide, by decide⟩
theorem ea_s17 : fsum 4377498837804122112 (-4850376798678024192) = 4372995238176751616 := fsum_c ea_w17 ea_w18 (c := 4372995238176751616) (by decide +kernel) (by decide) (by decide)
theorem ea_s18 : fsum 4372995238176751616 (-4850376798678024192) = 0 := fsum_c ea_w14 ea_w18 (c := 0) (by decide +kernel) (by decide) (by decide)
theorem ea_w19 : FW 4138808057553485824 4138808057553485824 := .inl ⟨by decide, by unfold rng; decide, by decide⟩
theorem ea_s19 : fsum 4138808057553485824 (-9223372036854775808) = 4138808057553485824 := fsum_c ea_w19 ea_w5 (c := 4138808057553485824) (by decide +kernel) (by decide) (by decide)
theorem ea_sV : sV 4607182418800017408 4336966441157787648 = 0 := by unfold sV; simp only [ea_s1, ea_n4607182418800017408, ea_s2]
theorem ea_sL : sL 4607182418800017408 4336966441157787648 = 4336966441157787648 := by unfold sL; simp only [ea_sV, ea_s1, ea_n0, ea_s3, ea_n4607182418800017408, ea_s4, ea_s5, ea_s6]
theorem ea_cC : cC 4607182418800017409 = 4728779608772575233 := by unfold cC; simp only [ea_s7]
theorem ea_spH : spH 4607182418800017409 = 4607182418800017408 := by unfold spH; simp only [ea_cC, ea_n4607182418800017409, ea_s8, ea_n4728779608739020801, ea_s9]
theorem ea_spL : spL 4607182418800017409 = 4372995238176751616 := by unfold spL; simp only [ea_spH, ea_n4607182418800017408, ea_s10]
theorem ea_m : fprod 4607182418800017409 4607182418800017409 = 4607182418800017410 := ea_s11
theorem ea_T1 : pT1 4607182418800017409 4607182418800017409 = 4377498837804122112 := by unfold pT1; simp only [ea_spH, ea_s11, ea_s12, ea_n4607182418800017408, ea_s16]
theorem ea_T2 : pT2 4607182418800017409 4607182418800017409 = 4372995238176751616 := by unfold pT2; simp only [ea_T1, ea_spL, ea_spH, ea_s13, ea_n4372995238176751616, ea_s17]
theorem ea_T3 : pT3 4607182418800017409 4607182418800017409 = 0 := by unfold pT3; simp only [ea_T2, ea_spL, ea_spH, ea_s14, ea_n4372995238176751616, ea_s18]
theorem ea_prL : prL 4607182418800017409 4607182418800017409 = 4138808057553485824 := by unfold prL; simp only [ea_T3, ea_spL, ea_s15, ea_n0, ea_s19]
theorem ea_reach : pX 4607182418800017409 4607182418800017409 = true := by unfold pX; rw [ea_prL]; decide +kernel
theorem ea_told {p : Int} (h : ¬ cls p = 4) : told p = p := by unfold told; rw [if_neg h]
set_option maxRecDepth 100000 in
set_option maxHeartbeats 1000000 in
theorem alive6 (w : World) (H : Hold4 w) : Calls Tryd.prog 6 #[] w fun e w' => e = .returned (.bool true) ∧ Below w.heap.size w w' := by
  have C1 := twoSum_any (a := 4607182418800017408) (b := 4336966441157787648) (by unfold M.rng; decide) (by unfold M.rng; decide) w
  rw [ea_told (by decide), ea_told (by decide), ea_s1, ea_sL, show pok 4336966441157787648 = true by decide] at C1
  have C2 : Hid (∀ W, Below w.heap.size w W → Calls Tryd.prog 20 #[.int .i64 4607182418800017409, .int .i64 4607182418800017409] W fun e w' => e = .returned (.tuple #[.int .i64 4607182418800017410, .int .i64 4138808057553485824, .bool true]) ∧ Below W.heap.size W w') := fun W hB => by
    have := twoProd_any (a := 4607182418800017409) (b := 4607182418800017409) (by unfold M.rng; decide) (by unfold M.rng; decide) W (H.keeps hB)
    rw [ea_told (by decide), ea_m, ea_prL, ea_reach] at this
    exact this
  clear H
  go_enter Tryd.func6, Tryd.ntmps6
  go_wp2_with fail
  refine C1.mono ?_
  rintro _ w1 ⟨rfl, b1⟩
  clear C1
  go_wp2_with fail
  refine (C2.out _ b1).mono ?_
  rintro _ w2 ⟨rfl, b2⟩
  go_wp2
  all_goals go_ret
  all_goals exact ⟨rfl, bel_trans b1 b2⟩
end Go.Proofs.YtoehjolmniddlaaDoor

/-
  EftHonest: what the steps tell as exact, as the law asks for it.
-/
namespace Go.Proofs.YtoehjolmniddlaaDoor
open Go Go.RowKit Go.Proofs.YtoehjolmniddlaaDoor.M Ieee
set_option linter.unusedSimpArgs false
set_option linter.unusedVariables false

theorem class6 {b : Int} (w : World) (H : Hold4 w) : Calls Tryd.prog 17 #[.int .i64 b] w fun e w' => e = .returned (.int .i64 (cls b)) ∧ Below w.heap.size w w' := by
  refine (bitsClass b w H.env.lays).mono ?_
  rintro e w' ⟨h, g⟩
  exact ⟨h, g.be⟩
theorem cls_big {b : Int} (h : pok b = false) : 2 < cls b := by
  unfold pok at h; unfold cls; rw [if_pos (by simpa using h)]; split <;> decide
theorem cls_few {b : Int} (h : pok b = true) : ¬ 2 < cls b := by
  unfold pok at h; unfold cls; rw [if_neg (by simpa using h)]
  split
  · split <;> decide
  · decide
theorem told_rng {a : Int} (h : M.rng a) : M.rng (told a) := by
  unfold told; split
  · exact nan_rng
  · exact h
theorem told_ok {a : Int} (h : pok a = true) (ha : M.rng a) : told a = a := by
  unfold told; rw [if_neg (fin_cls ha h).1]
theorem told_pok {a : Int} (h : pok (told a) = true) : pok a = true := by
  rw [told_fin h] at h; exact h
/-- The answer of together. -/
def tgB (h l V : Int) : Bool := pok h && (pok l && decide (patV h + patV l = V))
theorem no_sum {a b : Int} (ha : M.rng a) (hb : M.rng b) (h : pok a = false ∨ pok b = false) : pok (sL (told a) (told b)) = false ∧ fX (told a) (told b) = false ∧ pX (told a) (told b) = false := by
  have key : pok (told a) = true ∧ pok (told b) = true → False := fun ⟨x, y⟩ => by
    have x := told_pok x
    have y := told_pok y
    rcases h with c | c
    · rw [x] at c; cases c
    · rw [y] at c; cases c
  have ra := told_rng ha
  have rb := told_rng hb
  refine ⟨?_, ?_, ?_⟩
  · cases g : pok (sL (told a) (told b))
    · rfl
    · exact (key (sL_exact ra rb g).1).elim
  · unfold fX
    cases g : pok (fL (told a) (told b))
    · rfl
    · exact (key (fL_args ra rb g).1).elim
  · unfold pX
    cases g : pok (prL (told a) (told b))
    · rfl
    · obtain ⟨⟨pQ, pS⟩, _⟩ := prL_args ra rb g
      exact (key ⟨(spL_exact ra pQ).1, (spL_exact rb pS).1⟩).elim
theorem k_eqS {a b c d q : Int} (hq : 0 < q) : decide (a * q + b * q = c * q + d * q) = decide (a + b = c + d) := by
  congr 1
  apply propext
  rw [← Int.add_mul, ← Int.add_mul]
  exact ⟨fun h => Int.eq_of_mul_eq_mul_right (Int.ne_of_gt hq) h, fun h => by rw [h]⟩
theorem sL_rng {p q : Int} (hp : M.rng p) (hq : M.rng q) : M.rng (sL p q) := by
  have rh := fsum_rng hp hq
  have rv : M.rng (sV p q) := fsum_rng rh (neg_rng hp)
  exact fsum_rng (fsum_rng hp (neg_rng (fsum_rng rh (neg_rng rv)))) (fsum_rng hq (neg_rng rv))
theorem fL_rng {p q : Int} (hp : M.rng p) (hq : M.rng q) : M.rng (fL p q) := fsum_rng hq (neg_rng (fsum_rng (fsum_rng hp hq) (neg_rng hp)))
theorem sp_rng {p : Int} (hp : M.rng p) : M.rng (spH p) ∧ M.rng (spL p) := by
  have rc : M.rng (cC p) := fprod_rng spl_rng hp
  have rd := fsum_rng rc (neg_rng hp)
  have rH : M.rng (spH p) := fsum_rng rc (neg_rng rd)
  exact ⟨rH, fsum_rng hp (neg_rng rH)⟩
theorem prL_rng {p q : Int} (hp : M.rng p) (hq : M.rng q) : M.rng (prL p q) := by
  obtain ⟨rP, rQ⟩ := sp_rng hp
  obtain ⟨rR, rS⟩ := sp_rng hq
  have rT1 : M.rng (pT1 p q) := fsum_rng (fprod_rng hp hq) (neg_rng (fprod_rng rP rR))
  have rT2 : M.rng (pT2 p q) := fsum_rng rT1 (neg_rng (fprod_rng rQ rR))
  have rT3 : M.rng (pT3 p q) := fsum_rng rT2 (neg_rng (fprod_rng rP rS))
  exact fsum_rng (fprod_rng rQ rS) (neg_rng rT3)
theorem hon_sum {a b : Int} (ha : M.rng a) (hb : M.rng b) (pa : pok a = true) (pb : pok b = true) : pok (sL a b) = tgB (fsum a b) (sL a b) (patV a + patV b) := by
  unfold tgB
  cases g : pok (sL a b)
  · simp
  · obtain ⟨_, ph, e⟩ := sL_exact ha hb g
    rw [ph, patV_iV (fsum_rng ha hb) ph, patV_iV (sL_rng ha hb) g, patV_iV ha pa, patV_iV hb pb, k_eqS (pw_pos _), decide_eq_true e]
    rfl
theorem hon_fast {a b : Int} (ha : M.rng a) (hb : M.rng b) (pa : pok a = true) (pb : pok b = true) : fX a b = tgB (fsum a b) (fL a b) (patV a + patV b) := by
  unfold tgB
  cases g : pok (fL a b)
  · unfold fX; rw [g]; simp
  · obtain ⟨_, ph⟩ := fL_args ha hb g
    rw [fX_iff ha hb g, ph, patV_iV (fsum_rng ha hb) ph, patV_iV (fL_rng ha hb) g, patV_iV ha pa, patV_iV hb pb, k_eqS (pw_pos _)]
    rfl
theorem k_prodE {x y m l C u Z k w : Int} (hZ : 0 < Z) (hu : 0 < u) (e2 : w * w = u * Z) (e3 : w = u * k) (hC : C * Z = x * w * (y * w)) : (m * w + l * w = C) ↔ (k * (m + l) = x * y) := by
  have h1 : C = x * y * u := by
    have : x * w * (y * w) = x * y * u * Z := by
      rw [show x * w * (y * w) = x * y * (w * w) by ac_rfl, e2]; ac_rfl
    rw [this] at hC
    exact Int.eq_of_mul_eq_mul_right (Int.ne_of_gt hZ) hC
  rw [h1, e3, ← Int.add_mul, show (m + l) * (u * k) = k * (m + l) * u by ac_rfl]
  exact ⟨fun h => Int.eq_of_mul_eq_mul_right (Int.ne_of_gt hu) h, fun h => by rw [h]⟩
theorem hon_prod {a b C : Int} (ha : M.rng a) (hb : M.rng b) (pa : pok a = true) (pb : pok b = true) (hC : C * 2 ^ 4194304 = patV a * patV b) : pX a b = tgB (fprod a b) (prL a b) C := by
  unfold tgB pX
  cases g : pok (prL a b)
  · simp
  · have ph := (prL_args ha hb g).2.1
    have e2 := pw_mul (a := -1074) (b := -1074) (by decide) (by decide)
    rw [show (-1074 + -1074 : Int) = -2148 by decide] at e2
    have e3 := pw_add (e := -2148) (by decide) 1074
    rw [show (-2148 + ((1074 : Nat) : Int)) = -1074 by decide] at e3
    rw [patV_iV ha pa, patV_iV hb pb] at hC
    rw [ph, patV_iV (fprod_rng ha hb) ph, patV_iV (prL_rng ha hb) g, Bool.true_and, Bool.true_and, Bool.true_and]
    have hk := k_prodE (m := iV (fprod a b)) (l := iV (prL a b)) (two_pos 4194304) (pw_pos (-2148)) e2 e3 hC
    have hr := reach_iff ha hb pa pb
    cases r : reach a b
    · refine (decide_eq_false fun c => ?_).symm
      rw [hr.2 ⟨_, hk.1 c⟩] at r
      cases r
    · refine (decide_eq_true (hk.2 ?_)).symm
      obtain ⟨T, hT⟩ := hr.1 r
      rw [(prL_exact ha hb g hT).2.2]
      exact hT
end Go.Proofs.YtoehjolmniddlaaDoor

/-
  EftHalves: Split is finite where floats are not too great; its halves have 26 bits.
-/
namespace Go.Proofs.YtoehjolmniddlaaDoor
open Go Go.RowKit Go.Proofs.YtoehjolmniddlaaDoor.M Ieee
set_option linter.unusedSimpArgs false
set_option linter.unusedVariables false

theorem k_sp1 {a c B M : Int} (h : (a.natAbs : Int) ≤ B) (hM : 268435455 * B ≤ M) : ((134217729 * a).natAbs : Int) ≤ M := by omega
theorem k_sp2 {a c B M : Int} (h : (a.natAbs : Int) ≤ B) (hM : 268435455 * B ≤ M) (r : 1000 * (c - 134217729 * a).natAbs ≤ (134217729 * a).natAbs) : ((c - a).natAbs : Int) ≤ M ∧ ((c - a).natAbs : Int) ≤ 200000000 * B := by omega
theorem k_sp3 {a c d B M : Int} (h : (a.natAbs : Int) ≤ B) (hM : 268435455 * B ≤ M) (g : ((c - a).natAbs : Int) ≤ 200000000 * B) (r : 1000 * (d - (c - a)).natAbs ≤ (c - a).natAbs) : ((c - d).natAbs : Int) ≤ M ∧ ((c - d).natAbs : Int) ≤ 300000 * B := by omega
theorem k_sp4 {a c d x B M : Int} (h : (a.natAbs : Int) ≤ B) (hM : 268435455 * B ≤ M) (g : ((c - d).natAbs : Int) ≤ 300000 * B) (r : 1000 * (x - (c - d)).natAbs ≤ (c - d).natAbs) : ((a - x).natAbs : Int) ≤ M := by omega
theorem sp_fin {p B : Int} (hp : M.rng p) (pp : pok p = true) (h : ((iV p).natAbs : Int) ≤ B) (hM : 268435455 * B ≤ maxV) : pok (spL p) = true := by
  have rc : M.rng (cC p) := fprod_rng spl_rng hp
  have rd := fsum_rng rc (neg_rng hp)
  have rH : M.rng (spH p) := fsum_rng rc (neg_rng rd)
  have S1 := stp_split hp pp
  have pc := S1.fin (k_sp1 (c := 0) h hM)
  have r1 := nr_rel (S1.nr pc)
  obtain ⟨g1, g2⟩ := k_sp2 h hM r1
  have S2 := stp_diff rc hp pc pp
  have pd := S2.fin g1
  have r2 := nr_rel (S2.nr pd)
  obtain ⟨g3, g4⟩ := k_sp3 h hM g2 r2
  have S3 := stp_diff rc rd pc pd
  have pH := S3.fin g3
  have r3 := nr_rel (S3.nr pH)
  exact (stp_diff hp rH pp pH).fin (k_sp4 h hM g4 r3)
theorem V_top {a n : Nat} (h : 4503599627370496 ≤ n) (g : n < 9007199254740992) : (V Ieee.double (a * 4503599627370496 + n) : Int) = (n : Int) * 2 ^ a := by
  have := V_parts Ieee.double a n (.inr ⟨by rw [dBin]; exact h, by rw [dBin]; omega⟩)
  rw [dBin] at this
  rw [this, nat_two, Int.mul_comm]
theorem k_max {K M B : Int} (hK : 0 < K) (hM : M = 9007199254740991 * (134217728 * K)) (hB : B = 4503599627370496 * K) : 268435455 * B ≤ M := by omega
theorem max_996 : 268435455 * (V Ieee.double 9092767647661031424 : Int) ≤ maxV := by
  obtain ⟨a, ha⟩ : ∃ a : Nat, a = 2018 := ⟨_, rfl⟩
  have e1 := V_top (a := a) (n := 4503599627370496) (by decide) (by decide)
  have e2 := V_top (a := a + 27) (n := 9007199254740991) (by decide) (by decide)
  rw [show a * 4503599627370496 + 4503599627370496 = 9092767647661031424 by omega] at e1
  rw [show (a + 27) * 4503599627370496 + 9007199254740991 = 9218868437227405311 by omega, k_split2, Int.mul_comm (2 ^ a), show (2 : Int) ^ 27 = 134217728 by decide] at e2
  exact k_max (p2 a) e2 e1
theorem odd_small {t m : Int} {A B : Nat} (ht : t ≤ 67108864) (h0 : 0 < m) (ho : m % 2 = 1) (e : t * 2 ^ A = m * 2 ^ B) : m < 67108864 := by
  rcases Nat.lt_or_ge B A with c | c
  · exfalso
    obtain ⟨d, rfl⟩ : ∃ d, A = B + 1 + d := ⟨A - B - 1, by omega⟩
    rw [Int.pow_add, p2s, show t * (2 * 2 ^ B * 2 ^ d) = (2 * (t * 2 ^ d)) * 2 ^ B by ac_rfl] at e
    have := Int.eq_of_mul_eq_mul_right (Int.ne_of_gt (p2 B)) e
    generalize t * 2 ^ d = u at this
    omega
  · obtain ⟨d, rfl⟩ : ∃ d, B = A + d := ⟨B - A, by omega⟩
    rw [Int.pow_add, show m * (2 ^ A * 2 ^ d) = m * 2 ^ d * 2 ^ A by ac_rfl] at e
    have e2 := Int.eq_of_mul_eq_mul_right (Int.ne_of_gt (p2 A)) e
    have h1 := p2 d
    have h2 : m * 1 ≤ m * 2 ^ d := Int.mul_le_mul_of_nonneg_left (by omega) (by omega)
    omega
/-- Half as many bits. -/
def Hlf (v : Int) : Prop := v = 0 ∨ ∃ (x y : Nat) (t : Int), 2 ^ x * (v.natAbs : Int) = 2 ^ y * t ∧ t ≤ 67108864
theorem hlv_half {a h l : Int} (H : Hlv a h l) : Hlf h ∧ Hlf l := by
  by_cases h0 : a = 0
  · have := H.zero h0
    have := H.sum
    exact ⟨.inl (by omega), .inl (by omega)⟩
  · obtain ⟨x, j, s, _, _⟩ := H.spl h0
    have e : 2 ^ x * a - 2 ^ x * h = 2 ^ x * l := by rw [← Int.mul_sub]; congr 1; have := H.sum; omega
    obtain ⟨u1, u2, u3, u4⟩ := s
    rw [e] at u2 u4
    refine ⟨.inr ?_, .inr ?_⟩
    · obtain ⟨c, hc⟩ := u1
      have hj := p2 j
      rw [hc] at u3
      refine ⟨x, j + 27, (c.natAbs : Int), ?_, ?_⟩
      · rw [← natAbs_p2, hc, show (134217728 * 2 ^ j * c : Int) = 2 ^ (j + 27) * c by rw [k_split2, show (2 : Int) ^ 27 = 134217728 by decide]; ac_rfl, natAbs_p2]
      · rw [show (134217728 * 2 ^ j * c : Int) = 2 ^ (j + 27) * c by rw [k_split2, show (2 : Int) ^ 27 = 134217728 by decide]; ac_rfl, natAbs_p2, k_split2, show (2 : Int) ^ 27 = 134217728 by decide] at u3
        have : 134217728 * (c.natAbs : Int) * 2 ^ j ≤ 9007199254740992 * 2 ^ j := by
          rw [show 134217728 * (c.natAbs : Int) * 2 ^ j = 2 ^ j * 134217728 * (c.natAbs : Int) by ac_rfl]; exact u3
        have := Int.le_of_mul_le_mul_right this hj
        omega
    · obtain ⟨c, hc⟩ := u2
      rw [hc, natAbs_p2] at u4
      refine ⟨x, j, (c.natAbs : Int), by rw [← natAbs_p2, hc, natAbs_p2], ?_⟩
      exact Int.le_of_mul_le_mul_left (by rw [Int.mul_comm _ 67108864]; exact u4) (p2 j)
theorem pw_pow {e : Int} (h : -4194304 ≤ e) : pw e = 2 ^ (e + 4194304).toNat := rfl
theorem k_absE {v m K J : Int} {g : Bool} (hK : 0 < K) (hJ : 0 < J) (h0 : 0 < m) (e : v * K = sg g m * J) : (v.natAbs : Int) * K = m * J := by
  have hm := Int.mul_pos h0 hJ
  rcases Int.le_total 0 v with c | c
  · rw [Int.natAbs_of_nonneg c, e]
    cases g
    · rfl
    · exfalso
      have h1 := Int.mul_nonneg c (Int.le_of_lt hK)
      have h2 : sg true m * J = -(m * J) := by show -m * J = _; rw [Int.neg_mul]
      omega
  · have e1 : (v.natAbs : Int) = -v := by omega
    rw [e1, Int.neg_mul, e]
    cases g
    · exfalso
      have h1 := Int.mul_nonneg (show 0 ≤ -v by omega) (Int.le_of_lt hK)
      rw [Int.neg_mul] at h1
      have h2 : sg false m * J = m * J := rfl
      omega
    · show -(-m * J) = _
      rw [Int.neg_mul, Int.neg_neg]
theorem hlf_dy {v : Int} (H : Hlf v) {V : Int} (hV : V = v * pw (-1074)) {ng : Bool} {m e : Int} (hy : Dy V ng m e) : m < 67108864 := by
  rcases hy.form with ⟨c, _, _⟩ | ⟨h0, ho⟩
  · rw [c]; decide
  · rcases H with c | ⟨x, y, t, e1, e2⟩
    · exfalso
      have := hy.eq_zero.1 (by rw [hV, c, Int.zero_mul])
      omega
    · obtain ⟨k, hk⟩ : ∃ k : Nat, pw (-1074) = 2 ^ k := ⟨_, rfl⟩
      obtain ⟨j, hj⟩ : ∃ j : Nat, pw e = 2 ^ j := ⟨_, rfl⟩
      have h1 := hy.val
      rw [hV, hk, hj] at h1
      have h2 : (v.natAbs : Int) * 2 ^ k = m * 2 ^ j := k_absE (p2 k) (p2 j) h0 h1
      refine odd_small (A := y + k) (B := x + j) e2 h0 ho ?_
      rw [Int.pow_add, Int.pow_add, show t * (2 ^ y * 2 ^ k) = (2 ^ y * t) * 2 ^ k by ac_rfl, ← e1, show m * (2 ^ x * 2 ^ j) = 2 ^ x * (m * 2 ^ j) by ac_rfl, ← h2]
      ac_rfl
/-- A number of one digit at most, below 2^26. -/
theorem half_num {w : World} {ng : Bool} {o : Option Addr} {n c : Nat} {e V : Int} (h : DNum w (.agg #[.bool ng, .slice o n c, .int .i64 e]) V) (hs : ∀ ng m e, Dy V ng m e → m < 67108864) :
    n = 0 ∨ (n = 1 ∧ ∃ b f v, o = some ⟨b, f, none⟩ ∧ w.cell? ⟨b, f, none⟩ = some (.int .i64 v) ∧ v < 67108864) := by
  obtain ⟨ng', s, m, e', h1, hy, hN⟩ := h
  simp only [Value.agg.injEq, Array.mk.injEq, List.cons.injEq, and_true] at h1
  obtain ⟨_, h2, _⟩ := h1
  subst h2
  have hm := hs _ _ _ hy
  have hl := hN.len (k := 1) (by rw [show P 1 = 1073741824 by decide]; omega)
  obtain ⟨ao, n', cap, d, h3, hR, hNr, hv⟩ := hN
  simp only [Value.slice.injEq] at h3
  obtain ⟨rfl, rfl, rfl⟩ := h3
  rcases Nat.eq_zero_or_pos n with g | g
  · exact .inl g
  · have g1 : n = 1 := by omega
    subst g1
    obtain ⟨b, f, e1, _, hc⟩ := hR.spot (by omega)
    refine .inr ⟨rfl, b, f, d 0, e1, hc 0 (by omega), ?_⟩
    have : val d 1 = d 0 := by simp [val, P]
    omega
end Go.Proofs.YtoehjolmniddlaaDoor

/-
  The mathematics of EftPremise: where floats are not too great all steps are finite.
-/
namespace Go.Proofs.YtoehjolmniddlaaDoor
open Go Go.RowKit Go.Proofs.YtoehjolmniddlaaDoor.M Ieee
set_option linter.unusedSimpArgs false
set_option linter.unusedVariables false

theorem pr_1 {a b h M : Int} (h1 : ((a.natAbs : Int) + b.natAbs) ≤ M) : ((a + b).natAbs : Int) ≤ M := by omega
theorem pr_2 {a b h M : Int} (ha : 2 * (a.natAbs : Int) ≤ M) (hb : 2 * (b.natAbs : Int) ≤ M) (e1 : (h - (a + b)).natAbs ≤ (a - (a + b)).natAbs) : ((h - a).natAbs : Int) ≤ M := by omega
theorem pr_3 {a b h v M : Int} (ha : 2 * (a.natAbs : Int) ≤ M) (e2 : (h - (a + b)).natAbs ≤ (b - (a + b)).natAbs) (e3 : (v - (h - a)).natAbs ≤ (b - (h - a)).natAbs) : ((h - v).natAbs : Int) ≤ M := by omega
theorem pr_4 {a b h v u M : Int} (ha : 2 * (a.natAbs : Int) ≤ M) (e2 : (h - (a + b)).natAbs ≤ (b - (a + b)).natAbs) (e3 : (v - (h - a)).natAbs ≤ (b - (h - a)).natAbs) (e4 : (u - (h - v)).natAbs ≤ (a - (h - v)).natAbs) : ((a - u).natAbs : Int) ≤ M ∧ (a - u).natAbs ≤ 2 * (h - (a + b)).natAbs := by omega
theorem pr_5 {a b h v M : Int} (hb : 2 * (b.natAbs : Int) ≤ M) (e1 : (h - (a + b)).natAbs ≤ (a - (a + b)).natAbs) (e3 : (v - (h - a)).natAbs ≤ (b - (h - a)).natAbs) : ((b - v).natAbs : Int) ≤ M ∧ (b - v).natAbs ≤ 2 * (h - (a + b)).natAbs := by omega
theorem pr_6 {S h x y p q M : Int} (hM : (S.natAbs : Int) ≤ M) (r : 1000 * (h - S).natAbs ≤ S.natAbs) (g1 : x.natAbs ≤ 2 * (h - S).natAbs) (g2 : y.natAbs ≤ 2 * (h - S).natAbs) (n1 : (p - x).natAbs ≤ (0 - x).natAbs) (n2 : (q - y).natAbs ≤ (0 - y).natAbs) : ((p + q).natAbs : Int) ≤ M := by omega
theorem sum_fin {p q : Int} (hp : M.rng p) (hq : M.rng q) (pp : pok p = true) (pq : pok q = true) (h1 : 2 * ((iV p).natAbs : Int) ≤ maxV) (h2 : 2 * ((iV q).natAbs : Int) ≤ maxV) : pok (fsum p q) = true ∧ pok (sL p q) = true := by
  have rh := fsum_rng hp hq
  have rv : M.rng (sV p q) := fsum_rng rh (neg_rng hp)
  have rU := fsum_rng rh (neg_rng rv)
  have rX := fsum_rng hp (neg_rng rU)
  have rY := fsum_rng hq (neg_rng rv)
  have Sh := stp_sum hp hq pp pq
  have hM := pr_1 (h := 0) (a := iV p) (b := iV q) (M := maxV) (by omega)
  have ph := Sh.fin hM
  have nh := Sh.nr ph
  have e1 := nh.2 _ (fl_iV p)
  have e2 := nh.2 _ (fl_iV q)
  have Sv := stp_diff rh hp ph pp
  have pv := Sv.fin (pr_2 h1 h2 e1)
  have nv := Sv.nr pv
  have e3 := nv.2 _ (fl_iV q)
  have SU := stp_diff rh rv ph pv
  have pU := SU.fin (pr_3 h1 e2 e3)
  have e4 := (SU.nr pU).2 _ (fl_iV p)
  have SX := stp_diff hp rU pp pU
  obtain ⟨g1, g2⟩ := pr_4 h1 e2 e3 e4
  have pX := SX.fin g1
  have SY := stp_diff hq rv pq pv
  obtain ⟨g3, g4⟩ := pr_5 h2 e1 e3
  have pY := SY.fin g3
  exact ⟨ph, (stp_sum rX rY pX pY).fin (pr_6 hM (nr_rel nh) g2 g4 ((SX.nr pX).2 _ fl_zero) ((SY.nr pY).2 _ fl_zero))⟩
theorem fast_zero {p q : Int} (hp : M.rng p) (hq : M.rng q) (pp : pok p = true) (pq : pok q = true) (ph : pok (fsum p q) = true) (h0 : iV p = 0) : fX p q = true := by
  have rh := fsum_rng hp hq
  have rv : M.rng (fsum (fsum p q) (neg p)) := fsum_rng rh (neg_rng hp)
  have nh := (stp_sum hp hq pp pq).nr ph
  rw [h0, Int.zero_add] at nh
  have eh := nr_self (fl_iV q) nh
  have Sv := stp_diff rh hp ph pp
  rw [h0, eh, show iV q - 0 = iV q by omega] at Sv
  have pv := Sv.fin (iV_max hq pq)
  have ev := nr_self (fl_iV q) (Sv.nr pv)
  have Sl := stp_diff hq rv pq pv
  rw [ev, Int.sub_self] at Sl
  have pl := Sl.fin (by show (0 : Int) ≤ _; exact Int.natCast_nonneg _)
  have el := nr_self fl_zero (Sl.nr pl)
  rw [fX_iff hp hq pl]
  refine decide_eq_true ?_
  rw [eh, h0]
  show iV q + iV (fsum q (neg (fsum (fsum p q) (neg p)))) = _
  rw [el]
  omega
theorem fast_big {p q : Int} (hp : M.rng p) (hq : M.rng q) (pp : pok p = true) (pq : pok q = true) (ph : pok (fsum p q) = true) (h : ¬ rg p < rg q) : fX p q = true := by
  have g1 := (rg_lt hp pp).1
  have g2 := (rg_lt hq pq).1
  have hn : (iV q).natAbs ≤ (iV p).natAbs := by
    have e1 := iV_abs p
    have e2 := iV_abs q
    have := V_le (r := (rg q).toNat) (s := (rg p).toNat) (by omega)
    omega
  unfold fX
  rw [(fL_fin hp hq pp pq ph hn).1, decide_eq_false (by omega)]
  rfl
theorem k_1023 {K M B : Int} (hK : 0 < K) (hM : M = 9007199254740991 * (2 * K)) (hB : B = 9007199254740991 * K) : 2 * B ≤ M := by omega
theorem max_1023 {p : Int} (hp : M.rng p) (pp : pok p = true) (h : rg p < 9214364837600034816) : 2 * ((iV p).natAbs : Int) ≤ maxV := by
  obtain ⟨a, ha⟩ : ∃ a : Nat, a = 2044 := ⟨_, rfl⟩
  have e1 := V_top (a := a) (n := 9007199254740991) (by decide) (by decide)
  have e2 := V_top (a := a + 1) (n := 9007199254740991) (by decide) (by decide)
  rw [show a * 4503599627370496 + 9007199254740991 = 9214364837600034815 by omega] at e1
  rw [show (a + 1) * 4503599627370496 + 9007199254740991 = 9218868437227405311 by omega, p2s] at e2
  have h0 := (rg_lt hp pp).1
  have h1 : ((iV p).natAbs : Int) ≤ (V Ieee.double 9214364837600034815 : Int) := by
    rw [iV_abs]; exact V_le (by omega)
  have := k_1023 (M := maxV) (p2 a) e2 e1
  omega
/-- A half is little. -/
theorem hlv_small {a h l : Int} (H : Hlv a h l) : 67108864 * (l.natAbs : Int) ≤ (a.natAbs : Int) := by
  by_cases h0 : a = 0
  · have := H.zero h0
    have := H.sum
    omega
  · obtain ⟨x, j, s, g1, g2⟩ := H.spl h0
    have e : 2 ^ x * a - 2 ^ x * h = 2 ^ x * l := by rw [← Int.mul_sub]; congr 1; have := H.sum; omega
    have u4 := s.low
    rw [e, natAbs_p2] at u4
    rw [natAbs_p2] at g1
    have hx := p2 x
    have hj := p2 j
    have : (2 : Int) ^ x * (67108864 * (l.natAbs : Int)) ≤ 2 ^ x * (a.natAbs : Int) := by
      rw [show (2 : Int) ^ x * (67108864 * (l.natAbs : Int)) = 67108864 * (2 ^ x * (l.natAbs : Int)) by ac_rfl]
      omega
    exact Int.le_of_mul_le_mul_left this hx
theorem pr_abs {a b K : Int} (hK : 0 < K) {T A : Int} {c : Int} (hT : K * T = a * b) (h : c * ((a * b).natAbs : Int) ≤ A) (hA : A = K * (A / K) ) : c * (T.natAbs : Int) ≤ A / K := by
  rw [← hT, Int.natAbs_mul, Int.natCast_mul, show ((K.natAbs : Nat) : Int) = K by omega, hA, show c * (K * (T.natAbs : Int)) = K * (c * (T.natAbs : Int)) by ac_rfl] at h
  exact Int.le_of_mul_le_mul_left h hK
theorem pr_ratio {K T U a b x y c : Int} (hK : 0 < K) (hT : K * T = a * b) (hU : K * U = x * y) (h : c * ((x * y).natAbs : Int) ≤ ((a * b).natAbs : Int)) : c * (U.natAbs : Int) ≤ (T.natAbs : Int) := by
  rw [← hT, ← hU, Int.natAbs_mul, Int.natAbs_mul, Int.natCast_mul, Int.natCast_mul, show ((K.natAbs : Nat) : Int) = K by omega, show c * (K * (U.natAbs : Int)) = K * (c * (U.natAbs : Int)) by ac_rfl] at h
  exact Int.le_of_mul_le_mul_left h hK
theorem pr_m1 {q r a b : Int} (hq : 67108864 * (q.natAbs : Int) ≤ (a.natAbs : Int)) (hr : (r.natAbs : Int) ≤ 2 * (b.natAbs : Int)) : 33554432 * ((q * r).natAbs : Int) ≤ ((a * b).natAbs : Int) := by
  rw [Int.natAbs_mul, Int.natAbs_mul, Int.natCast_mul, Int.natCast_mul]
  have h1 := Int.mul_le_mul hq hr (by omega) (by omega)
  generalize (q.natAbs : Int) = Q at *
  generalize (r.natAbs : Int) = R at *
  generalize (a.natAbs : Int) = A at *
  generalize (b.natAbs : Int) = B at *
  rw [show 67108864 * Q * R = 67108864 * (Q * R) by ac_rfl, show A * (2 * B) = 2 * (A * B) by ac_rfl] at h1
  omega
end Go.Proofs.YtoehjolmniddlaaDoor

/-
  The mathematics of EftPremise: TwoProd where floats are not too great; what is rounded once is the same float.
-/
namespace Go.Proofs.YtoehjolmniddlaaDoor
open Go Go.RowKit Go.Proofs.YtoehjolmniddlaaDoor.M Ieee
set_option linter.unusedSimpArgs false
set_option linter.unusedVariables false

theorem pf_1 {T a b c d M : Int} (e : T = a + b + c + d) (hM : 11 * (T.natAbs : Int) ≤ 10 * M) (hb : 33554432 * (b.natAbs : Int) ≤ T.natAbs) (hc : 33554432 * (c.natAbs : Int) ≤ T.natAbs) (hd : 33554432 * (d.natAbs : Int) ≤ T.natAbs) : (a.natAbs : Int) ≤ M ∧ 1000 * ((T - a).natAbs : Int) ≤ T.natAbs ∧ 1000 * (a.natAbs : Int) ≤ 1001 * T.natAbs := by omega
theorem pf_2 {T a H x M : Int} (hM : 11 * (T.natAbs : Int) ≤ 10 * M) (g : 1000 * ((T - a).natAbs : Int) ≤ T.natAbs) (g2 : 1000 * (a.natAbs : Int) ≤ 1001 * T.natAbs) (r1 : 1000 * (H - T).natAbs ≤ T.natAbs) (r2 : 1000 * (x - a).natAbs ≤ a.natAbs) : ((H - x).natAbs : Int) ≤ M ∧ 300 * ((H - x).natAbs : Int) ≤ T.natAbs := by omega
theorem pf_3 {T t S x M : Int} {k : Int} (hM : 11 * (T.natAbs : Int) ≤ 10 * M) (g : 200 * (S.natAbs : Int) ≤ T.natAbs) (r1 : 1000 * (t - S).natAbs ≤ S.natAbs) : 199 * (t.natAbs : Int) ≤ T.natAbs := by omega
theorem pf_4 {T b x M : Int} (hM : 11 * (T.natAbs : Int) ≤ 10 * M) (hb : 33554432 * (b.natAbs : Int) ≤ T.natAbs) (r : 1000 * (x - b).natAbs ≤ b.natAbs) : (b.natAbs : Int) ≤ M ∧ 30000 * (x.natAbs : Int) ≤ T.natAbs := by omega
theorem pf_4a {T b M : Int} (hM : 11 * (T.natAbs : Int) ≤ 10 * M) (hb : 33554432 * (b.natAbs : Int) ≤ T.natAbs) : (b.natAbs : Int) ≤ M := by omega
theorem pf_5 {T t S x M : Int} (hM : 11 * (T.natAbs : Int) ≤ 10 * M) (g : 300 * (S.natAbs : Int) ≤ T.natAbs) (r1 : 1000 * (t - S).natAbs ≤ S.natAbs) (hx : 30000 * (x.natAbs : Int) ≤ T.natAbs) : ((t - x).natAbs : Int) ≤ M ∧ 290 * ((t - x).natAbs : Int) ≤ T.natAbs := by omega
theorem pf_6 {T t S x M : Int} (hM : 11 * (T.natAbs : Int) ≤ 10 * M) (g : 290 * (S.natAbs : Int) ≤ T.natAbs) (r1 : 1000 * (t - S).natAbs ≤ S.natAbs) (hx : 30000 * (x.natAbs : Int) ≤ T.natAbs) : ((t - x).natAbs : Int) ≤ M ∧ 280 * ((t - x).natAbs : Int) ≤ T.natAbs := by omega
theorem pf_7 {T t S x M : Int} (hM : 11 * (T.natAbs : Int) ≤ 10 * M) (g : 280 * (S.natAbs : Int) ≤ T.natAbs) (r1 : 1000 * (t - S).natAbs ≤ S.natAbs) (hx : 30000 * (x.natAbs : Int) ≤ T.natAbs) : ((x - t).natAbs : Int) ≤ M := by omega
theorem pf_sum {K T a b c d P Q R S x y : Int} (hK : 0 < K) (hx : x = P + Q) (hy : y = R + S) (hT : K * T = x * y) (e1 : K * a = P * R) (e2 : K * b = Q * R) (e3 : K * c = P * S) (e4 : K * d = Q * S) : T = a + b + c + d := by
  refine Int.eq_of_mul_eq_mul_left (Int.ne_of_gt hK) ?_
  rw [hT, Int.mul_add, Int.mul_add, Int.mul_add, e1, e2, e3, e4, hx, hy, Int.add_mul, Int.mul_add, Int.mul_add]
  exact dr0 _ _ _ _
theorem pf_two {a h l : Int} (H : Hlv a h l) : (h.natAbs : Int) ≤ 2 * (a.natAbs : Int) ∧ (l.natAbs : Int) ≤ 2 * (a.natAbs : Int) := by
  have := hlv_small H
  have := H.sum
  omega
theorem prod_fin {p q T : Int} (hp : M.rng p) (hq : M.rng q) (pQ : pok (spL p) = true) (pS : pok (spL q) = true) (ph : pok (fprod p q) = true) (hT : 2 ^ 1074 * T = iV p * iV q) (hM : 11 * (T.natAbs : Int) ≤ 10 * maxV) : pok (prL p q) = true := by
  obtain ⟨pp, pP, ha⟩ := spL_exact hp pQ
  obtain ⟨pq, pR, hb⟩ := spL_exact hq pS
  obtain ⟨rP, rQ⟩ := sp_rng hp
  obtain ⟨rR, rS⟩ := sp_rng hq
  have rT1 : M.rng (pT1 p q) := fsum_rng (fprod_rng hp hq) (neg_rng (fprod_rng rP rR))
  have rT2 : M.rng (pT2 p q) := fsum_rng rT1 (neg_rng (fprod_rng rQ rR))
  have rT3 : M.rng (pT3 p q) := fsum_rng rT2 (neg_rng (fprod_rng rP rS))
  have hd : (2 ^ 1074 : Int) ∣ iV p * iV q := ⟨T, hT.symm⟩
  obtain ⟨i, j, eij, di, dj⟩ := dvd_split 1074 _ _ hd
  have dP := ha.dvd i di
  have dR := hb.dvd j dj
  have dQ : (2 ^ i : Int) ∣ iV (spL p) := by have := ha.sum; rw [show iV (spL p) = iV p - iV (spH p) by omega]; exact Int.dvd_sub di dP
  have dS : (2 ^ j : Int) ∣ iV (spL q) := by have := hb.sum; rw [show iV (spL q) = iV q - iV (spH q) by omega]; exact Int.dvd_sub dj dR
  obtain ⟨Tpr, e1⟩ := dvd_prod eij dP dR
  obtain ⟨Tqr, e2⟩ := dvd_prod eij dQ dR
  obtain ⟨Tps, e3⟩ := dvd_prod eij dP dS
  obtain ⟨Tqs, e4⟩ := dvd_prod eij dQ dS
  have hK := p2 1074
  have es := pf_sum hK ha.sum.symm hb.sum.symm hT e1 e2 e3 e4
  have s1 := hlv_small ha
  have s2 := hlv_small hb
  have t1 := pf_two ha
  have t2 := pf_two hb
  have b2 := pr_ratio hK hT e2 (pr_m1 s1 t2.1)
  have b3 : 33554432 * (Tps.natAbs : Int) ≤ (T.natAbs : Int) := by
    refine pr_ratio hK hT e3 ?_
    rw [Int.mul_comm (iV (spH p)), Int.mul_comm (iV p)]
    exact pr_m1 s2 t1.1
  have b4 := pr_ratio hK hT e4 (pr_m1 s1 t2.2)
  have rH := nr_rel ((stp_prod hp hq pp pq hT).nr ph)
  obtain ⟨c1, c2, c3⟩ := pf_1 es hM b2 b3 b4
  have X1 := stp_prod rP rR pP pR e1
  have p1 := X1.fin c1
  have Y1 := stp_diff (fprod_rng hp hq) (fprod_rng rP rR) ph p1
  obtain ⟨d1, d2⟩ := pf_2 hM c2 c3 rH (nr_rel (X1.nr p1))
  have q1 := Y1.fin d1
  have X2 := stp_prod rQ rR pQ pR e2
  have p2 := X2.fin (pf_4a hM b2)
  have x2 := (pf_4 hM b2 (nr_rel (X2.nr p2))).2
  have Y2 := stp_diff rT1 (fprod_rng rQ rR) q1 p2
  obtain ⟨d3, d4⟩ := pf_5 hM d2 (nr_rel (Y1.nr q1)) x2
  have q2 := Y2.fin d3
  have X3 := stp_prod rP rS pP pS e3
  have p3 := X3.fin (pf_4a hM b3)
  have x3 := (pf_4 hM b3 (nr_rel (X3.nr p3))).2
  have Y3 := stp_diff rT2 (fprod_rng rP rS) q2 p3
  obtain ⟨d5, d6⟩ := pf_6 hM d4 (nr_rel (Y2.nr q2)) x3
  have q3 := Y3.fin d5
  have X4 := stp_prod rQ rS pQ pS e4
  have p4 := X4.fin (pf_4a hM b4)
  have x4 := (pf_4 hM b4 (nr_rel (X4.nr p4))).2
  exact (stp_diff (fprod_rng rQ rS) rT3 p4 q3).fin (pf_7 hM d6 (nr_rel (Y3.nr q3)) x4)
theorem key_patS {g : Bool} {r : Int} (h0 : 0 ≤ r) (h1 : r ≤ 9218868437227405312) : key (patS g r) = sg g r := by
  unfold key patS sg
  cases g
  · simp only [Bool.false_eq_true, if_false]
    rw [if_neg (by omega)]
  · simp only [if_true]
    rw [if_pos (by omega)]
    omega
theorem sg_pos2 (g : Bool) {r : Int} (h0 : 0 ≤ r) : sg (g && decide (0 < r)) r = sg g r := by
  by_cases c : 0 < r
  · rw [decide_eq_true c, Bool.and_true]
  · have : r = 0 := by omega
    rw [this, sg_zero, sg_zero]
theorem same_pat {g k : Bool} {r : Int} (h0 : 0 ≤ r) (h1 : r ≤ 9218868437227405312) (e : sg g r = sg k r) : same (patS g r) (patS k r) = true := by
  unfold same
  rw [decide_eq_false (patS_rng h0 h1).2, decide_eq_false (patS_rng h0 h1).2, key_patS h0 h1, key_patS h0 h1, decide_eq_true e]
  rfl
theorem k_sgn {ng : Bool} {A S : Int} (h0 : 0 ≤ A) (h1 : ng = true → 0 < A) (e : S = sg ng A) : ng = decide (S < 0) := by
  cases ng
  · have e : S = A := e
    exact (decide_eq_false (by omega)).symm
  · have := h1 rfl
    have e : S = -A := e
    exact (decide_eq_true (by omega)).symm
theorem k_sg0 {ng : Bool} {A : Int} (h1 : ng = true → 0 < A) (e : 0 = sg ng A) : A = 0 ∧ ng = false := by
  cases ng
  · exact ⟨e.symm, rfl⟩
  · have := h1 rfl
    have e : 0 = -A := e
    omega
/-- To the nearest once: the same float, a nought's sign aside. -/
theorem same_near {S h : Int} {g ng : Bool} {f : Int → Int × Bool} (hR : RdOf S ng f) (hh : (S = 0 ∧ h = patS g 0) ∨ (S ≠ 0 ∧ h = nearP S)) : same h (f 0).1 = true := by
  obtain ⟨A, r0, left, eS, hA, hu, hf⟩ := hR
  rw [hf 0]
  have hA0 : 0 ≤ A := Int.le_trans (vS_nonneg r0) hu.lo
  rcases hh with ⟨e0, eh⟩ | ⟨e0, eh⟩
  · rw [e0] at eS
    obtain ⟨z1, z2⟩ := k_sg0 hA eS
    subst z1 z2
    obtain ⟨y1, y2⟩ := hu.unique rung_zero
    subst y1 y2
    rw [eh, rTo_zero]
    cases g <;> decide
  · obtain ⟨A', r0', left', eA, hu', eN⟩ := nearP_rung e0
    have eg := k_sgn hA0 hA eS
    rw [← eg] at eA eN
    have : A = A' := sg_inj (eS.symm.trans eA)
    rw [← this] at hu'
    obtain ⟨y1, y2⟩ := hu.unique hu'
    subst y1 y2
    have hrr := rTo_range 0 ng r0 left
    rw [eh, eN]
    exact same_pat hrr.1 hrr.2 (sg_pos2 ng hrr.1).symm
end Go.Proofs.YtoehjolmniddlaaDoor

/-
  The mathematics of EftPremise: a product that is not too little has no bit below the least float.
-/
namespace Go.Proofs.YtoehjolmniddlaaDoor
open Go Go.RowKit Go.Proofs.YtoehjolmniddlaaDoor.M Ieee
set_option linter.unusedSimpArgs false
set_option linter.unusedVariables false

theorem fprod_near {p q C : Int} (hp : M.rng p) (hq : M.rng q) (pp : pok p = true) (pq : pok q = true) (hC : C * 2 ^ 4194304 = patV p * patV q) : (C = 0 ∧ fprod p q = patS (xsg p q) 0) ∨ (C ≠ 0 ∧ fprod p q = nearP C) := by
  obtain ⟨a1, a2⟩ := fin_cls hp pp
  obtain ⟨b1, b2⟩ := fin_cls hq pq
  have hz := two_pos 4194304
  have hs : patV p * patV q / 2 ^ 4194304 = C := by rw [← hC]; exact Int.mul_ediv_cancel _ (Int.ne_of_gt hz)
  have e : fprod p q = if sg (xsg p q) C = 0 then patS (xsg p q) 0 else nearP (sg (xsg p q) (sg (xsg p q) C)) := by
    unfold fprod fsize
    rw [if_neg (fun c => c.elim a1 b1), if_neg (fun c => c.elim a2 b2), hs]
  rw [k_sgsg] at e
  by_cases c : C = 0
  · left
    refine ⟨c, ?_⟩
    rw [e, if_pos (by rw [c]; exact sg_zero _)]
  · right
    refine ⟨c, ?_⟩
    rw [e, if_neg (fun d => c (sg_eq_zero d))]
theorem k_lowP {x N K u C : Int} (hu : 0 < u) (hK : 0 < K) (hN : N = 9007199254740991) (hx : x ≤ N * N * K) (hC : C = x * u) : C < N * 4503599627370496 * (2 * K * u) := by
  have h1 : x * u ≤ N * N * K * u := Int.mul_le_mul_of_nonneg_right hx (Int.le_of_lt hu)
  have h2 := Int.mul_pos hK hu
  rw [hC]
  rw [hN] at *
  rw [show (9007199254740991 : Int) * 9007199254740991 * K * u = 81129638414606663681390495662081 * (K * u) by rw [show (9007199254740991 : Int) * 9007199254740991 = 81129638414606663681390495662081 by decide, Int.mul_assoc]] at h1
  rw [show (9007199254740991 : Int) * 4503599627370496 * (2 * K * u) = 81129638414606672688589750403072 * (K * u) by rw [show (2 * K * u : Int) = 2 * (K * u) by rw [Int.mul_assoc], ← Int.mul_assoc]; rfl]
  omega
theorem k_ij {m n N X Y K : Int} {i j : Nat} (hm : 0 ≤ m) (hn : 0 ≤ n) (h1 : m ≤ N) (h2 : n ≤ N) (hX : X = m * 2 ^ i) (hY : Y = n * 2 ^ j) (hK : (2 : Int) ^ (i + j) ≤ K) : X * Y ≤ N * N * K := by
  rw [hX, hY, prod2]
  have h3 : m * n ≤ N * N := Int.mul_le_mul h1 h2 hn (by omega)
  exact Int.mul_le_mul h3 hK (Int.le_of_lt (p2 _)) (Int.mul_nonneg (by omega) (by omega))
theorem C_abs {x y C u Z w : Int} (hZ : 0 < Z) (hu : 0 < u) (e2 : w * w = u * Z) (hC : C * Z = x * w * (y * w)) : (C.natAbs : Int) = ((x.natAbs : Int) * (y.natAbs : Int)) * u := by
  have h1 : C = x * y * u := by
    have : x * w * (y * w) = x * y * u * Z := by
      rw [show x * w * (y * w) = x * y * (w * w) by ac_rfl, e2]; ac_rfl
    rw [this] at hC
    exact Int.eq_of_mul_eq_mul_right (Int.ne_of_gt hZ) hC
  rw [h1, Int.natAbs_mul, Int.natAbs_mul, Int.natCast_mul, Int.natCast_mul]
  congr 1
  omega
theorem k_lowV {a : Nat} (ha : a = 1073) : vS 243194379878006783 = 9007199254740991 * 4503599627370496 * (2 * 2 ^ a * pw (-2148)) := by
  have e1 := V_top (a := 52) (n := 9007199254740991) (by decide) (by decide)
  rw [show 52 * 4503599627370496 + 9007199254740991 = 243194379878006783 by decide, show (2 : Int) ^ 52 = 4503599627370496 by decide] at e1
  have e3 := pw_add (e := -2148) (by decide) (a + 1)
  rw [show (-2148 + ((a + 1 : Nat) : Int)) = -1074 by omega, p2s] at e3
  unfold vS
  rw [e1, e3, Int.mul_comm (pw (-2148))]
  rfl
theorem k_abs1 {C A : Int} (h0 : 0 ≤ A) (e : C = sg (decide (C < 0)) A) : A = (C.natAbs : Int) := by
  by_cases c : C < 0
  · rw [decide_eq_true c] at e
    have e : C = -A := e
    omega
  · rw [decide_eq_false c] at e
    have e : C = A := e
    omega
theorem vS_le {r s : Nat} (h : r ≤ s) : vS r ≤ vS s := by
  rcases Nat.lt_or_eq_of_le h with g | g
  · exact Int.le_of_lt (vS_lt g)
  · rw [g]; exact Int.le_refl _
theorem rTo_up {g : Bool} {left : Int} (r0 : Nat) (h : r0 < 243194379878006783) : rTo 0 g r0 left ≤ (r0 : Int) + 1 := by
  unfold rTo
  rw [if_pos (by omega)]
  split <;> omega
theorem k_end {r : Int} {r0 : Nat} (h : 243194379878006784 ≤ r) (g : r ≤ (r0 : Int) + 1) (k : r0 < 243194379878006783) : False := by omega
theorem reach_low {p q C : Int} (hp : M.rng p) (hq : M.rng q) (pp : pok p = true) (pq : pok q = true) (hC : C * 2 ^ 4194304 = patV p * patV q) (h0 : C ≠ 0) (h : 243194379878006784 ≤ rg (fprod p q)) : reach p q = true := by
  cases hr : reach p q
  · exfalso
    have hno : ¬ ∃ T, 2 ^ 1074 * T = iV p * iV q := fun c => by rw [(reach_iff hp hq pp pq).2 c] at hr; cases hr
    have fa := iV_form hp pp
    have fb := iV_form hq pq
    obtain ⟨a0, a1, a2, a3⟩ := pmag_in pp
    obtain ⟨b0, b1, b2, b3⟩ := pmag_in pq
    obtain ⟨k, hk⟩ : ∃ k : Nat, k = 1073 := ⟨_, rfl⟩
    have hij : (pexp p + 1074).toNat + (pexp q + 1074).toNat ≤ k := by
      rcases Nat.lt_or_ge k ((pexp p + 1074).toNat + (pexp q + 1074).toNat) with c | c
      · exfalso
        apply hno
        have d : (2 ^ 1074 : Int) ∣ ((iV p * iV q).natAbs : Int) := by
          rw [Int.natAbs_mul, Int.natCast_mul, fa, fb, prod2]
          exact Int.dvd_trans (p2dvd (show 1074 ≤ (pexp p + 1074).toNat + (pexp q + 1074).toNat by omega)) ⟨pmag p * pmag q, by rw [Int.mul_comm]⟩
        obtain ⟨T, hT⟩ := Int.dvd_natAbs.1 d
        exact ⟨T, hT.symm⟩
      · exact c
    have e2 := pw_mul (a := -1074) (b := -1074) (by decide) (by decide)
    rw [show (-1074 + -1074 : Int) = -2148 by decide] at e2
    rw [patV_iV hp pp, patV_iV hq pq] at hC
    have eC := C_abs (two_pos 4194304) (pw_pos (-2148)) e2 hC
    have hx := k_ij (N := 9007199254740991) a0 b0 (Int.le_of_lt_add_one a1) (Int.le_of_lt_add_one b1) fa fb (p2le hij)
    have hlow := k_lowP (pw_pos (-2148)) (p2 k) rfl hx eC
    rw [← k_lowV hk] at hlow
    rw [← patV_iV hp pp, ← patV_iV hq pq] at hC
    rcases fprod_near hp hq pp pq hC with ⟨c, _⟩ | ⟨_, c⟩
    · exact h0 c
    · obtain ⟨A, r0, left, eA, hu, eN⟩ := nearP_rung h0
      have hA : A = (C.natAbs : Int) := k_abs1 (Int.le_trans (vS_nonneg r0) hu.lo) eA
      rw [hA] at hu
      have hr0 : r0 < 243194379878006783 := by
        rcases Nat.lt_or_ge r0 243194379878006783 with g | g
        · exact g
        · exact absurd (Int.lt_of_le_of_lt (Int.le_trans (vS_le g) hu.lo) hlow) (Int.lt_irrefl _)
      have hrr := rTo_range 0 (decide (C < 0)) r0 left
      rw [c, eN, (patS_parts hrr.1 hrr.2).2.1] at h
      have : rTo 0 (decide (C < 0)) r0 left ≤ (r0 : Int) + 1 := rTo_up r0 hr0
      exact k_end h this hr0
  · rfl
theorem sz_of {b P : Int} (h : szB b P = true) : pok b = true ∧ rg b < P := by
  unfold szB at h
  cases g : pok b
  · rw [g] at h; cases h
  · rw [g] at h; exact ⟨rfl, of_decide_eq_true h⟩
/-- What the law asks of sums. -/
theorem prem_sum {a b : Int} (ha : M.rng a) (hb : M.rng b) (h1 : szB a 9214364837600034816 = true) (h2 : szB b 9214364837600034816 = true) :
    (pok a = true ∧ pok b = true) ∧ told a = a ∧ told b = b ∧ told (M.neg b) = M.neg b ∧ pok (sL a b) = true ∧ pok (sL a (M.neg b)) = true ∧ (¬ rg a < rg b → fX a b = true) ∧ (cls a = 0 → fX a b = true) ∧ ((patV a + patV b = 0 ∧ fsum a b = patS (decide (a < 0) && decide (b < 0)) 0) ∨ (patV a + patV b ≠ 0 ∧ fsum a b = nearP (patV a + patV b))) ∧ M.rng (fsum a b) := by
  obtain ⟨pa, ra⟩ := sz_of h1
  obtain ⟨pb, rb⟩ := sz_of h2
  obtain ⟨n1, n2, n3⟩ := neg_facts hb pb
  have ma := max_1023 ha pa ra
  have mb := max_1023 hb pb rb
  obtain ⟨s1, s2⟩ := sum_fin ha hb pa pb ma mb
  obtain ⟨_, s3⟩ := sum_fin ha n1 pa n2 ma (by rw [n3, Int.natAbs_neg]; exact mb)
  refine ⟨⟨pa, pb⟩, told_ok pa ha, told_ok pb hb, told_ok n2 n1, s2, s3, fun c => fast_big ha hb pa pb s1 c, fun c => fast_zero ha hb pa pb s1 ?_, ?_, fsum_rng ha hb⟩
  · have := (cls_rg ha).2.1 c
    have e := iV_abs a
    rw [this] at e
    have z : V Ieee.double (0 : Int).toNat = 0 := V_zero _
    rw [z] at e
    omega
  · have e := fsum_eqn ha hb pa pb
    by_cases c : patV a + patV b = 0
    · rw [if_pos c] at e; exact .inl ⟨c, e⟩
    · rw [if_neg c] at e; exact .inr ⟨c, e⟩
theorem less_rg {a b : Int} (ha : M.rng a) (hb : M.rng b) (pa : pok a = true) (pb : pok b = true) : less (M.abs a) (M.abs b) = decide (rg a < rg b) := by
  rw [abs_rg (fin_cls hb pb).1]
  exact size_less ha pa (rg_lt hb pb).1 (rg_lt hb pb).2
theorem abs_rng {a : Int} (ha : M.rng a) (pa : pok a = true) : M.rng (M.abs a) := by
  rw [abs_rg (fin_cls ha pa).1]
  exact (fin_pos (rg_lt ha pa).1 (rg_lt ha pa).2).1
theorem k_zz {x y w : Int} (hw : 0 < w) (h : 0 = x * w * (y * w)) : x * y = 0 := by
  rw [show x * w * (y * w) = x * y * (w * w) by ac_rfl] at h
  rcases Int.mul_eq_zero.1 h.symm with g | g
  · exact g
  · have := Int.mul_pos hw hw; omega
theorem k_bd {H T M : Int} (h : 2 * (H.natAbs : Int) ≤ M) (r : 1000 * (H - T).natAbs ≤ T.natAbs) : 11 * (T.natAbs : Int) ≤ 10 * M := by omega
/-- What the law asks of products. -/
theorem prem_prod {a b C : Int} (ha : M.rng a) (hb : M.rng b) (h1 : szB a 9092767647661031424 = true) (h2 : szB b 9092767647661031424 = true) (hC : C * 2 ^ 4194304 = patV a * patV b) :
    pok (spL a) = true ∧ M.rng (fprod a b) ∧ ((C = 0 ∧ fprod a b = patS (xsg a b) 0) ∨ (C ≠ 0 ∧ fprod a b = nearP C)) ∧ (C = 0 → pX a b = true) ∧ (C ≠ 0 → szB (fprod a b) 9214364837600034816 = true → rg (fprod a b) < 243194379878006784 ∨ pX a b = true) := by
  obtain ⟨pa, ra⟩ := sz_of h1
  obtain ⟨pb, rb⟩ := sz_of h2
  have fin : ∀ {p : Int}, M.rng p → pok p = true → rg p < 9092767647661031424 → pok (spL p) = true := fun {p} hp pp hr => by
    have g0 := (rg_lt hp pp).1
    refine sp_fin hp pp (B := (V Ieee.double 9092767647661031424 : Int)) ?_ max_996
    rw [iV_abs]; exact V_le (by omega)
  have sa := fin ha pa ra
  have sb := fin hb pb rb
  refine ⟨sa, fprod_rng ha hb, fprod_near ha hb pa pb hC, fun c => ?_, fun c hz => ?_⟩
  · have hz : iV a * iV b = 0 := by
      rw [c, Int.zero_mul, patV_iV ha pa, patV_iV hb pb] at hC
      exact k_zz (pw_pos _) hC
    have hT : 2 ^ 1074 * (0 : Int) = iV a * iV b := by rw [hz, Int.mul_zero]
    have ph := (stp_prod ha hb pa pb hT).fin (Int.natCast_nonneg _)
    unfold pX
    rw [prod_fin ha hb sa sb ph hT (by show 11 * (0 : Int) ≤ 10 * maxV; have : 0 ≤ maxV := Int.natCast_nonneg _; omega), (reach_iff ha hb pa pb).2 ⟨0, hT⟩]
    rfl
  · by_cases hl : rg (fprod a b) < 243194379878006784
    · exact .inl hl
    · right
      obtain ⟨ph, rm⟩ := sz_of hz
      have hr := reach_low ha hb pa pb hC c (by omega)
      obtain ⟨T, hT⟩ := (reach_iff ha hb pa pb).1 hr
      have hM := k_bd (max_1023 (fprod_rng ha hb) ph rm) (nr_rel ((stp_prod ha hb pa pb hT).nr ph))
      unfold pX
      rw [prod_fin ha hb sa sb ph hT hM, hr]
      rfl
end Go.Proofs.YtoehjolmniddlaaDoor

/-
  Less, Same, Order of package bits and of the document's own answer, each by a contract over the same plain functions.
-/
namespace Go.Proofs.YtoehjolmniddlaaDoor
open Go Go.RowKit Go.Proofs.YtoehjolmniddlaaDoor.M
set_option linter.unusedSimpArgs false
set_option linter.unusedVariables false

theorem bitsLess (a b : Int) (w : World) (ha : rng a) (hb : rng b) :
    Calls Tryd.prog 15 #[.int .i64 a, .int .i64 b] w fun e w' => e = .returned (.bool (less a b)) ∧ w' = w := by
  have k := less_order ha hb
  go_enter Tryd.func15, Tryd.ntmps15
  go_wp2_with (go_at_call 35; refine (bitsFloat _ _).mono ?_; rintro e w1 ⟨rfl, rfl⟩)
  go_ret
  exact ⟨rfl, rfl⟩
theorem bitsSame (a b : Int) (w : World) (ha : rng a) (hb : rng b) :
    Calls Tryd.prog 14 #[.int .i64 a, .int .i64 b] w fun e w' => e = .returned (.bool (same a b)) ∧ w' = w := by
  have k := same_order ha hb
  go_enter Tryd.func14, Tryd.ntmps14
  go_wp2_with (go_at_call 35; refine (bitsFloat _ _).mono ?_; rintro e w1 ⟨rfl, rfl⟩)
  go_ret
  exact ⟨rfl, rfl⟩
theorem cmpInt (x y : Int) (w : World) :
    Calls Tryd.prog 73 #[.int .i64 x, .int .i64 y] w fun e w' => e = .returned (.int .i64 (cmp x y)) ∧ w' = w := by
  have hx : (x != x) = false := by simp
  rcases Int.lt_trichotomy x y with h | h | h
  · go_enter Tryd.func73, Tryd.ntmps73
    go_wp2
    go_ret
    exact ⟨b_ret_int (by simp [cmp, h]), rfl⟩
  · subst h
    go_enter Tryd.func73, Tryd.ntmps73
    go_wp2
    go_ret
    exact ⟨b_ret_int (by simp [cmp]), rfl⟩
  · go_enter Tryd.func73, Tryd.ntmps73
    go_wp2
    go_ret
    exact ⟨b_ret_int (by simp [cmp, h]; omega), rfl⟩
end Go.Proofs.YtoehjolmniddlaaDoor
