/-
  Parts of the proof, one behind another.
-/
import Derived.Test.YtoehjolmniddlaaDoorPart15
/-
  plumblaw6.alive, by its contract: the steps at its constants.
-/
namespace Go.Proofs.YtoehjolmniddlaaDoor
open Go Go.RowKit Go.Proofs.YtoehjolmniddlaaDoor.M Ieee
set_option linter.unusedSimpArgs false
set_option linter.unusedVariables false

theorem fw_c {p r : Int} {c : Nat} (h : FW p c) (hr : patW c = r) (hn : c % 9223372036854775808 ≤ 9218868437227405312) : p = r := by
  rcases h with ⟨_, hp, e⟩ | ⟨_, hN⟩
  · rw [← hr, e, patW_wd hp]
  · have := hN.2; omega
theorem fsum_c {p q r : Int} {x y c : Nat} (hp : FW p x) (hq : FW q y) (h : Ieee.double.add x y = some c) (hr : patW c = r) (hn : c % 9223372036854775808 ≤ 9218868437227405312) : fsum p q = r := by
  rcases add_FW hp hq with ⟨z, e, f⟩ | ⟨e, _⟩
  · rw [h] at e; cases e; exact fw_c f hr hn
  · rw [h] at e; cases e
theorem fprod_c {p q r : Int} {x y c : Nat} (hp : FW p x) (hq : FW q y) (h : Ieee.double.mul x y = some c) (hr : patW c = r) (hn : c % 9223372036854775808 ≤ 9218868437227405312) : fprod p q = r := by
  rcases mul_FW hp hq with ⟨z, e, f⟩ | ⟨e, _⟩
  · rw [h] at e; cases e; exact fw_c f hr hn
  · rw [h] at e; cases e
theorem ea_w0 : FW 4607182418800017408 4607182418800017408 := .inl ⟨by decide, by unfold rng; decide, by decide⟩
theorem ea_w1 : FW 4336966441157787648 4336966441157787648 := .inl ⟨by decide, by unfold rng; decide, by decide⟩
theorem ea_s1 : fsum 4607182418800017408 4336966441157787648 = 4607182418800017408 := fsum_c ea_w0 ea_w1 (c := 4607182418800017408) (by decide +kernel) (by decide) (by decide)
theorem ea_n4607182418800017408 : M.neg 4607182418800017408 = (-4616189618054758400) := by decide
theorem ea_w3 : FW (-4616189618054758400) 13830554455654793216 := .inl ⟨by decide, by unfold rng; decide, by decide⟩
theorem ea_s2 : fsum 4607182418800017408 (-4616189618054758400) = 0 := fsum_c ea_w0 ea_w3 (c := 0) (by decide +kernel) (by decide) (by decide)
theorem ea_n0 : M.neg 0 = (-9223372036854775808) := by decide
theorem ea_w5 : FW (-9223372036854775808) 9223372036854775808 := .inl ⟨by decide, by unfold rng; decide, by decide⟩
theorem ea_s3 : fsum 4607182418800017408 (-9223372036854775808) = 4607182418800017408 := fsum_c ea_w0 ea_w5 (c := 4607182418800017408) (by decide +kernel) (by decide) (by decide)
theorem ea_s4 : fsum 4607182418800017408 (-4616189618054758400) = 0 := fsum_c ea_w0 ea_w3 (c := 0) (by decide +kernel) (by decide) (by decide)
theorem ea_s5 : fsum 4336966441157787648 (-9223372036854775808) = 4336966441157787648 := fsum_c ea_w1 ea_w5 (c := 4336966441157787648) (by decide +kernel) (by decide) (by decide)
theorem ea_w6 : FW 0 0 := .inl ⟨by decide, by unfold rng; decide, by decide⟩
theorem ea_s6 : fsum 0 4336966441157787648 = 4336966441157787648 := fsum_c ea_w6 ea_w1 (c := 4336966441157787648) (by decide +kernel) (by decide) (by decide)
theorem ea_w7 : FW 4728779608772575232 4728779608772575232 := .inl ⟨by decide, by unfold rng; decide, by decide⟩
theorem ea_w8 : FW 4607182418800017409 4607182418800017409 := .inl ⟨by decide, by unfold rng; decide, by decide⟩
theorem ea_s7 : fprod 4728779608772575232 4607182418800017409 = 4728779608772575233 := fprod_c ea_w7 ea_w8 (c := 4728779608772575233) (by decide +kernel) (by decide) (by decide)
theorem ea_n4607182418800017409 : M.neg 4607182418800017409 = (-4616189618054758399) := by decide
theorem ea_w10 : FW 4728779608772575233 4728779608772575233 := .inl ⟨by decide, by unfold rng; decide, by decide⟩
theorem ea_w11 : FW (-4616189618054758399) 13830554455654793217 := .inl ⟨by decide, by unfold rng; decide, by decide⟩
theorem ea_s8 : fsum 4728779608772575233 (-4616189618054758399) = 4728779608739020801 := fsum_c ea_w10 ea_w11 (c := 4728779608739020801) (by decide +kernel) (by decide) (by decide)
theorem ea_n4728779608739020801 : M.neg 4728779608739020801 = (-4494592428115755007) := by decide
theorem ea_w13 : FW (-4494592428115755007) 13952151645593796609 := .inl ⟨by decide, by unfold rng; decide, by decide⟩
theorem ea_s9 : fsum 4728779608772575233 (-4494592428115755007) = 4607182418800017408 := fsum_c ea_w10 ea_w13 (c := 4607182418800017408) (by decide +kernel) (by decide) (by decide)
theorem ea_s10 : fsum 4607182418800017409 (-4616189618054758400) = 4372995238176751616 := fsum_c ea_w8 ea_w3 (c := 4372995238176751616) (by decide +kernel) (by decide) (by decide)
theorem ea_s11 : fprod 4607182418800017409 4607182418800017409 = 4607182418800017410 := fprod_c ea_w8 ea_w8 (c := 4607182418800017410) (by decide +kernel) (by decide) (by decide)
theorem ea_s12 : fprod 4607182418800017408 4607182418800017408 = 4607182418800017408 := fprod_c ea_w0 ea_w0 (c := 4607182418800017408) (by decide +kernel) (by decide) (by decide)
theorem ea_w14 : FW 4372995238176751616 4372995238176751616 := .inl ⟨by decide, by unfold rng; decide, by decide⟩
theorem ea_s13 : fprod 4372995238176751616 4607182418800017408 = 4372995238176751616 := fprod_c ea_w14 ea_w0 (c := 4372995238176751616) (by decide +kernel) (by decide) (by decide)
theorem ea_s14 : fprod 4607182418800017408 4372995238176751616 = 4372995238176751616 := fprod_c ea_w0 ea_w14 (c := 4372995238176751616) (by decide +kernel) (by decide) (by decide)
theorem ea_s15 : fprod 4372995238176751616 4372995238176751616 = 4138808057553485824 := fprod_c ea_w14 ea_w14 (c := 4138808057553485824) (by decide +kernel) (by decide) (by decide)
theorem ea_w15 : FW 4607182418800017410 4607182418800017410 := .inl ⟨by decide, by unfold rng; decide, by decide⟩
theorem ea_s16 : fsum 4607182418800017410 (-4616189618054758400) = 4377498837804122112 := fsum_c ea_w15 ea_w3 (c := 4377498837804122112) (by decide +kernel) (by decide) (by decide)
theorem ea_n4372995238176751616 : M.neg 4372995238176751616 = (-4850376798678024192) := by decide
theorem ea_w17 : FW 4377498837804122112 4377498837804122112 := .inl ⟨by decide, by unfold rng; decide, by decide⟩
theorem ea_w18 : FW (-4850376798678024192) 13596367275031527424 := .inl ⟨by decide, by unfold rng; decide, by decide⟩
theorem ea_s17 : fsum 4377498837804122112 (-4850376798678024192) = 4372995238176751616 := fsum_c ea_w17 ea_w18 (c := 4372995238176751616) (by decide +kernel) (by decide) (by decide)
theorem ea_s18 : fsum 4372995238176751616 (-4850376798678024192) = 0 := fsum_c ea_w14 ea_w18 (c := 0) (by decide +kernel) (by decide) (by decide)
theorem ea_w19 : FW 4138808057553485824 4138808057553485824 := .inl ⟨by decide, by unfold rng; decide, by decide⟩
theorem ea_s19 : fsum 4138808057553485824 (-9223372036854775808) = 4138808057553485824 := fsum_c ea_w19 ea_w5 (c := 4138808057553485824) (by decide +kernel) (by decide) (by decide)
theorem ea_sV : sV 4607182418800017408 4336966441157787648 = 0 := by unfold sV; simp only [ea_s1, ea_n4607182418800017408, ea_s2]
theorem ea_sL : sL 4607182418800017408 4336966441157787648 = 4336966441157787648 := by unfold sL; simp only [ea_sV, ea_s1, ea_n0, ea_s3, ea_n4607182418800017408, ea_s4, ea_s5, ea_s6]
theorem ea_cC : cC 4607182418800017409 = 4728779608772575233 := by unfold cC; simp only [ea_s7]
theorem ea_spH : spH 4607182418800017409 = 4607182418800017408 := by unfold spH; simp only [ea_cC, ea_n4607182418800017409, ea_s8, ea_n4728779608739020801, ea_s9]
theorem ea_spL : spL 4607182418800017409 = 4372995238176751616 := by unfold spL; simp only [ea_spH, ea_n4607182418800017408, ea_s10]
theorem ea_m : fprod 4607182418800017409 4607182418800017409 = 4607182418800017410 := ea_s11
theorem ea_T1 : pT1 4607182418800017409 4607182418800017409 = 4377498837804122112 := by unfold pT1; simp only [ea_spH, ea_s11, ea_s12, ea_n4607182418800017408, ea_s16]
theorem ea_T2 : pT2 4607182418800017409 4607182418800017409 = 4372995238176751616 := by unfold pT2; simp only [ea_T1, ea_spL, ea_spH, ea_s13, ea_n4372995238176751616, ea_s17]
theorem ea_T3 : pT3 4607182418800017409 4607182418800017409 = 0 := by unfold pT3; simp only [ea_T2, ea_spL, ea_spH, ea_s14, ea_n4372995238176751616, ea_s18]
theorem ea_prL : prL 4607182418800017409 4607182418800017409 = 4138808057553485824 := by unfold prL; simp only [ea_T3, ea_spL, ea_s15, ea_n0, ea_s19]
theorem ea_reach : pX 4607182418800017409 4607182418800017409 = true := by unfold pX; rw [ea_prL]; decide +kernel
theorem ea_told {p : Int} (h : ¬ cls p = 4) : told p = p := by unfold told; rw [if_neg h]
set_option maxRecDepth 100000 in
set_option maxHeartbeats 1000000 in
theorem alive6 (w : World) (H : Hold4 w) : Calls Tryd.prog 6 #[] w fun e w' => e = .returned (.bool true) ∧ Below w.heap.size w w' := by
  have C1 := twoSum_any (a := 4607182418800017408) (b := 4336966441157787648) (by unfold M.rng; decide) (by unfold M.rng; decide) w
  rw [ea_told (by decide), ea_told (by decide), ea_s1, ea_sL, show pok 4336966441157787648 = true by decide] at C1
  have C2 : Hid (∀ W, Below w.heap.size w W → Calls Tryd.prog 20 #[.int .i64 4607182418800017409, .int .i64 4607182418800017409] W fun e w' => e = .returned (.tuple #[.int .i64 4607182418800017410, .int .i64 4138808057553485824, .bool true]) ∧ Below W.heap.size W w') := fun W hB => by
    have := twoProd_any (a := 4607182418800017409) (b := 4607182418800017409) (by unfold M.rng; decide) (by unfold M.rng; decide) W (H.keeps hB)
    rw [ea_told (by decide), ea_m, ea_prL, ea_reach] at this
    exact this
  clear H
  go_enter Tryd.func6, Tryd.ntmps6
  go_wp2_with fail
  refine C1.mono ?_
  rintro _ w1 ⟨rfl, b1⟩
  clear C1
  go_wp2_with fail
  refine (C2.out _ b1).mono ?_
  rintro _ w2 ⟨rfl, b2⟩
  go_wp2
  all_goals go_ret
  all_goals exact ⟨rfl, bel_trans b1 b2⟩
end Go.Proofs.YtoehjolmniddlaaDoor

/-
  EftHonest: what the steps tell as exact, as the law asks for it.
-/
namespace Go.Proofs.YtoehjolmniddlaaDoor
open Go Go.RowKit Go.Proofs.YtoehjolmniddlaaDoor.M Ieee
set_option linter.unusedSimpArgs false
set_option linter.unusedVariables false

theorem class6 {b : Int} (w : World) (H : Hold4 w) : Calls Tryd.prog 17 #[.int .i64 b] w fun e w' => e = .returned (.int .i64 (cls b)) ∧ Below w.heap.size w w' := by
  refine (bitsClass b w H.env.lays).mono ?_
  rintro e w' ⟨h, g⟩
  exact ⟨h, g.be⟩
theorem cls_big {b : Int} (h : pok b = false) : 2 < cls b := by
  unfold pok at h; unfold cls; rw [if_pos (by simpa using h)]; split <;> decide
theorem cls_few {b : Int} (h : pok b = true) : ¬ 2 < cls b := by
  unfold pok at h; unfold cls; rw [if_neg (by simpa using h)]
  split
  · split <;> decide
  · decide
theorem told_rng {a : Int} (h : M.rng a) : M.rng (told a) := by
  unfold told; split
  · exact nan_rng
  · exact h
theorem told_ok {a : Int} (h : pok a = true) (ha : M.rng a) : told a = a := by
  unfold told; rw [if_neg (fin_cls ha h).1]
theorem told_pok {a : Int} (h : pok (told a) = true) : pok a = true := by
  rw [told_fin h] at h; exact h
/-- The answer of together. -/
def tgB (h l V : Int) : Bool := pok h && (pok l && decide (patV h + patV l = V))
theorem no_sum {a b : Int} (ha : M.rng a) (hb : M.rng b) (h : pok a = false ∨ pok b = false) : pok (sL (told a) (told b)) = false ∧ fX (told a) (told b) = false ∧ pX (told a) (told b) = false := by
  have key : pok (told a) = true ∧ pok (told b) = true → False := fun ⟨x, y⟩ => by
    have x := told_pok x
    have y := told_pok y
    rcases h with c | c
    · rw [x] at c; cases c
    · rw [y] at c; cases c
  have ra := told_rng ha
  have rb := told_rng hb
  refine ⟨?_, ?_, ?_⟩
  · cases g : pok (sL (told a) (told b))
    · rfl
    · exact (key (sL_exact ra rb g).1).elim
  · unfold fX
    cases g : pok (fL (told a) (told b))
    · rfl
    · exact (key (fL_args ra rb g).1).elim
  · unfold pX
    cases g : pok (prL (told a) (told b))
    · rfl
    · obtain ⟨⟨pQ, pS⟩, _⟩ := prL_args ra rb g
      exact (key ⟨(spL_exact ra pQ).1, (spL_exact rb pS).1⟩).elim
theorem k_eqS {a b c d q : Int} (hq : 0 < q) : decide (a * q + b * q = c * q + d * q) = decide (a + b = c + d) := by
  congr 1
  apply propext
  rw [← Int.add_mul, ← Int.add_mul]
  exact ⟨fun h => Int.eq_of_mul_eq_mul_right (Int.ne_of_gt hq) h, fun h => by rw [h]⟩
theorem sL_rng {p q : Int} (hp : M.rng p) (hq : M.rng q) : M.rng (sL p q) := by
  have rh := fsum_rng hp hq
  have rv : M.rng (sV p q) := fsum_rng rh (neg_rng hp)
  exact fsum_rng (fsum_rng hp (neg_rng (fsum_rng rh (neg_rng rv)))) (fsum_rng hq (neg_rng rv))
theorem fL_rng {p q : Int} (hp : M.rng p) (hq : M.rng q) : M.rng (fL p q) := fsum_rng hq (neg_rng (fsum_rng (fsum_rng hp hq) (neg_rng hp)))
theorem sp_rng {p : Int} (hp : M.rng p) : M.rng (spH p) ∧ M.rng (spL p) := by
  have rc : M.rng (cC p) := fprod_rng spl_rng hp
  have rd := fsum_rng rc (neg_rng hp)
  have rH : M.rng (spH p) := fsum_rng rc (neg_rng rd)
  exact ⟨rH, fsum_rng hp (neg_rng rH)⟩
theorem prL_rng {p q : Int} (hp : M.rng p) (hq : M.rng q) : M.rng (prL p q) := by
  obtain ⟨rP, rQ⟩ := sp_rng hp
  obtain ⟨rR, rS⟩ := sp_rng hq
  have rT1 : M.rng (pT1 p q) := fsum_rng (fprod_rng hp hq) (neg_rng (fprod_rng rP rR))
  have rT2 : M.rng (pT2 p q) := fsum_rng rT1 (neg_rng (fprod_rng rQ rR))
  have rT3 : M.rng (pT3 p q) := fsum_rng rT2 (neg_rng (fprod_rng rP rS))
  exact fsum_rng (fprod_rng rQ rS) (neg_rng rT3)
theorem hon_sum {a b : Int} (ha : M.rng a) (hb : M.rng b) (pa : pok a = true) (pb : pok b = true) : pok (sL a b) = tgB (fsum a b) (sL a b) (patV a + patV b) := by
  unfold tgB
  cases g : pok (sL a b)
  · simp
  · obtain ⟨_, ph, e⟩ := sL_exact ha hb g
    rw [ph, patV_iV (fsum_rng ha hb) ph, patV_iV (sL_rng ha hb) g, patV_iV ha pa, patV_iV hb pb, k_eqS (pw_pos _), decide_eq_true e]
    rfl
theorem hon_fast {a b : Int} (ha : M.rng a) (hb : M.rng b) (pa : pok a = true) (pb : pok b = true) : fX a b = tgB (fsum a b) (fL a b) (patV a + patV b) := by
  unfold tgB
  cases g : pok (fL a b)
  · unfold fX; rw [g]; simp
  · obtain ⟨_, ph⟩ := fL_args ha hb g
    rw [fX_iff ha hb g, ph, patV_iV (fsum_rng ha hb) ph, patV_iV (fL_rng ha hb) g, patV_iV ha pa, patV_iV hb pb, k_eqS (pw_pos _)]
    rfl
theorem k_prodE {x y m l C u Z k w : Int} (hZ : 0 < Z) (hu : 0 < u) (e2 : w * w = u * Z) (e3 : w = u * k) (hC : C * Z = x * w * (y * w)) : (m * w + l * w = C) ↔ (k * (m + l) = x * y) := by
  have h1 : C = x * y * u := by
    have : x * w * (y * w) = x * y * u * Z := by
      rw [show x * w * (y * w) = x * y * (w * w) by ac_rfl, e2]; ac_rfl
    rw [this] at hC
    exact Int.eq_of_mul_eq_mul_right (Int.ne_of_gt hZ) hC
  rw [h1, e3, ← Int.add_mul, show (m + l) * (u * k) = k * (m + l) * u by ac_rfl]
  exact ⟨fun h => Int.eq_of_mul_eq_mul_right (Int.ne_of_gt hu) h, fun h => by rw [h]⟩
theorem hon_prod {a b C : Int} (ha : M.rng a) (hb : M.rng b) (pa : pok a = true) (pb : pok b = true) (hC : C * 2 ^ 4194304 = patV a * patV b) : pX a b = tgB (fprod a b) (prL a b) C := by
  unfold tgB pX
  cases g : pok (prL a b)
  · simp
  · have ph := (prL_args ha hb g).2.1
    have e2 := pw_mul (a := -1074) (b := -1074) (by decide) (by decide)
    rw [show (-1074 + -1074 : Int) = -2148 by decide] at e2
    have e3 := pw_add (e := -2148) (by decide) 1074
    rw [show (-2148 + ((1074 : Nat) : Int)) = -1074 by decide] at e3
    rw [patV_iV ha pa, patV_iV hb pb] at hC
    rw [ph, patV_iV (fprod_rng ha hb) ph, patV_iV (prL_rng ha hb) g, Bool.true_and, Bool.true_and, Bool.true_and]
    have hk := k_prodE (m := iV (fprod a b)) (l := iV (prL a b)) (two_pos 4194304) (pw_pos (-2148)) e2 e3 hC
    have hr := reach_iff ha hb pa pb
    cases r : reach a b
    · refine (decide_eq_false fun c => ?_).symm
      rw [hr.2 ⟨_, hk.1 c⟩] at r
      cases r
    · refine (decide_eq_true (hk.2 ?_)).symm
      obtain ⟨T, hT⟩ := hr.1 r
      rw [(prL_exact ha hb g hT).2.2]
      exact hT
end Go.Proofs.YtoehjolmniddlaaDoor

/-
  EftHalves: Split is finite where floats are not too great; its halves have 26 bits.
-/
namespace Go.Proofs.YtoehjolmniddlaaDoor
open Go Go.RowKit Go.Proofs.YtoehjolmniddlaaDoor.M Ieee
set_option linter.unusedSimpArgs false
set_option linter.unusedVariables false

theorem k_sp1 {a c B M : Int} (h : (a.natAbs : Int) ≤ B) (hM : 268435455 * B ≤ M) : ((134217729 * a).natAbs : Int) ≤ M := by omega
theorem k_sp2 {a c B M : Int} (h : (a.natAbs : Int) ≤ B) (hM : 268435455 * B ≤ M) (r : 1000 * (c - 134217729 * a).natAbs ≤ (134217729 * a).natAbs) : ((c - a).natAbs : Int) ≤ M ∧ ((c - a).natAbs : Int) ≤ 200000000 * B := by omega
theorem k_sp3 {a c d B M : Int} (h : (a.natAbs : Int) ≤ B) (hM : 268435455 * B ≤ M) (g : ((c - a).natAbs : Int) ≤ 200000000 * B) (r : 1000 * (d - (c - a)).natAbs ≤ (c - a).natAbs) : ((c - d).natAbs : Int) ≤ M ∧ ((c - d).natAbs : Int) ≤ 300000 * B := by omega
theorem k_sp4 {a c d x B M : Int} (h : (a.natAbs : Int) ≤ B) (hM : 268435455 * B ≤ M) (g : ((c - d).natAbs : Int) ≤ 300000 * B) (r : 1000 * (x - (c - d)).natAbs ≤ (c - d).natAbs) : ((a - x).natAbs : Int) ≤ M := by omega
theorem sp_fin {p B : Int} (hp : M.rng p) (pp : pok p = true) (h : ((iV p).natAbs : Int) ≤ B) (hM : 268435455 * B ≤ maxV) : pok (spL p) = true := by
  have rc : M.rng (cC p) := fprod_rng spl_rng hp
  have rd := fsum_rng rc (neg_rng hp)
  have rH : M.rng (spH p) := fsum_rng rc (neg_rng rd)
  have S1 := stp_split hp pp
  have pc := S1.fin (k_sp1 (c := 0) h hM)
  have r1 := nr_rel (S1.nr pc)
  obtain ⟨g1, g2⟩ := k_sp2 h hM r1
  have S2 := stp_diff rc hp pc pp
  have pd := S2.fin g1
  have r2 := nr_rel (S2.nr pd)
  obtain ⟨g3, g4⟩ := k_sp3 h hM g2 r2
  have S3 := stp_diff rc rd pc pd
  have pH := S3.fin g3
  have r3 := nr_rel (S3.nr pH)
  exact (stp_diff hp rH pp pH).fin (k_sp4 h hM g4 r3)
theorem V_top {a n : Nat} (h : 4503599627370496 ≤ n) (g : n < 9007199254740992) : (V Ieee.double (a * 4503599627370496 + n) : Int) = (n : Int) * 2 ^ a := by
  have := V_parts Ieee.double a n (.inr ⟨by rw [dBin]; exact h, by rw [dBin]; omega⟩)
  rw [dBin] at this
  rw [this, nat_two, Int.mul_comm]
theorem k_max {K M B : Int} (hK : 0 < K) (hM : M = 9007199254740991 * (134217728 * K)) (hB : B = 4503599627370496 * K) : 268435455 * B ≤ M := by omega
theorem max_996 : 268435455 * (V Ieee.double 9092767647661031424 : Int) ≤ maxV := by
  obtain ⟨a, ha⟩ : ∃ a : Nat, a = 2018 := ⟨_, rfl⟩
  have e1 := V_top (a := a) (n := 4503599627370496) (by decide) (by decide)
  have e2 := V_top (a := a + 27) (n := 9007199254740991) (by decide) (by decide)
  rw [show a * 4503599627370496 + 4503599627370496 = 9092767647661031424 by omega] at e1
  rw [show (a + 27) * 4503599627370496 + 9007199254740991 = 9218868437227405311 by omega, k_split2, Int.mul_comm (2 ^ a), show (2 : Int) ^ 27 = 134217728 by decide] at e2
  exact k_max (p2 a) e2 e1
theorem odd_small {t m : Int} {A B : Nat} (ht : t ≤ 67108864) (h0 : 0 < m) (ho : m % 2 = 1) (e : t * 2 ^ A = m * 2 ^ B) : m < 67108864 := by
  rcases Nat.lt_or_ge B A with c | c
  · exfalso
    obtain ⟨d, rfl⟩ : ∃ d, A = B + 1 + d := ⟨A - B - 1, by omega⟩
    rw [Int.pow_add, p2s, show t * (2 * 2 ^ B * 2 ^ d) = (2 * (t * 2 ^ d)) * 2 ^ B by ac_rfl] at e
    have := Int.eq_of_mul_eq_mul_right (Int.ne_of_gt (p2 B)) e
    generalize t * 2 ^ d = u at this
    omega
  · obtain ⟨d, rfl⟩ : ∃ d, B = A + d := ⟨B - A, by omega⟩
    rw [Int.pow_add, show m * (2 ^ A * 2 ^ d) = m * 2 ^ d * 2 ^ A by ac_rfl] at e
    have e2 := Int.eq_of_mul_eq_mul_right (Int.ne_of_gt (p2 A)) e
    have h1 := p2 d
    have h2 : m * 1 ≤ m * 2 ^ d := Int.mul_le_mul_of_nonneg_left (by omega) (by omega)
    omega
/-- Half as many bits. -/
def Hlf (v : Int) : Prop := v = 0 ∨ ∃ (x y : Nat) (t : Int), 2 ^ x * (v.natAbs : Int) = 2 ^ y * t ∧ t ≤ 67108864
theorem hlv_half {a h l : Int} (H : Hlv a h l) : Hlf h ∧ Hlf l := by
  by_cases h0 : a = 0
  · have := H.zero h0
    have := H.sum
    exact ⟨.inl (by omega), .inl (by omega)⟩
  · obtain ⟨x, j, s, _, _⟩ := H.spl h0
    have e : 2 ^ x * a - 2 ^ x * h = 2 ^ x * l := by rw [← Int.mul_sub]; congr 1; have := H.sum; omega
    obtain ⟨u1, u2, u3, u4⟩ := s
    rw [e] at u2 u4
    refine ⟨.inr ?_, .inr ?_⟩
    · obtain ⟨c, hc⟩ := u1
      have hj := p2 j
      rw [hc] at u3
      refine ⟨x, j + 27, (c.natAbs : Int), ?_, ?_⟩
      · rw [← natAbs_p2, hc, show (134217728 * 2 ^ j * c : Int) = 2 ^ (j + 27) * c by rw [k_split2, show (2 : Int) ^ 27 = 134217728 by decide]; ac_rfl, natAbs_p2]
      · rw [show (134217728 * 2 ^ j * c : Int) = 2 ^ (j + 27) * c by rw [k_split2, show (2 : Int) ^ 27 = 134217728 by decide]; ac_rfl, natAbs_p2, k_split2, show (2 : Int) ^ 27 = 134217728 by decide] at u3
        have : 134217728 * (c.natAbs : Int) * 2 ^ j ≤ 9007199254740992 * 2 ^ j := by
          rw [show 134217728 * (c.natAbs : Int) * 2 ^ j = 2 ^ j * 134217728 * (c.natAbs : Int) by ac_rfl]; exact u3
        have := Int.le_of_mul_le_mul_right this hj
        omega
    · obtain ⟨c, hc⟩ := u2
      rw [hc, natAbs_p2] at u4
      refine ⟨x, j, (c.natAbs : Int), by rw [← natAbs_p2, hc, natAbs_p2], ?_⟩
      exact Int.le_of_mul_le_mul_left (by rw [Int.mul_comm _ 67108864]; exact u4) (p2 j)
theorem pw_pow {e : Int} (h : -4194304 ≤ e) : pw e = 2 ^ (e + 4194304).toNat := rfl
theorem k_absE {v m K J : Int} {g : Bool} (hK : 0 < K) (hJ : 0 < J) (h0 : 0 < m) (e : v * K = sg g m * J) : (v.natAbs : Int) * K = m * J := by
  have hm := Int.mul_pos h0 hJ
  rcases Int.le_total 0 v with c | c
  · rw [Int.natAbs_of_nonneg c, e]
    cases g
    · rfl
    · exfalso
      have h1 := Int.mul_nonneg c (Int.le_of_lt hK)
      have h2 : sg true m * J = -(m * J) := by show -m * J = _; rw [Int.neg_mul]
      omega
  · have e1 : (v.natAbs : Int) = -v := by omega
    rw [e1, Int.neg_mul, e]
    cases g
    · exfalso
      have h1 := Int.mul_nonneg (show 0 ≤ -v by omega) (Int.le_of_lt hK)
      rw [Int.neg_mul] at h1
      have h2 : sg false m * J = m * J := rfl
      omega
    · show -(-m * J) = _
      rw [Int.neg_mul, Int.neg_neg]
theorem hlf_dy {v : Int} (H : Hlf v) {V : Int} (hV : V = v * pw (-1074)) {ng : Bool} {m e : Int} (hy : Dy V ng m e) : m < 67108864 := by
  rcases hy.form with ⟨c, _, _⟩ | ⟨h0, ho⟩
  · rw [c]; decide
  · rcases H with c | ⟨x, y, t, e1, e2⟩
    · exfalso
      have := hy.eq_zero.1 (by rw [hV, c, Int.zero_mul])
      omega
    · obtain ⟨k, hk⟩ : ∃ k : Nat, pw (-1074) = 2 ^ k := ⟨_, rfl⟩
      obtain ⟨j, hj⟩ : ∃ j : Nat, pw e = 2 ^ j := ⟨_, rfl⟩
      have h1 := hy.val
      rw [hV, hk, hj] at h1
      have h2 : (v.natAbs : Int) * 2 ^ k = m * 2 ^ j := k_absE (p2 k) (p2 j) h0 h1
      refine odd_small (A := y + k) (B := x + j) e2 h0 ho ?_
      rw [Int.pow_add, Int.pow_add, show t * (2 ^ y * 2 ^ k) = (2 ^ y * t) * 2 ^ k by ac_rfl, ← e1, show m * (2 ^ x * 2 ^ j) = 2 ^ x * (m * 2 ^ j) by ac_rfl, ← h2]
      ac_rfl
/-- A number of one digit at most, below 2^26. -/
theorem half_num {w : World} {ng : Bool} {o : Option Addr} {n c : Nat} {e V : Int} (h : DNum w (.agg #[.bool ng, .slice o n c, .int .i64 e]) V) (hs : ∀ ng m e, Dy V ng m e → m < 67108864) :
    n = 0 ∨ (n = 1 ∧ ∃ b f v, o = some ⟨b, f, none⟩ ∧ w.cell? ⟨b, f, none⟩ = some (.int .i64 v) ∧ v < 67108864) := by
  obtain ⟨ng', s, m, e', h1, hy, hN⟩ := h
  simp only [Value.agg.injEq, Array.mk.injEq, List.cons.injEq, and_true] at h1
  obtain ⟨_, h2, _⟩ := h1
  subst h2
  have hm := hs _ _ _ hy
  have hl := hN.len (k := 1) (by rw [show P 1 = 1073741824 by decide]; omega)
  obtain ⟨ao, n', cap, d, h3, hR, hNr, hv⟩ := hN
  simp only [Value.slice.injEq] at h3
  obtain ⟨rfl, rfl, rfl⟩ := h3
  rcases Nat.eq_zero_or_pos n with g | g
  · exact .inl g
  · have g1 : n = 1 := by omega
    subst g1
    obtain ⟨b, f, e1, _, hc⟩ := hR.spot (by omega)
    refine .inr ⟨rfl, b, f, d 0, e1, hc 0 (by omega), ?_⟩
    have : val d 1 = d 0 := by simp [val, P]
    omega
end Go.Proofs.YtoehjolmniddlaaDoor
