/-
  Parts of the proof, one behind another.
-/
import Derived.Test.YtheiinclgfgneaaDoorPart25
import Derived.Test.YtheiinclgfgneaaDoorPart18
import Derived.Test.YtheiinclgfgneaaDoorPart8
import Derived.Deep.Slices
import Derived.SizedLaws
/-
  Package plumbref6: TwoSum, TwoDiff, FastTwoSum, Split, TwoProd, by their contracts.
-/
namespace Go.Proofs.YtheiinclgfgneaaDoor
open Go Go.RowKit Go.Proofs.YtheiinclgfgneaaDoor.M
set_option linter.unusedSimpArgs false
set_option linter.unusedVariables false

theorem k_split : jp false 134217729 0 = 4728779608772575232 := by decide +kernel
set_option maxRecDepth 100000 in
set_option maxHeartbeats 2000000 in
theorem r6twoSum_any (a b : Int) (ha : rng a) (hb : rng b) (w : World) :
    Calls Tryd.prog 11 #[.int .i64 a, .int .i64 b] w fun x w' => x = .returned (.tuple #[.int .i64 (fsum a b), .int .i64 (sL a b), .bool (pok a && pok b && tgB (fsum a b) (sL a b) (patV a + patV b))]) ∧ Below w.heap.size w w' := by
  have r1 := fsum_rng ha hb
  have S1 := fun W => r6sum_any a b ha hb W
  have S2 := fun W => r6diff_any (fsum a b) a r1 ha W
  have r2 : rng (sV a b) := fsum_rng r1 (neg_rng ha)
  have S3 := fun W => r6diff_any (fsum a b) (sV a b) r1 r2 W
  have r3 := fsum_rng r1 (neg_rng r2)
  have S4 := fun W => r6diff_any a (fsum (fsum a b) (neg (sV a b))) ha r3 W
  have r4 := fsum_rng ha (neg_rng r3)
  have S5 := fun W => r6diff_any b (sV a b) hb r2 W
  have r5 := fsum_rng hb (neg_rng r2)
  have S6 := fun W => r6sum_any (fsum a (neg (fsum (fsum a b) (neg (sV a b))))) (fsum b (neg (sV a b))) r4 r5 W
  have rl : rng (sL a b) := fsum_rng r4 r5
  have e2 : fsum (fsum a b) (neg a) = sV a b := rfl
  have e6 : fsum (fsum a (neg (fsum (fsum a b) (neg (sV a b))))) (fsum b (neg (sV a b))) = sL a b := rfl
  rw [e2] at S2
  rw [e6] at S6
  clear e2 e6
  have F1 := fun W => r6finite_any a b ha hb W
  have J1 := fun {V g so sn sc e} W hx => r6just_any (fsum a b) (sL a b) r1 rl (V := V) (g := g) (so := so) (sn := sn) (sc := sc) (e := e) W hx
  generalize sL a b = l at *
  generalize fsum (fsum a b) (neg (sV a b)) = u at *
  generalize fsum a (neg u) = u2 at *
  generalize fsum b (neg (sV a b)) = u3 at *
  generalize sV a b = v at *
  generalize fsum a b = h at *
  clear r1 r2 r3 r4 r5 rl
  by_cases hf : (pok a && pok b) = true
  · have hpq : pok a = true ∧ pok b = true := by simpa using hf
    obtain ⟨pa, pb⟩ := hpq
    have O1 := fun W => rof_any a W ha pa
    have O2 := fun W => rof_any b W hb pb
    have e1 : sg (pneg a) (pmag a) * pw (pexp a) = patV a := rfl
    have e2 : sg (pneg b) (pmag b) * pw (pexp b) = patV b := rfl
    rw [e1] at O1
    rw [e2] at O2
    have b1 := (patV_bd pa).up (show 4000 ≤ 9000 by decide) (by decide)
    have b2 := (patV_bd pb).up (show 4000 ≤ 9000 by decide) (by decide)
    clear e1 e2
    rw [hf] at F1 ⊢
    rw [Bool.true_and]
    clear hf pa pb ha hb
    generalize patV a = Va at *
    generalize patV b = Vb at *
    generalize hTG : tgB h l (Va + Vb) = R
    have J2 : Hid (∀ {g so sn sc e} W, DNum W (.agg #[.bool g, .slice so sn sc, .int .i64 e]) (Va + Vb) → Calls Tryd.prog 28 #[.int .i64 h, .int .i64 l, .agg #[.bool g, .slice so sn sc, .int .i64 e]] W fun x w' => x = .returned (.bool R) ∧ Below W.heap.size W w') := fun W hx => by rw [← hTG]; exact J1 W hx
    clear J1 hTG
    go_enter Tryd.func11, Tryd.ntmps11
    go_wp2_with fail
    refine (S1 _).mono ?_
    rintro _ w1 ⟨rfl, hb1⟩
    go_wp2_with fail
    refine (S2 _).mono ?_
    rintro _ w2 ⟨rfl, hb2⟩
    go_wp2_with fail
    refine (S3 _).mono ?_
    rintro _ w3 ⟨rfl, hb3⟩
    go_wp2_with fail
    refine (S4 _).mono ?_
    rintro _ w4 ⟨rfl, hb4⟩
    go_wp2_with fail
    refine (S5 _).mono ?_
    rintro _ w5 ⟨rfl, hb5⟩
    go_wp2_with fail
    refine (S6 _).mono ?_
    rintro _ w6 ⟨rfl, hb6⟩
    go_wp2_with fail
    refine (F1 _).mono ?_
    rintro _ w7 ⟨rfl, rfl⟩
    go_wp2_with fail
    refine (O1 _).mono ?_
    rintro _ wa ⟨va, rfl, hva⟩
    go_wp2_with fail
    refine (O2 _).mono ?_
    rintro _ wb ⟨vb, rfl, hvb⟩
    go_wp2_with fail
    refine (radd_D (hva.num.keeps hvb.below) hvb.num (show 9000 ≤ 560000 by decide) b1 b2).mono ?_
    rintro _ wc ⟨vc, rfl, hs⟩
    obtain ⟨hvc, hbc⟩ := hs.both (hva.num.keeps hvb.below) hvb.num
    obtain ⟨g, so, sn, sc, e, rfl⟩ := hvc.shape
    have hba := hva.below
    have hbb := hvb.below
    clear hs hva hvb
    go_wp2_with fail
    refine (J2.out _ hvc).mono ?_
    rintro _ wd ⟨rfl, hbd⟩
    go_wp2
    refine bodyPost_ret (v := .tuple #[.int .i64 h, .int .i64 l, .bool R]) (by simp [results, Tryd.results11, go_sem]) rfl ⟨rfl, ?_⟩
    exact bel_trans (bel_trans hb1 (bel_trans hb2 (bel_trans hb3 (bel_trans hb4 (bel_trans hb5 (hb6)))))) (bel_trans hba (bel_trans hbb (bel_trans hbc hbd)))
  · have hff : (pok a && pok b) = false := by simpa using hf
    rw [hff] at F1 ⊢
    rw [Bool.false_and]
    clear J1 hf hff ha hb
    go_enter Tryd.func11, Tryd.ntmps11
    go_wp2_with fail
    refine (S1 _).mono ?_
    rintro _ w1 ⟨rfl, hb1⟩
    go_wp2_with fail
    refine (S2 _).mono ?_
    rintro _ w2 ⟨rfl, hb2⟩
    go_wp2_with fail
    refine (S3 _).mono ?_
    rintro _ w3 ⟨rfl, hb3⟩
    go_wp2_with fail
    refine (S4 _).mono ?_
    rintro _ w4 ⟨rfl, hb4⟩
    go_wp2_with fail
    refine (S5 _).mono ?_
    rintro _ w5 ⟨rfl, hb5⟩
    go_wp2_with fail
    refine (S6 _).mono ?_
    rintro _ w6 ⟨rfl, hb6⟩
    go_wp2_with fail
    refine (F1 _).mono ?_
    rintro _ w7 ⟨rfl, rfl⟩
    go_wp2
    refine bodyPost_ret (v := .tuple #[.int .i64 h, .int .i64 l, .bool false]) (by simp [results, Tryd.results11, go_sem]) rfl ⟨rfl, ?_⟩
    exact bel_trans hb1 (bel_trans hb2 (bel_trans hb3 (bel_trans hb4 (bel_trans hb5 (hb6)))))
set_option maxRecDepth 100000 in
set_option maxHeartbeats 2000000 in
theorem r6fast_any (a b : Int) (ha : rng a) (hb : rng b) (w : World) :
    Calls Tryd.prog 15 #[.int .i64 a, .int .i64 b] w fun x w' => x = .returned (.tuple #[.int .i64 (fsum a b), .int .i64 (fL a b), .bool (pok a && pok b && tgB (fsum a b) (fL a b) (patV a + patV b))]) ∧ Below w.heap.size w w' := by
  have r1 := fsum_rng ha hb
  have S1 := fun W => r6sum_any a b ha hb W
  have S2 := fun W => r6diff_any (fsum a b) a r1 ha W
  have r2 := fsum_rng r1 (neg_rng ha)
  have S3 := fun W => r6diff_any b (fsum (fsum a b) (neg a)) hb r2 W
  have rl : rng (fL a b) := fsum_rng hb (neg_rng r2)
  have e3 : fsum b (neg (fsum (fsum a b) (neg a))) = fL a b := rfl
  rw [e3] at S3
  clear e3
  have F1 := fun W => r6finite_any a b ha hb W
  have J1 := fun {V g so sn sc e} W hx => r6just_any (fsum a b) (fL a b) r1 rl (V := V) (g := g) (so := so) (sn := sn) (sc := sc) (e := e) W hx
  generalize fL a b = l at *
  generalize fsum (fsum a b) (neg a) = u at *
  generalize fsum a b = h at *
  clear r1 r2 rl
  by_cases hf : (pok a && pok b) = true
  · have hpq : pok a = true ∧ pok b = true := by simpa using hf
    obtain ⟨pa, pb⟩ := hpq
    have O1 := fun W => rof_any a W ha pa
    have O2 := fun W => rof_any b W hb pb
    have e1 : sg (pneg a) (pmag a) * pw (pexp a) = patV a := rfl
    have e2 : sg (pneg b) (pmag b) * pw (pexp b) = patV b := rfl
    rw [e1] at O1
    rw [e2] at O2
    have b1 := (patV_bd pa).up (show 4000 ≤ 9000 by decide) (by decide)
    have b2 := (patV_bd pb).up (show 4000 ≤ 9000 by decide) (by decide)
    clear e1 e2
    rw [hf] at F1 ⊢
    rw [Bool.true_and]
    clear hf pa pb ha hb
    generalize patV a = Va at *
    generalize patV b = Vb at *
    generalize hTG : tgB h l (Va + Vb) = R
    have J2 : Hid (∀ {g so sn sc e} W, DNum W (.agg #[.bool g, .slice so sn sc, .int .i64 e]) (Va + Vb) → Calls Tryd.prog 28 #[.int .i64 h, .int .i64 l, .agg #[.bool g, .slice so sn sc, .int .i64 e]] W fun x w' => x = .returned (.bool R) ∧ Below W.heap.size W w') := fun W hx => by rw [← hTG]; exact J1 W hx
    clear J1 hTG
    go_enter Tryd.func15, Tryd.ntmps15
    go_wp2_with fail
    refine (S1 _).mono ?_
    rintro _ w1 ⟨rfl, hb1⟩
    go_wp2_with fail
    refine (S2 _).mono ?_
    rintro _ w2 ⟨rfl, hb2⟩
    go_wp2_with fail
    refine (S3 _).mono ?_
    rintro _ w3 ⟨rfl, hb3⟩
    go_wp2_with fail
    refine (F1 _).mono ?_
    rintro _ w4 ⟨rfl, rfl⟩
    go_wp2_with fail
    refine (O1 _).mono ?_
    rintro _ wa ⟨va, rfl, hva⟩
    go_wp2_with fail
    refine (O2 _).mono ?_
    rintro _ wb ⟨vb, rfl, hvb⟩
    go_wp2_with fail
    refine (radd_D (hva.num.keeps hvb.below) hvb.num (show 9000 ≤ 560000 by decide) b1 b2).mono ?_
    rintro _ wc ⟨vc, rfl, hs⟩
    obtain ⟨hvc, hbc⟩ := hs.both (hva.num.keeps hvb.below) hvb.num
    obtain ⟨g, so, sn, sc, e, rfl⟩ := hvc.shape
    have hba := hva.below
    have hbb := hvb.below
    clear hs hva hvb
    go_wp2_with fail
    refine (J2.out _ hvc).mono ?_
    rintro _ wd ⟨rfl, hbd⟩
    go_wp2
    refine bodyPost_ret (v := .tuple #[.int .i64 h, .int .i64 l, .bool R]) (by simp [results, Tryd.results15, go_sem]) rfl ⟨rfl, ?_⟩
    exact bel_trans (bel_trans hb1 (bel_trans hb2 (hb3))) (bel_trans hba (bel_trans hbb (bel_trans hbc hbd)))
  · have hff : (pok a && pok b) = false := by simpa using hf
    rw [hff] at F1 ⊢
    rw [Bool.false_and]
    clear J1 hf hff ha hb
    go_enter Tryd.func15, Tryd.ntmps15
    go_wp2_with fail
    refine (S1 _).mono ?_
    rintro _ w1 ⟨rfl, hb1⟩
    go_wp2_with fail
    refine (S2 _).mono ?_
    rintro _ w2 ⟨rfl, hb2⟩
    go_wp2_with fail
    refine (S3 _).mono ?_
    rintro _ w3 ⟨rfl, hb3⟩
    go_wp2_with fail
    refine (F1 _).mono ?_
    rintro _ w4 ⟨rfl, rfl⟩
    go_wp2
    refine bodyPost_ret (v := .tuple #[.int .i64 h, .int .i64 l, .bool false]) (by simp [results, Tryd.results15, go_sem]) rfl ⟨rfl, ?_⟩
    exact bel_trans hb1 (bel_trans hb2 (hb3))
set_option maxRecDepth 100000 in
theorem r6twoDiff_any (a b : Int) (ha : rng a) (hb : rng b) (w : World) :
    Calls Tryd.prog 13 #[.int .i64 a, .int .i64 b] w fun x w' => x = .returned (.tuple #[.int .i64 (fsum a (neg b)), .int .i64 (sL a (neg b)), .bool (pok a && pok (neg b) && tgB (fsum a (neg b)) (sL a (neg b)) (patV a + patV (neg b)))]) ∧ Below w.heap.size w w' := by
  have C1 := fun W => refNeg b W hb
  have C2 := fun W => r6twoSum_any a (neg b) ha (neg_rng hb) W
  generalize (pok a && pok (neg b) && tgB (fsum a (neg b)) (sL a (neg b)) (patV a + patV (neg b))) = R at *
  generalize fsum a (neg b) = h at *
  generalize sL a (neg b) = l at *
  generalize neg b = c at *
  go_enter Tryd.func13, Tryd.ntmps13
  go_wp2_with fail
  refine (C1 _).mono ?_
  rintro _ w1 ⟨rfl, rfl⟩
  go_wp2_with fail
  refine (C2 _).mono ?_
  rintro _ w2 ⟨rfl, hb2⟩
  go_wp2
  refine bodyPost_ret (v := .tuple #[.int .i64 h, .int .i64 l, .bool R]) (by simp [results, Tryd.results13, go_sem]) rfl ⟨rfl, ?_⟩
  exact hb2
set_option maxRecDepth 100000 in
set_option maxHeartbeats 2000000 in
theorem r6split_any (a : Int) (ha : rng a) (w : World) :
    Calls Tryd.prog 18 #[.int .i64 a] w fun x w' => x = .returned (.tuple #[.int .i64 (spH a), .int .i64 (spL a), .bool (pok a && tgB (spH a) (spL a) (patV a))]) ∧ Below w.heap.size w w' := by
  have kr : rng 4728779608772575232 := by unfold rng; decide
  have K1 := fun W => refJoin false 134217729 0 W (by unfold rng; decide) (by unfold rng; decide)
  rw [k_split] at K1
  have S1 := fun W => r6prod_any 4728779608772575232 a kr ha W
  have e1 : fprod 4728779608772575232 a = cC a := rfl
  rw [e1] at S1
  have r1 : rng (cC a) := fprod_rng kr ha
  have S2 := fun W => r6diff_any (cC a) a r1 ha W
  have r2 := fsum_rng r1 (neg_rng ha)
  have S3 := fun W => r6diff_any (cC a) (fsum (cC a) (neg a)) r1 r2 W
  have e3 : fsum (cC a) (neg (fsum (cC a) (neg a))) = spH a := rfl
  rw [e3] at S3
  have r3 : rng (spH a) := fsum_rng r1 (neg_rng r2)
  have S4 := fun W => r6diff_any a (spH a) ha r3 W
  have e4 : fsum a (neg (spH a)) = spL a := rfl
  rw [e4] at S4
  have r4 : rng (spL a) := fsum_rng ha (neg_rng r3)
  have F1 := fun W => rfinite_any a W ha
  have J1 := fun {V g so sn sc e} W hx => r6just_any (spH a) (spL a) r3 r4 (V := V) (g := g) (so := so) (sn := sn) (sc := sc) (e := e) W hx
  generalize jk 52 2047 (-1074) 134217729 0 = kk at K1
  clear e1 e3 e4 r1 r2 r3 r4 kr
  generalize fsum (cC a) (neg a) = u at *
  generalize cC a = c at *
  generalize spH a = h at *
  generalize spL a = l at *
  by_cases pa : pok a = true
  · have O1 := fun W => rof_any a W ha pa
    have e1 : sg (pneg a) (pmag a) * pw (pexp a) = patV a := rfl
    rw [e1] at O1
    rw [pa] at F1 ⊢
    rw [Bool.true_and]
    clear e1 pa ha
    generalize patV a = Va at *
    generalize hTG : tgB h l Va = R
    have J2 : Hid (∀ {g so sn sc e} W, DNum W (.agg #[.bool g, .slice so sn sc, .int .i64 e]) Va → Calls Tryd.prog 28 #[.int .i64 h, .int .i64 l, .agg #[.bool g, .slice so sn sc, .int .i64 e]] W fun x w' => x = .returned (.bool R) ∧ Below W.heap.size W w') := fun W hx => by rw [← hTG]; exact J1 W hx
    clear J1 hTG
    go_enter Tryd.func18, Tryd.ntmps18
    go_wp2_with fail
    refine (K1 _).mono ?_
    rintro _ w0 ⟨rfl, rfl⟩
    go_wp2_with fail
    refine (S1 _).mono ?_
    rintro _ w1 ⟨rfl, hb1⟩
    go_wp2_with fail
    refine (S2 _).mono ?_
    rintro _ w2 ⟨rfl, hb2⟩
    go_wp2_with fail
    refine (S3 _).mono ?_
    rintro _ w3 ⟨rfl, hb3⟩
    go_wp2_with fail
    refine (S4 _).mono ?_
    rintro _ w4 ⟨rfl, hb4⟩
    go_wp2_with fail
    refine (F1 _).mono ?_
    rintro _ w5 ⟨rfl, rfl⟩
    go_wp2_with fail
    refine (O1 _).mono ?_
    rintro _ wa ⟨va, rfl, hva⟩
    have hva2 := hva.num
    obtain ⟨g, so, sn, sc, e, rfl⟩ := hva2.shape
    have hba := hva.below
    clear hva
    go_wp2_with fail
    refine (J2.out _ hva2).mono ?_
    rintro _ wd ⟨rfl, hbd⟩
    go_wp2
    refine bodyPost_ret (v := .tuple #[.int .i64 h, .int .i64 l, .bool R]) (by simp [results, Tryd.results18, go_sem]) rfl ⟨rfl, ?_⟩
    exact bel_trans (bel_trans hb1 (bel_trans hb2 (bel_trans hb3 hb4))) (bel_trans hba hbd)
  · have pf : pok a = false := by simpa using pa
    rw [pf] at F1 ⊢
    rw [Bool.false_and]
    clear J1 pa pf ha
    go_enter Tryd.func18, Tryd.ntmps18
    go_wp2_with fail
    refine (K1 _).mono ?_
    rintro _ w0 ⟨rfl, rfl⟩
    go_wp2_with fail
    refine (S1 _).mono ?_
    rintro _ w1 ⟨rfl, hb1⟩
    go_wp2_with fail
    refine (S2 _).mono ?_
    rintro _ w2 ⟨rfl, hb2⟩
    go_wp2_with fail
    refine (S3 _).mono ?_
    rintro _ w3 ⟨rfl, hb3⟩
    go_wp2_with fail
    refine (S4 _).mono ?_
    rintro _ w4 ⟨rfl, hb4⟩
    go_wp2_with fail
    refine (F1 _).mono ?_
    rintro _ w5 ⟨rfl, rfl⟩
    go_wp2
    refine bodyPost_ret (v := .tuple #[.int .i64 h, .int .i64 l, .bool false]) (by simp [results, Tryd.results18, go_sem]) rfl ⟨rfl, ?_⟩
    exact bel_trans hb1 (bel_trans hb2 (bel_trans hb3 hb4))
set_option maxRecDepth 100000 in
set_option maxHeartbeats 4000000 in
theorem r6twoProd_any (a b C : Int) (ha : rng a) (hb : rng b) (hC : C * 2 ^ 4194304 = patV a * patV b) (w : World) :
    Calls Tryd.prog 16 #[.int .i64 a, .int .i64 b] w fun x w' => x = .returned (.tuple #[.int .i64 (fprod a b), .int .i64 (prL a b), .bool (pok a && pok b && tgB (fprod a b) (prL a b) C)]) ∧ Below w.heap.size w w' := by
  have T1 := fun W => r6prod_any a b ha hb W
  have T2 := fun W => r6split_any a ha W
  have T3 := fun W => r6split_any b hb W
  obtain ⟨rp, rq⟩ := sp_rng ha
  obtain ⟨rr, rs⟩ := sp_rng hb
  have r1 := fprod_rng ha hb
  have S1 := fun W => r6prod_any (spL a) (spL b) rq rs W
  have r2 := fprod_rng rq rs
  have S2 := fun W => r6prod_any (spH a) (spH b) rp rr W
  have r3 := fprod_rng rp rr
  have S3 := fun W => r6diff_any (fprod a b) (fprod (spH a) (spH b)) r1 r3 W
  have e3 : fsum (fprod a b) (neg (fprod (spH a) (spH b))) = pT1 a b := rfl
  rw [e3] at S3
  have r4 : rng (pT1 a b) := fsum_rng r1 (neg_rng r3)
  have S4 := fun W => r6prod_any (spL a) (spH b) rq rr W
  have r5 := fprod_rng rq rr
  have S5 := fun W => r6diff_any (pT1 a b) (fprod (spL a) (spH b)) r4 r5 W
  have e5 : fsum (pT1 a b) (neg (fprod (spL a) (spH b))) = pT2 a b := rfl
  rw [e5] at S5
  have r6 : rng (pT2 a b) := fsum_rng r4 (neg_rng r5)
  have S6 := fun W => r6prod_any (spH a) (spL b) rp rs W
  have r7 := fprod_rng rp rs
  have S7 := fun W => r6diff_any (pT2 a b) (fprod (spH a) (spL b)) r6 r7 W
  have e7 : fsum (pT2 a b) (neg (fprod (spH a) (spL b))) = pT3 a b := rfl
  rw [e7] at S7
  have r8 : rng (pT3 a b) := fsum_rng r6 (neg_rng r7)
  have S8 := fun W => r6diff_any (fprod (spL a) (spL b)) (pT3 a b) r2 r8 W
  have e8 : fsum (fprod (spL a) (spL b)) (neg (pT3 a b)) = prL a b := rfl
  rw [e8] at S8
  have rl : rng (prL a b) := fsum_rng r2 (neg_rng r8)
  have F1 := fun W => r6finite_any a b ha hb W
  have J1 := fun {V g so sn sc e} W hx => r6just_any (fprod a b) (prL a b) r1 rl (V := V) (g := g) (so := so) (sn := sn) (sc := sc) (e := e) W hx
  clear e3 e5 e7 e8 rp rq rr rs r1 r2 r3 r4 r5 r6 r7 r8 rl
  generalize (pok a && tgB (spH a) (spL a) (patV a)) = x1 at *
  generalize (pok b && tgB (spH b) (spL b) (patV b)) = x2 at *
  generalize fprod (spL a) (spL b) = t1 at *
  generalize fprod (spH a) (spH b) = t2 at *
  generalize fprod (spL a) (spH b) = t3 at *
  generalize fprod (spH a) (spL b) = t4 at *
  generalize pT1 a b = d1 at *
  generalize pT2 a b = d2 at *
  generalize pT3 a b = d3 at *
  generalize prL a b = l at *
  generalize fprod a b = h at *
  generalize spH a = p at *
  generalize spL a = q at *
  generalize spH b = r at *
  generalize spL b = s at *
  by_cases hf : (pok a && pok b) = true
  · have hpq : pok a = true ∧ pok b = true := by simpa using hf
    obtain ⟨pa, pb⟩ := hpq
    have O1 := fun W => rof_any a W ha pa
    have O2 := fun W => rof_any b W hb pb
    have e1 : sg (pneg a) (pmag a) * pw (pexp a) = patV a := rfl
    have e2 : sg (pneg b) (pmag b) * pw (pexp b) = patV b := rfl
    rw [e1] at O1
    rw [e2] at O2
    have b1 := (patV_bd pa).up (show 4000 ≤ 9000 by decide) (by decide)
    have b2 := (patV_bd pb).up (show 4000 ≤ 9000 by decide) (by decide)
    clear e1 e2
    have k1 := (patV_bd pa).ok (by decide)
    have k2 := (patV_bd pb).ok (by decide)
    have MU : Hid (∀ W va vb, DNum W va (patV a) → DNum W vb (patV b) → Calls Tryd.prog 36 #[va, vb] W fun r w' => ∃ v, r = .returned v ∧ DAns W w' C v) := fun W va vb hva hvb => by
      obtain ⟨x, rfl, hR, ok, hV⟩ := hva.open k1
      obtain ⟨y, rfl, hR', ok', hV'⟩ := hvb.open k2
      have sx := okR_sane ok
      have sy := okR_sane ok'
      have hm := mulV_eq (x := x) (y := y) (by have := sx.2.2.1; omega) (by have := sy.2.2.1; omega)
      rw [hV, hV'] at hm
      have e : mulV x y = C := scale_inj (hm.trans hC.symm)
      have := rmul3_any x y W hR hR' sx sy
      rwa [e] at this
    rw [hf] at F1 ⊢
    rw [Bool.true_and]
    clear hf pa pb ha hb hC b1 b2 k1 k2
    generalize patV a = Va at *
    generalize patV b = Vb at *
    generalize hTG : tgB h l C = R
    have J2 : Hid (∀ {g so sn sc e} W, DNum W (.agg #[.bool g, .slice so sn sc, .int .i64 e]) C → Calls Tryd.prog 28 #[.int .i64 h, .int .i64 l, .agg #[.bool g, .slice so sn sc, .int .i64 e]] W fun x w' => x = .returned (.bool R) ∧ Below W.heap.size W w') := fun W hx => by rw [← hTG]; exact J1 W hx
    clear J1 hTG
    go_enter Tryd.func16, Tryd.ntmps16
    go_wp2_with fail
    refine (T1 _).mono ?_
    rintro _ w1 ⟨rfl, hb1⟩
    go_wp2_with fail
    refine (T2 _).mono ?_
    rintro _ w2 ⟨rfl, hb2⟩
    go_wp2_with fail
    refine (T3 _).mono ?_
    rintro _ w3 ⟨rfl, hb3⟩
    go_wp2_with fail
    refine (S1 _).mono ?_
    rintro _ w4 ⟨rfl, hb4⟩
    go_wp2_with fail
    refine (S2 _).mono ?_
    rintro _ w5 ⟨rfl, hb5⟩
    go_wp2_with fail
    refine (S3 _).mono ?_
    rintro _ w6 ⟨rfl, hb6⟩
    go_wp2_with fail
    refine (S4 _).mono ?_
    rintro _ w7 ⟨rfl, hb7⟩
    go_wp2_with fail
    refine (S5 _).mono ?_
    rintro _ w8 ⟨rfl, hb8⟩
    go_wp2_with fail
    refine (S6 _).mono ?_
    rintro _ w9 ⟨rfl, hb9⟩
    go_wp2_with fail
    refine (S7 _).mono ?_
    rintro _ w10 ⟨rfl, hb10⟩
    go_wp2_with fail
    refine (S8 _).mono ?_
    rintro _ w11 ⟨rfl, hb11⟩
    go_wp2_with fail
    refine (F1 _).mono ?_
    rintro _ w12 ⟨rfl, rfl⟩
    go_wp2_with fail
    refine (O1 _).mono ?_
    rintro _ wa ⟨va, rfl, hva⟩
    go_wp2_with fail
    refine (O2 _).mono ?_
    rintro _ wb ⟨vb, rfl, hvb⟩
    go_wp2_with fail
    refine (MU.out _ _ _ (hva.num.keeps hvb.below) hvb.num).mono ?_
    rintro _ wc ⟨vc, rfl, hs⟩
    have hvc := hs.num
    obtain ⟨g, so, sn, sc, e, rfl⟩ := hvc.shape
    have hba := hva.below
    have hbb := hvb.below
    have hbc := hs.below
    clear hs hva hvb
    go_wp2_with fail
    refine (J2.out _ hvc).mono ?_
    rintro _ wd ⟨rfl, hbd⟩
    go_wp2
    refine bodyPost_ret (v := .tuple #[.int .i64 h, .int .i64 l, .bool R]) (by simp [results, Tryd.results16, go_sem]) rfl ⟨rfl, ?_⟩
    exact bel_trans (bel_trans hb1 (bel_trans hb2 (bel_trans hb3 (bel_trans hb4 (bel_trans hb5 (bel_trans hb6 (bel_trans hb7 (bel_trans hb8 (bel_trans hb9 (bel_trans hb10 (hb11))))))))))) (bel_trans hba (bel_trans hbb (bel_trans hbc hbd)))
  · have hff : (pok a && pok b) = false := by simpa using hf
    rw [hff] at F1 ⊢
    rw [Bool.false_and]
    clear J1 hf hff ha hb hC
    go_enter Tryd.func16, Tryd.ntmps16
    go_wp2_with fail
    refine (T1 _).mono ?_
    rintro _ w1 ⟨rfl, hb1⟩
    go_wp2_with fail
    refine (T2 _).mono ?_
    rintro _ w2 ⟨rfl, hb2⟩
    go_wp2_with fail
    refine (T3 _).mono ?_
    rintro _ w3 ⟨rfl, hb3⟩
    go_wp2_with fail
    refine (S1 _).mono ?_
    rintro _ w4 ⟨rfl, hb4⟩
    go_wp2_with fail
    refine (S2 _).mono ?_
    rintro _ w5 ⟨rfl, hb5⟩
    go_wp2_with fail
    refine (S3 _).mono ?_
    rintro _ w6 ⟨rfl, hb6⟩
    go_wp2_with fail
    refine (S4 _).mono ?_
    rintro _ w7 ⟨rfl, hb7⟩
    go_wp2_with fail
    refine (S5 _).mono ?_
    rintro _ w8 ⟨rfl, hb8⟩
    go_wp2_with fail
    refine (S6 _).mono ?_
    rintro _ w9 ⟨rfl, hb9⟩
    go_wp2_with fail
    refine (S7 _).mono ?_
    rintro _ w10 ⟨rfl, hb10⟩
    go_wp2_with fail
    refine (S8 _).mono ?_
    rintro _ w11 ⟨rfl, hb11⟩
    go_wp2_with fail
    refine (F1 _).mono ?_
    rintro _ w12 ⟨rfl, rfl⟩
    go_wp2
    refine bodyPost_ret (v := .tuple #[.int .i64 h, .int .i64 l, .bool false]) (by simp [results, Tryd.results16, go_sem]) rfl ⟨rfl, ?_⟩
    exact bel_trans hb1 (bel_trans hb2 (bel_trans hb3 (bel_trans hb4 (bel_trans hb5 (bel_trans hb6 (bel_trans hb7 (bel_trans hb8 (bel_trans hb9 (bel_trans hb10 (hb11))))))))))
end Go.Proofs.YtheiinclgfgneaaDoor

/-
  What package eft tells is what the document says: plain mathematics.
-/
namespace Go.Proofs.YtheiinclgfgneaaDoor
open Go Go.RowKit Go.Proofs.YtheiinclgfgneaaDoor.M
set_option linter.unusedSimpArgs false
set_option linter.unusedVariables false

theorem told_cls (a : Int) : cls (told a) = cls a := by
  unfold told
  split
  · rename_i h; rw [h]; decide
  · rfl
theorem told_same {a : Int} (h : cls a ≠ 4) : told a = a := by unfold told; rw [if_neg h]
theorem told_neg (a : Int) : neg (told a) = neg a := by
  by_cases h : cls a = 4
  · have h2 := told_cls a
    unfold neg
    rw [if_pos h, if_pos (h2.trans h)]
  · rw [told_same h]
theorem told_fs1 (a q : Int) : fsum (told a) q = fsum a q := by
  by_cases h : cls a = 4
  · have h2 := told_cls a
    unfold fsum
    rw [if_pos (.inl (h2.trans h)), if_pos (.inl h)]
  · rw [told_same h]
theorem told_fs2 (p b : Int) : fsum p (told b) = fsum p b := by
  by_cases h : cls b = 4
  · have h2 := told_cls b
    unfold fsum
    rw [if_pos (.inr (h2.trans h)), if_pos (.inr h)]
  · rw [told_same h]
theorem told_fp1 (a q : Int) : fprod (told a) q = fprod a q := by
  by_cases h : cls a = 4
  · have h2 := told_cls a
    unfold fprod
    rw [if_pos (.inl (h2.trans h)), if_pos (.inl h)]
  · rw [told_same h]
theorem told_fp2 (p b : Int) : fprod p (told b) = fprod p b := by
  by_cases h : cls b = 4
  · have h2 := told_cls b
    unfold fprod
    rw [if_pos (.inr (h2.trans h)), if_pos (.inr h)]
  · rw [told_same h]
theorem sL_told (a b : Int) : sL (told a) (told b) = sL a b := by unfold sL sV; simp only [told_fs1, told_fs2, told_neg]
theorem fL_told (a b : Int) : fL (told a) (told b) = fL a b := by unfold fL; simp only [told_fs1, told_fs2, told_neg]
theorem spH_told (a : Int) : spH (told a) = spH a := by unfold spH cC; simp only [told_fp2, told_neg]
theorem spL_told (a : Int) : spL (told a) = spL a := by unfold spL; simp only [told_fs1, spH_told]
theorem prL_told (a b : Int) : prL (told a) (told b) = prL a b := by unfold prL pT3 pT2 pT1; simp only [told_fp1, told_fp2, spH_told, spL_told]
theorem sum_eq {a b : Int} (ha : rng a) (hb : rng b) : pok (sL (told a) (told b)) = (pok a && pok b && tgB (fsum a b) (sL a b) (patV a + patV b)) := by
  by_cases pa : pok a = true
  · by_cases pb : pok b = true
    · rw [sL_told, hon_sum ha hb pa pb, pa, pb]; rfl
    · have pb : pok b = false := by simpa using pb
      rw [(no_sum ha hb (.inr pb)).1, pb, Bool.and_false]; rfl
  · have pa : pok a = false := by simpa using pa
    rw [(no_sum ha hb (.inl pa)).1, pa]; rfl
theorem fast_eq {a b : Int} (ha : rng a) (hb : rng b) : fX (told a) (told b) = (pok a && pok b && tgB (fsum a b) (fL a b) (patV a + patV b)) := by
  by_cases pa : pok a = true
  · by_cases pb : pok b = true
    · rw [told_ok pa ha, told_ok pb hb, hon_fast ha hb pa pb, pa, pb]; rfl
    · have pb : pok b = false := by simpa using pb
      rw [(no_sum ha hb (.inr pb)).2.1, pb, Bool.and_false]; rfl
  · have pa : pok a = false := by simpa using pa
    rw [(no_sum ha hb (.inl pa)).2.1, pa]; rfl
theorem prod_eq {a b C : Int} (ha : rng a) (hb : rng b) (hC : C * 2 ^ 4194304 = patV a * patV b) : pX (told a) (told b) = (pok a && pok b && tgB (fprod a b) (prL a b) C) := by
  by_cases pa : pok a = true
  · by_cases pb : pok b = true
    · rw [told_ok pa ha, told_ok pb hb, hon_prod ha hb pa pb hC, pa, pb]; rfl
    · have pb : pok b = false := by simpa using pb
      rw [(no_sum ha hb (.inr pb)).2.2, pb, Bool.and_false]; rfl
  · have pa : pok a = false := by simpa using pa
    rw [(no_sum ha hb (.inl pa)).2.2, pa]; rfl
theorem split_eq {a : Int} (ha : rng a) : pok (spL (told a)) = (pok a && tgB (spH a) (spL a) (patV a)) := by
  rw [spL_told]
  cases g : pok (spL a)
  · unfold tgB
    rw [g, Bool.false_and, Bool.and_false, Bool.and_false]
  · obtain ⟨p1, p2, p3⟩ := spL_exact ha g
    have s := p3.sum
    unfold tgB
    rw [p1, p2, g, Bool.true_and, Bool.true_and, Bool.true_and]
    symm
    apply decide_eq_true
    rw [patV_iV (sp_rng ha).1 p2, patV_iV (sp_rng ha).2 g, patV_iV ha p1, ← Int.add_mul, s]
theorem prod_ex (a b : Int) : ∃ C, C * 2 ^ 4194304 = patV a * patV b := by
  by_cases pa : pok a = true
  · by_cases pb : pok b = true
    · obtain ⟨_, _, x2, x3⟩ := pmag_in pa
      obtain ⟨_, _, y2, y3⟩ := pmag_in pb
      refine ⟨sg (pneg a) (pmag a) * sg (pneg b) (pmag b) * pw (pexp a + pexp b), ?_⟩
      unfold patV
      have := pw_mul (a := pexp a) (b := pexp b) (by omega) (by omega)
      generalize (2 : Int) ^ 4194304 = Z at *
      rw [Int.mul_assoc, ← this]
      generalize pw (pexp a) = u
      generalize pw (pexp b) = v
      ac_rfl
    · exact ⟨0, by rw [(cls_not pb).2, Int.mul_zero, Int.zero_mul]⟩
  · exact ⟨0, by rw [(cls_not pa).2, Int.zero_mul, Int.zero_mul]⟩
end Go.Proofs.YtheiinclgfgneaaDoor

/-
  plumblaw6.summed, multiplied, by their contracts: the code's answers are the document's.
-/
namespace Go.Proofs.YtheiinclgfgneaaDoor
open Go Go.RowKit Go.Proofs.YtheiinclgfgneaaDoor.M
set_option linter.unusedSimpArgs false
set_option linter.unusedVariables false

set_option maxRecDepth 100000 in
set_option maxHeartbeats 4000000 in
theorem summed_any (a b : Int) (ha : rng a) (hb : rng b) (w : World) (H : Hold4 w) :
    Calls Tryd.prog 7 #[.int .i64 a, .int .i64 b] w fun e w' => e = .returned (.bool true) ∧ Below w.heap.size w w' := by
  have A1 := fun W => twoSum_any ha hb W
  rw [sum_eq ha hb, sL_told, told_fs1, told_fs2] at A1
  have B1 := fun W => r6twoSum_any a b ha hb W
  have A2 : Hid (∀ W, Below w.heap.size w W → Calls Tryd.prog 12 #[.int .i64 a, .int .i64 b] W fun e w' => e = .returned (.tuple #[.int .i64 (fsum (told a) (told (neg b))), .int .i64 (sL (told a) (told (neg b))), .bool (pok (sL (told a) (told (neg b))))]) ∧ Below W.heap.size W w') := fun W hW => twoDiff_any ha hb W (H.keeps hW).env.lays
  rw [sum_eq ha (neg_rng hb), sL_told, told_fs1, told_fs2] at A2
  have B2 := fun W => r6twoDiff_any a b ha hb W
  have A3 := fun W => fastTwoSum_any ha hb W
  rw [fast_eq ha hb, fL_told, told_fs1, told_fs2] at A3
  have B3 := fun W => r6fast_any a b ha hb W
  generalize (pok a && pok b && tgB (fsum a b) (sL a b) (patV a + patV b)) = x1 at *
  generalize (pok a && pok (neg b) && tgB (fsum a (neg b)) (sL a (neg b)) (patV a + patV (neg b))) = x2 at *
  generalize (pok a && pok b && tgB (fsum a b) (fL a b) (patV a + patV b)) = x3 at *
  generalize fsum a (neg b) = h2 at *
  generalize sL a (neg b) = l2 at *
  generalize fsum a b = h1 at *
  generalize sL a b = l1 at *
  generalize fL a b = l3 at *
  clear ha hb H
  go_enter Tryd.func7, Tryd.ntmps7
  go_wp2_with fail
  refine (A1 _).mono ?_
  rintro _ w1 ⟨rfl, hb1⟩
  go_wp2_with fail
  refine (B1 _).mono ?_
  rintro _ w2 ⟨rfl, hb2⟩
  go_wp2_with fail
  refine (A2.out _ (bel_trans hb1 hb2)).mono ?_
  rintro _ w3 ⟨rfl, hb3⟩
  go_wp2_with fail
  refine (B2 _).mono ?_
  rintro _ w4 ⟨rfl, hb4⟩
  go_wp2_with fail
  refine (A3 _).mono ?_
  rintro _ w5 ⟨rfl, hb5⟩
  go_wp2_with fail
  refine (B3 _).mono ?_
  rintro _ w6 ⟨rfl, hb6⟩
  go_wp2
  all_goals go_ret
  all_goals exact ⟨ret_bool (by simp), bel_trans hb1 (bel_trans hb2 (bel_trans hb3 (bel_trans hb4 (bel_trans hb5 hb6))))⟩
set_option maxRecDepth 100000 in
theorem esquare_any {a : Int} (ha : rng a) (w : World) (H : Hold4 w) :
    Calls Tryd.prog 19 #[.int .i64 a] w fun e w' => e = .returned (.tuple #[.int .i64 (fprod (told a) (told a)), .int .i64 (prL (told a) (told a)), .bool (pX (told a) (told a))]) ∧ Below w.heap.size w w' := by
  have C := twoProd_any ha ha w H
  generalize fprod (told a) (told a) = h at *
  generalize prL (told a) (told a) = l at *
  generalize pX (told a) (told a) = x at *
  clear H ha
  go_enter Tryd.func19, Tryd.ntmps19
  go_wp2_with fail
  refine C.mono ?_
  rintro _ w1 ⟨rfl, hb1⟩
  go_wp2
  refine bodyPost_ret (v := .tuple #[.int .i64 h, .int .i64 l, .bool x]) (by simp [results, Tryd.results19, go_sem]) rfl ⟨rfl, hb1⟩
set_option maxRecDepth 100000 in
set_option maxHeartbeats 4000000 in
theorem multiplied_any (a b : Int) (ha : rng a) (hb : rng b) (w : World) (H : Hold4 w) :
    Calls Tryd.prog 8 #[.int .i64 a, .int .i64 b] w fun e w' => e = .returned (.bool true) ∧ Below w.heap.size w w' := by
  obtain ⟨C, hC⟩ := prod_ex a b
  obtain ⟨D, hD⟩ := prod_ex a a
  have A1 := twoProd_any ha hb w H
  rw [prod_eq ha hb hC, prL_told, told_fp1, told_fp2] at A1
  have B1 := fun W => r6twoProd_any a b C ha hb hC W
  have A2 := fun W => esplitF_any ha W
  rw [split_eq ha, spL_told, spH_told] at A2
  have B2 := fun W => r6split_any a ha W
  have A3 : Hid (∀ W, Below w.heap.size w W → Calls Tryd.prog 19 #[.int .i64 a] W fun e w' => e = .returned (.tuple #[.int .i64 (fprod (told a) (told a)), .int .i64 (prL (told a) (told a)), .bool (pX (told a) (told a))]) ∧ Below W.heap.size W w') := fun W hW => esquare_any ha W (H.keeps hW)
  rw [prod_eq ha ha hD, prL_told, told_fp1, told_fp2] at A3
  have B3 := fun W => r6twoProd_any a a D ha ha hD W
  clear hC hD
  generalize (pok a && pok b && tgB (fprod a b) (prL a b) C) = x1 at *
  generalize (pok a && pok a && tgB (fprod a a) (prL a a) D) = x3 at *
  generalize (pok a && tgB (spH a) (spL a) (patV a)) = x2 at *
  generalize fprod a b = h1 at *
  generalize prL a b = l1 at *
  generalize fprod a a = h3 at *
  generalize prL a a = l3 at *
  generalize spH a = h2 at *
  generalize spL a = l2 at *
  clear ha hb H
  go_enter Tryd.func8, Tryd.ntmps8
  go_wp2_with fail
  refine A1.mono ?_
  rintro _ w1 ⟨rfl, hb1⟩
  go_wp2_with fail
  refine (B1 _).mono ?_
  rintro _ w2 ⟨rfl, hb2⟩
  go_wp2_with fail
  refine (A2 _).mono ?_
  rintro _ w3 ⟨rfl, hb3⟩
  go_wp2_with fail
  refine (B2 _).mono ?_
  rintro _ w4 ⟨rfl, hb4⟩
  have hbw4 := bel_trans hb1 (bel_trans hb2 (bel_trans hb3 hb4))
  go_wp2_with fail
  refine (A3.out _ hbw4).mono ?_
  rintro _ w5 ⟨rfl, hb5⟩
  go_wp2_with fail
  refine (B3 _).mono ?_
  rintro _ w6 ⟨rfl, hb6⟩
  go_wp2
  all_goals go_ret
  all_goals exact ⟨ret_bool (by simp), bel_trans hbw4 (bel_trans hb5 hb6)⟩
end Go.Proofs.YtheiinclgfgneaaDoor

/-
  A script of asks, off its reading: kinds and numbers, and slices of ints, none longer than memory lets.
-/
namespace Go.Proofs.YtheiinclgfgneaaDoor
open Go Go.ChangeShapes Go.WideShapes Go.ChangeAt Go.RowKit Go.Proofs.YtheiinclgfgneaaDoor.M
set_option linter.unusedSimpArgs false
set_option linter.unusedVariables false

/-- An ask, as it lies in memory. -/
structure AskR where
  k : Int
  n : Int
  ao : Option Addr
  an : Nat
  ac : Nat
  za : Nat → Int
  bo : Option Addr
  bn : Nat
  bc : Nat
  zb : Nat → Int
instance : Inhabited AskR := ⟨⟨0, 0, none, 0, 0, fun _ => 0, none, 0, 0, fun _ => 0⟩⟩
structure IsAsk (W : World) (b o : Nat) (r : AskR) : Prop where
  c0 : W.cell? ⟨b, o, none⟩ = some (.int .i64 r.k)
  c1 : W.cell? ⟨b, o + 1, none⟩ = some (.slice r.ao r.an r.ac)
  c2 : W.cell? ⟨b, o + 2, none⟩ = some (.slice r.bo r.bn r.bc)
  c3 : W.cell? ⟨b, o + 3, none⟩ = some (.int .i64 r.n)
  rk : rng r.k
  rn : rng r.n
  ra : Row W r.ao r.an r.ac r.za
  rb : Row W r.bo r.bn r.bc r.zb
  la : r.an ≤ 17592186044416
  lb : r.bn ≤ 17592186044416
def IsAsks (W : World) (a : Option Addr) (len cap : Nat) (r : Nat → AskR) : Prop :=
  len = 0 ∨ ∃ b off, a = some ⟨b, off, none⟩ ∧ len ≤ cap ∧ cap ≤ 9223372036854775807 ∧ b < W.heap.size ∧ ∀ i, i < len → IsAsk W b (off + i * 4) (r i)
theorem bytesInt : Tryd.prog.bytesOf 3 = 8 := by kernel_rfl
theorem cellsInt1 : Tryd.prog.cellsOf 3 = 1 := by kernel_rfl
theorem cellsSl1 : Tryd.prog.cellsOf 38 = 1 := by kernel_rfl
theorem row_w {H : Type} {enc : TypeId × Value → H} {W : World} {fuel : Nat} {v : Value} {x : DataW H × List MemPlace}
    (hf : DataW.trod enc Tryd.prog W 0 (fun _ => true) true fuel 38 [v] = some x) (hw : ∀ n ∈ x.1.weights Tryd.prog 38, n ≤ reachBytes) : ∃ a len cap z, v = .slice a len cap ∧ Row W a len cap z ∧ len ≤ 17592186044416 := by
  have hf0 := hf
  rcases open_ints Tryd.underlying38 Tryd.underlying3 (by kernel_rfl) hf with ⟨hcs, _⟩ | ⟨p, l, c, zs, hcs, _, hl, hm, hz, hx, hcell, hwz⟩
  · simp at hcs
    subst hcs
    exact ⟨none, 0, 0, fun _ => 0, rfl, Row.nil _ _, by omega⟩
  · simp at hcs
    subst hcs
    have hz' : zs.length = c := by simpa using hz
    obtain ⟨z, hR, _⟩ := row_of (enc := enc) (W := W) (a := some p) (len := l) (cap := c) (d := x.1) (p := x.2) ⟨fuel, by simpa [Value.cells] using hf0⟩
    refine ⟨some p, l, c, z, rfl, hR, ?_⟩
    have h := hw (c * 8) (by
      rw [hx]
      simp only [DataW.weights, Tryd.underlying38, bytesInt]
      refine List.mem_cons.2 (.inl ?_)
      simp [lits, hz']
      omega)
    unfold reachBytes at h
    omega
theorem weights_mem_all {H : Type} {P : Program} {e : TypeId} : ∀ {ds : List (DataW H)} {d : DataW H}, d ∈ ds → ∀ n ∈ d.weights P e, n ∈ DataW.weightsAll P e ds
  | d0 :: ds, d, hd, n, hn => by
    simp only [DataW.weightsAll, List.mem_append]
    rcases List.mem_cons.1 hd with rfl | q
    · exact .inl hn
    · exact .inr (weights_mem_all q n hn)
end Go.Proofs.YtheiinclgfgneaaDoor

/-
  A script of asks of two ints, off its reading.
-/
namespace Go.Proofs.YtheiinclgfgneaaDoor
open Go Go.ChangeShapes Go.WideShapes Go.ChangeAt Go.RowKit Go.Proofs.YtheiinclgfgneaaDoor.M
set_option linter.unusedSimpArgs false
set_option linter.unusedVariables false

/-- What the walk is told of the script. -/
def IsAsks6 (w : World) (a : Option Addr) (len cap : Nat) (r : Nat → Int × Int) : Prop :=
  len = 0 ∨ ∃ b off, a = some ⟨b, off, none⟩ ∧ len ≤ cap ∧ cap ≤ 9223372036854775807 ∧ b < w.heap.size ∧ ∀ i, i < len → w.cell? ⟨b, off + i * 2, none⟩ = some (.int .i64 (r i).1) ∧ w.cell? ⟨b, off + i * 2 + 1, none⟩ = some (.int .i64 (r i).2) ∧ rng (r i).1 ∧ rng (r i).2
theorem cellsAsk6 : Tryd.prog.cellsOf 26 = 2 := by kernel_rfl
theorem cellsInt6 : Tryd.prog.cellsOf 3 = 1 := by kernel_rfl
theorem ask6_cells {H : Type} {enc : TypeId × Value → H} {W : World} {n : Nat} {cs : List Value} {x : DataW H × List MemPlace}
    (h : DataW.trod enc Tryd.prog W 0 (fun _ => true) true n 26 cs = some x) : ∃ r : Int × Int, cs = [.int .i64 r.1, .int .i64 r.2] ∧ rng r.1 ∧ rng r.2 := by
  obtain ⟨xs, m, _, rfl, hl, hlen, hf⟩ := DataW.trod_struct Tryd.underlying26 h
  rw [cellsAsk6] at hl
  match cs, hl with
  | [v0, v1], _ =>
    match xs, hlen with
    | [y0, y1], _ =>
      have f0 : DataW.trod enc Tryd.prog W 0 (fun _ => true) true m 3 (([v0, v1].drop 0).take (Tryd.prog.cellsOf 3)) = some y0 := hf 0 _ rfl
      have f1 : DataW.trod enc Tryd.prog W 0 (fun _ => true) true m 3 (([v0, v1].drop 1).take (Tryd.prog.cellsOf 3)) = some y1 := hf 1 _ rfl
      obtain ⟨k0, e0, _, w0⟩ := DataW.trod_int Tryd.underlying3 f0
      obtain ⟨k1, e1, _, w1⟩ := DataW.trod_int Tryd.underlying3 f1
      rw [cellsInt6] at e0 e1
      simp at e0 e1
      subst e0 e1
      exact ⟨(k0, k1), rfl, rng_of w0, rng_of w1⟩
set_option maxRecDepth 100000 in
theorem ask6_of {H : Type} {enc : TypeId × Value → H} {W : World} {fuel : Nat} {a : Option Addr} {len cap : Nat} {x : DataW H × List MemPlace}
    (h : DataW.trod enc Tryd.prog W 0 (fun _ => true) true fuel 24 [.slice a len cap] = some x) (hw : ∀ n ∈ x.1.weights Tryd.prog 24, n ≤ reachBytes) : ∃ r, IsAsks6 W a len cap r := by
  rcases Deep.open_slice Tryd.underlying24 h with ⟨hcs, _⟩ | ⟨p, l, c, m, n, D, Pl, hcs, _, hl, hm, hmm, hx, hel⟩
  · simp at hcs
    obtain ⟨rfl, rfl, rfl⟩ := hcs
    exact ⟨fun _ => (0, 0), .inl rfl⟩
  · simp at hcs
    obtain ⟨rfl, rfl, rfl⟩ := hcs
    simp only [if_true] at hmm
    subst hmm
    by_cases h0 : len = 0
    · exact ⟨fun _ => (0, 0), .inl h0⟩
    have each : ∀ i, i < len → ∃ r : Int × Int, W.cells? 0 (p.add (i * 2)) 2 = some [.int .i64 r.1, .int .i64 r.2] ∧ rng r.1 ∧ rng r.2 := by
      intro i hi
      obtain ⟨cs', h1, h2⟩ := hel i (by omega)
      rw [cellsAsk6] at h1
      obtain ⟨r, rfl, hr⟩ := ask6_cells h2
      exact ⟨r, h1, hr⟩
    obtain ⟨q, hq⟩ := Deep.choose_lt each
    have cell : ∀ i j, i < len → j < 2 → W.cell? ((p.add (i * 2)).add j) = ([.int .i64 (q i).1, .int .i64 (q i).2] : List Value)[j]? := by
      intro i j hi hj
      exact (World.cells?_some (hq i hi).1).2.2 j hj
    obtain ⟨b, off, spot⟩ := p
    have h2 : W.cell? ⟨b, off, spot⟩ = some (.int .i64 (q 0).1) := by simpa [Addr.add] using cell 0 0 (by omega) (by omega)
    have hspot : spot = none := World.cell?_spot h2
    subst hspot
    refine ⟨q, .inr ⟨b, off, rfl, hl, by unfold maxLen at hm; exact hm, World.block_lt_of_cell? W _ h2, fun i hi => ?_⟩⟩
    have x0 := cell i 0 hi (by omega)
    have x1 := cell i 1 hi (by omega)
    rw [add_none, add_none] at x0 x1
    obtain ⟨_, s1, s2⟩ := hq i hi
    exact ⟨x0, x1, s1, s2⟩
end Go.Proofs.YtheiinclgfgneaaDoor
