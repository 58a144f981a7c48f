/-
  Parts of the proof, one behind another.
-/
import Derived.Test.YtjlmpgbadgkgmaaGreatDoorPart25
import Derived.Test.YtjlmpgbadgkgmaaGreatDoorPart23
import Derived.Test.YtjlmpgbadgkgmaaGreatDoorPart11
import Derived.Test.YtjlmpgbadgkgmaaGreatDoorPart13
/-
  Package plumbref6: TwoSum, TwoDiff, FastTwoSum, Split, TwoProd, by their contracts.
-/
namespace Go.Proofs.YtjlmpgbadgkgmaaGreatDoor
open Go Go.RowKit Go.Proofs.YtjlmpgbadgkgmaaGreatDoor.M
set_option linter.unusedSimpArgs false
set_option linter.unusedVariables false

theorem k_split : jp false 134217729 0 = 4728779608772575232 := by decide +kernel
set_option maxRecDepth 100000 in
set_option maxHeartbeats 2000000 in
theorem r6twoSum_any (a b : Int) (ha : rng a) (hb : rng b) (w : World) :
    Calls Tryz.prog 58 #[.int .i64 a, .int .i64 b] w fun x w' => x = .returned (.tuple #[.int .i64 (fsum a b), .int .i64 (sL a b), .bool (pok a && pok b && tgB (fsum a b) (sL a b) (patV a + patV b))]) ∧ Below w.heap.size w w' := by
  have r1 := fsum_rng ha hb
  have S1 := fun W => r6sum_any a b ha hb W
  have S2 := fun W => r6diff_any (fsum a b) a r1 ha W
  have r2 : rng (sV a b) := fsum_rng r1 (neg_rng ha)
  have S3 := fun W => r6diff_any (fsum a b) (sV a b) r1 r2 W
  have r3 := fsum_rng r1 (neg_rng r2)
  have S4 := fun W => r6diff_any a (fsum (fsum a b) (neg (sV a b))) ha r3 W
  have r4 := fsum_rng ha (neg_rng r3)
  have S5 := fun W => r6diff_any b (sV a b) hb r2 W
  have r5 := fsum_rng hb (neg_rng r2)
  have S6 := fun W => r6sum_any (fsum a (neg (fsum (fsum a b) (neg (sV a b))))) (fsum b (neg (sV a b))) r4 r5 W
  have rl : rng (sL a b) := fsum_rng r4 r5
  have e2 : fsum (fsum a b) (neg a) = sV a b := rfl
  have e6 : fsum (fsum a (neg (fsum (fsum a b) (neg (sV a b))))) (fsum b (neg (sV a b))) = sL a b := rfl
  rw [e2] at S2
  rw [e6] at S6
  clear e2 e6
  have F1 := fun W => r6finite_any a b ha hb W
  have J1 := fun {V g so sn sc e} W hx => r6just_any (fsum a b) (sL a b) r1 rl (V := V) (g := g) (so := so) (sn := sn) (sc := sc) (e := e) W hx
  generalize sL a b = l at *
  generalize fsum (fsum a b) (neg (sV a b)) = u at *
  generalize fsum a (neg u) = u2 at *
  generalize fsum b (neg (sV a b)) = u3 at *
  generalize sV a b = v at *
  generalize fsum a b = h at *
  clear r1 r2 r3 r4 r5 rl
  by_cases hf : (pok a && pok b) = true
  · have hpq : pok a = true ∧ pok b = true := by simpa using hf
    obtain ⟨pa, pb⟩ := hpq
    have O1 := fun W => rof_any a W ha pa
    have O2 := fun W => rof_any b W hb pb
    have e1 : sg (pneg a) (pmag a) * pw (pexp a) = patV a := rfl
    have e2 : sg (pneg b) (pmag b) * pw (pexp b) = patV b := rfl
    rw [e1] at O1
    rw [e2] at O2
    have b1 := (patV_bd pa).up (show 4000 ≤ 9000 by decide) (by decide)
    have b2 := (patV_bd pb).up (show 4000 ≤ 9000 by decide) (by decide)
    clear e1 e2
    rw [hf] at F1 ⊢
    rw [Bool.true_and]
    clear hf pa pb ha hb
    generalize patV a = Va at *
    generalize patV b = Vb at *
    generalize hTG : tgB h l (Va + Vb) = R
    have J2 : Hid (∀ {g so sn sc e} W, DNum W (.agg #[.bool g, .slice so sn sc, .int .i64 e]) (Va + Vb) → Calls Tryz.prog 79 #[.int .i64 h, .int .i64 l, .agg #[.bool g, .slice so sn sc, .int .i64 e]] W fun x w' => x = .returned (.bool R) ∧ Below W.heap.size W w') := fun W hx => by rw [← hTG]; exact J1 W hx
    clear J1 hTG
    go_enter Tryz.func58, Tryz.ntmps58
    go_wp2_with fail
    refine (S1 _).mono ?_
    rintro _ w1 ⟨rfl, hb1⟩
    go_wp2_with fail
    refine (S2 _).mono ?_
    rintro _ w2 ⟨rfl, hb2⟩
    go_wp2_with fail
    refine (S3 _).mono ?_
    rintro _ w3 ⟨rfl, hb3⟩
    go_wp2_with fail
    refine (S4 _).mono ?_
    rintro _ w4 ⟨rfl, hb4⟩
    go_wp2_with fail
    refine (S5 _).mono ?_
    rintro _ w5 ⟨rfl, hb5⟩
    go_wp2_with fail
    refine (S6 _).mono ?_
    rintro _ w6 ⟨rfl, hb6⟩
    go_wp2_with fail
    refine (F1 _).mono ?_
    rintro _ w7 ⟨rfl, rfl⟩
    go_wp2_with fail
    refine (O1 _).mono ?_
    rintro _ wa ⟨va, rfl, hva⟩
    go_wp2_with fail
    refine (O2 _).mono ?_
    rintro _ wb ⟨vb, rfl, hvb⟩
    go_wp2_with fail
    refine (radd_D (hva.num.keeps hvb.below) hvb.num (show 9000 ≤ 560000 by decide) b1 b2).mono ?_
    rintro _ wc ⟨vc, rfl, hs⟩
    obtain ⟨hvc, hbc⟩ := hs.both (hva.num.keeps hvb.below) hvb.num
    obtain ⟨g, so, sn, sc, e, rfl⟩ := hvc.shape
    have hba := hva.below
    have hbb := hvb.below
    clear hs hva hvb
    go_wp2_with fail
    refine (J2.out _ hvc).mono ?_
    rintro _ wd ⟨rfl, hbd⟩
    go_wp2
    refine bodyPost_ret (v := .tuple #[.int .i64 h, .int .i64 l, .bool R]) (by simp [results, Tryz.results58, go_sem]) rfl ⟨rfl, ?_⟩
    exact bel_trans (bel_trans hb1 (bel_trans hb2 (bel_trans hb3 (bel_trans hb4 (bel_trans hb5 (hb6)))))) (bel_trans hba (bel_trans hbb (bel_trans hbc hbd)))
  · have hff : (pok a && pok b) = false := by simpa using hf
    rw [hff] at F1 ⊢
    rw [Bool.false_and]
    clear J1 hf hff ha hb
    go_enter Tryz.func58, Tryz.ntmps58
    go_wp2_with fail
    refine (S1 _).mono ?_
    rintro _ w1 ⟨rfl, hb1⟩
    go_wp2_with fail
    refine (S2 _).mono ?_
    rintro _ w2 ⟨rfl, hb2⟩
    go_wp2_with fail
    refine (S3 _).mono ?_
    rintro _ w3 ⟨rfl, hb3⟩
    go_wp2_with fail
    refine (S4 _).mono ?_
    rintro _ w4 ⟨rfl, hb4⟩
    go_wp2_with fail
    refine (S5 _).mono ?_
    rintro _ w5 ⟨rfl, hb5⟩
    go_wp2_with fail
    refine (S6 _).mono ?_
    rintro _ w6 ⟨rfl, hb6⟩
    go_wp2_with fail
    refine (F1 _).mono ?_
    rintro _ w7 ⟨rfl, rfl⟩
    go_wp2
    refine bodyPost_ret (v := .tuple #[.int .i64 h, .int .i64 l, .bool false]) (by simp [results, Tryz.results58, go_sem]) rfl ⟨rfl, ?_⟩
    exact bel_trans hb1 (bel_trans hb2 (bel_trans hb3 (bel_trans hb4 (bel_trans hb5 (hb6)))))
set_option maxRecDepth 100000 in
set_option maxHeartbeats 2000000 in
theorem r6fast_any (a b : Int) (ha : rng a) (hb : rng b) (w : World) :
    Calls Tryz.prog 61 #[.int .i64 a, .int .i64 b] w fun x w' => x = .returned (.tuple #[.int .i64 (fsum a b), .int .i64 (fL a b), .bool (pok a && pok b && tgB (fsum a b) (fL a b) (patV a + patV b))]) ∧ Below w.heap.size w w' := by
  have r1 := fsum_rng ha hb
  have S1 := fun W => r6sum_any a b ha hb W
  have S2 := fun W => r6diff_any (fsum a b) a r1 ha W
  have r2 := fsum_rng r1 (neg_rng ha)
  have S3 := fun W => r6diff_any b (fsum (fsum a b) (neg a)) hb r2 W
  have rl : rng (fL a b) := fsum_rng hb (neg_rng r2)
  have e3 : fsum b (neg (fsum (fsum a b) (neg a))) = fL a b := rfl
  rw [e3] at S3
  clear e3
  have F1 := fun W => r6finite_any a b ha hb W
  have J1 := fun {V g so sn sc e} W hx => r6just_any (fsum a b) (fL a b) r1 rl (V := V) (g := g) (so := so) (sn := sn) (sc := sc) (e := e) W hx
  generalize fL a b = l at *
  generalize fsum (fsum a b) (neg a) = u at *
  generalize fsum a b = h at *
  clear r1 r2 rl
  by_cases hf : (pok a && pok b) = true
  · have hpq : pok a = true ∧ pok b = true := by simpa using hf
    obtain ⟨pa, pb⟩ := hpq
    have O1 := fun W => rof_any a W ha pa
    have O2 := fun W => rof_any b W hb pb
    have e1 : sg (pneg a) (pmag a) * pw (pexp a) = patV a := rfl
    have e2 : sg (pneg b) (pmag b) * pw (pexp b) = patV b := rfl
    rw [e1] at O1
    rw [e2] at O2
    have b1 := (patV_bd pa).up (show 4000 ≤ 9000 by decide) (by decide)
    have b2 := (patV_bd pb).up (show 4000 ≤ 9000 by decide) (by decide)
    clear e1 e2
    rw [hf] at F1 ⊢
    rw [Bool.true_and]
    clear hf pa pb ha hb
    generalize patV a = Va at *
    generalize patV b = Vb at *
    generalize hTG : tgB h l (Va + Vb) = R
    have J2 : Hid (∀ {g so sn sc e} W, DNum W (.agg #[.bool g, .slice so sn sc, .int .i64 e]) (Va + Vb) → Calls Tryz.prog 79 #[.int .i64 h, .int .i64 l, .agg #[.bool g, .slice so sn sc, .int .i64 e]] W fun x w' => x = .returned (.bool R) ∧ Below W.heap.size W w') := fun W hx => by rw [← hTG]; exact J1 W hx
    clear J1 hTG
    go_enter Tryz.func61, Tryz.ntmps61
    go_wp2_with fail
    refine (S1 _).mono ?_
    rintro _ w1 ⟨rfl, hb1⟩
    go_wp2_with fail
    refine (S2 _).mono ?_
    rintro _ w2 ⟨rfl, hb2⟩
    go_wp2_with fail
    refine (S3 _).mono ?_
    rintro _ w3 ⟨rfl, hb3⟩
    go_wp2_with fail
    refine (F1 _).mono ?_
    rintro _ w4 ⟨rfl, rfl⟩
    go_wp2_with fail
    refine (O1 _).mono ?_
    rintro _ wa ⟨va, rfl, hva⟩
    go_wp2_with fail
    refine (O2 _).mono ?_
    rintro _ wb ⟨vb, rfl, hvb⟩
    go_wp2_with fail
    refine (radd_D (hva.num.keeps hvb.below) hvb.num (show 9000 ≤ 560000 by decide) b1 b2).mono ?_
    rintro _ wc ⟨vc, rfl, hs⟩
    obtain ⟨hvc, hbc⟩ := hs.both (hva.num.keeps hvb.below) hvb.num
    obtain ⟨g, so, sn, sc, e, rfl⟩ := hvc.shape
    have hba := hva.below
    have hbb := hvb.below
    clear hs hva hvb
    go_wp2_with fail
    refine (J2.out _ hvc).mono ?_
    rintro _ wd ⟨rfl, hbd⟩
    go_wp2
    refine bodyPost_ret (v := .tuple #[.int .i64 h, .int .i64 l, .bool R]) (by simp [results, Tryz.results61, go_sem]) rfl ⟨rfl, ?_⟩
    exact bel_trans (bel_trans hb1 (bel_trans hb2 (hb3))) (bel_trans hba (bel_trans hbb (bel_trans hbc hbd)))
  · have hff : (pok a && pok b) = false := by simpa using hf
    rw [hff] at F1 ⊢
    rw [Bool.false_and]
    clear J1 hf hff ha hb
    go_enter Tryz.func61, Tryz.ntmps61
    go_wp2_with fail
    refine (S1 _).mono ?_
    rintro _ w1 ⟨rfl, hb1⟩
    go_wp2_with fail
    refine (S2 _).mono ?_
    rintro _ w2 ⟨rfl, hb2⟩
    go_wp2_with fail
    refine (S3 _).mono ?_
    rintro _ w3 ⟨rfl, hb3⟩
    go_wp2_with fail
    refine (F1 _).mono ?_
    rintro _ w4 ⟨rfl, rfl⟩
    go_wp2
    refine bodyPost_ret (v := .tuple #[.int .i64 h, .int .i64 l, .bool false]) (by simp [results, Tryz.results61, go_sem]) rfl ⟨rfl, ?_⟩
    exact bel_trans hb1 (bel_trans hb2 (hb3))
set_option maxRecDepth 100000 in
set_option maxHeartbeats 2000000 in
theorem r6split_any (a : Int) (ha : rng a) (w : World) :
    Calls Tryz.prog 82 #[.int .i64 a] w fun x w' => x = .returned (.tuple #[.int .i64 (spH a), .int .i64 (spL a), .bool (pok a && tgB (spH a) (spL a) (patV a))]) ∧ Below w.heap.size w w' := by
  have kr : rng 4728779608772575232 := by unfold rng; decide
  have K1 := fun W => refJoin false 134217729 0 W (by unfold rng; decide) (by unfold rng; decide)
  rw [k_split] at K1
  have S1 := fun W => r6prod_any 4728779608772575232 a kr ha W
  have e1 : fprod 4728779608772575232 a = cC a := rfl
  rw [e1] at S1
  have r1 : rng (cC a) := fprod_rng kr ha
  have S2 := fun W => r6diff_any (cC a) a r1 ha W
  have r2 := fsum_rng r1 (neg_rng ha)
  have S3 := fun W => r6diff_any (cC a) (fsum (cC a) (neg a)) r1 r2 W
  have e3 : fsum (cC a) (neg (fsum (cC a) (neg a))) = spH a := rfl
  rw [e3] at S3
  have r3 : rng (spH a) := fsum_rng r1 (neg_rng r2)
  have S4 := fun W => r6diff_any a (spH a) ha r3 W
  have e4 : fsum a (neg (spH a)) = spL a := rfl
  rw [e4] at S4
  have r4 : rng (spL a) := fsum_rng ha (neg_rng r3)
  have F1 := fun W => rfinite_any a W ha
  have J1 := fun {V g so sn sc e} W hx => r6just_any (spH a) (spL a) r3 r4 (V := V) (g := g) (so := so) (sn := sn) (sc := sc) (e := e) W hx
  generalize jk 52 2047 (-1074) 134217729 0 = kk at K1
  clear e1 e3 e4 r1 r2 r3 r4 kr
  generalize fsum (cC a) (neg a) = u at *
  generalize cC a = c at *
  generalize spH a = h at *
  generalize spL a = l at *
  by_cases pa : pok a = true
  · have O1 := fun W => rof_any a W ha pa
    have e1 : sg (pneg a) (pmag a) * pw (pexp a) = patV a := rfl
    rw [e1] at O1
    rw [pa] at F1 ⊢
    rw [Bool.true_and]
    clear e1 pa ha
    generalize patV a = Va at *
    generalize hTG : tgB h l Va = R
    have J2 : Hid (∀ {g so sn sc e} W, DNum W (.agg #[.bool g, .slice so sn sc, .int .i64 e]) Va → Calls Tryz.prog 79 #[.int .i64 h, .int .i64 l, .agg #[.bool g, .slice so sn sc, .int .i64 e]] W fun x w' => x = .returned (.bool R) ∧ Below W.heap.size W w') := fun W hx => by rw [← hTG]; exact J1 W hx
    clear J1 hTG
    go_enter Tryz.func82, Tryz.ntmps82
    go_wp2_with fail
    refine (K1 _).mono ?_
    rintro _ w0 ⟨rfl, rfl⟩
    go_wp2_with fail
    refine (S1 _).mono ?_
    rintro _ w1 ⟨rfl, hb1⟩
    go_wp2_with fail
    refine (S2 _).mono ?_
    rintro _ w2 ⟨rfl, hb2⟩
    go_wp2_with fail
    refine (S3 _).mono ?_
    rintro _ w3 ⟨rfl, hb3⟩
    go_wp2_with fail
    refine (S4 _).mono ?_
    rintro _ w4 ⟨rfl, hb4⟩
    go_wp2_with fail
    refine (F1 _).mono ?_
    rintro _ w5 ⟨rfl, rfl⟩
    go_wp2_with fail
    refine (O1 _).mono ?_
    rintro _ wa ⟨va, rfl, hva⟩
    have hva2 := hva.num
    obtain ⟨g, so, sn, sc, e, rfl⟩ := hva2.shape
    have hba := hva.below
    clear hva
    go_wp2_with fail
    refine (J2.out _ hva2).mono ?_
    rintro _ wd ⟨rfl, hbd⟩
    go_wp2
    refine bodyPost_ret (v := .tuple #[.int .i64 h, .int .i64 l, .bool R]) (by simp [results, Tryz.results82, go_sem]) rfl ⟨rfl, ?_⟩
    exact bel_trans (bel_trans hb1 (bel_trans hb2 (bel_trans hb3 hb4))) (bel_trans hba hbd)
  · have pf : pok a = false := by simpa using pa
    rw [pf] at F1 ⊢
    rw [Bool.false_and]
    clear J1 pa pf ha
    go_enter Tryz.func82, Tryz.ntmps82
    go_wp2_with fail
    refine (K1 _).mono ?_
    rintro _ w0 ⟨rfl, rfl⟩
    go_wp2_with fail
    refine (S1 _).mono ?_
    rintro _ w1 ⟨rfl, hb1⟩
    go_wp2_with fail
    refine (S2 _).mono ?_
    rintro _ w2 ⟨rfl, hb2⟩
    go_wp2_with fail
    refine (S3 _).mono ?_
    rintro _ w3 ⟨rfl, hb3⟩
    go_wp2_with fail
    refine (S4 _).mono ?_
    rintro _ w4 ⟨rfl, hb4⟩
    go_wp2_with fail
    refine (F1 _).mono ?_
    rintro _ w5 ⟨rfl, rfl⟩
    go_wp2
    refine bodyPost_ret (v := .tuple #[.int .i64 h, .int .i64 l, .bool false]) (by simp [results, Tryz.results82, go_sem]) rfl ⟨rfl, ?_⟩
    exact bel_trans hb1 (bel_trans hb2 (bel_trans hb3 hb4))
set_option maxRecDepth 100000 in
set_option maxHeartbeats 4000000 in
theorem r6twoProd_any (a b C : Int) (ha : rng a) (hb : rng b) (hC : C * 2 ^ 4194304 = patV a * patV b) (w : World) :
    Calls Tryz.prog 60 #[.int .i64 a, .int .i64 b] w fun x w' => x = .returned (.tuple #[.int .i64 (fprod a b), .int .i64 (prL a b), .bool (pok a && pok b && tgB (fprod a b) (prL a b) C)]) ∧ Below w.heap.size w w' := by
  have T1 := fun W => r6prod_any a b ha hb W
  have T2 := fun W => r6split_any a ha W
  have T3 := fun W => r6split_any b hb W
  obtain ⟨rp, rq⟩ := sp_rng ha
  obtain ⟨rr, rs⟩ := sp_rng hb
  have r1 := fprod_rng ha hb
  have S1 := fun W => r6prod_any (spL a) (spL b) rq rs W
  have r2 := fprod_rng rq rs
  have S2 := fun W => r6prod_any (spH a) (spH b) rp rr W
  have r3 := fprod_rng rp rr
  have S3 := fun W => r6diff_any (fprod a b) (fprod (spH a) (spH b)) r1 r3 W
  have e3 : fsum (fprod a b) (neg (fprod (spH a) (spH b))) = pT1 a b := rfl
  rw [e3] at S3
  have r4 : rng (pT1 a b) := fsum_rng r1 (neg_rng r3)
  have S4 := fun W => r6prod_any (spL a) (spH b) rq rr W
  have r5 := fprod_rng rq rr
  have S5 := fun W => r6diff_any (pT1 a b) (fprod (spL a) (spH b)) r4 r5 W
  have e5 : fsum (pT1 a b) (neg (fprod (spL a) (spH b))) = pT2 a b := rfl
  rw [e5] at S5
  have r6 : rng (pT2 a b) := fsum_rng r4 (neg_rng r5)
  have S6 := fun W => r6prod_any (spH a) (spL b) rp rs W
  have r7 := fprod_rng rp rs
  have S7 := fun W => r6diff_any (pT2 a b) (fprod (spH a) (spL b)) r6 r7 W
  have e7 : fsum (pT2 a b) (neg (fprod (spH a) (spL b))) = pT3 a b := rfl
  rw [e7] at S7
  have r8 : rng (pT3 a b) := fsum_rng r6 (neg_rng r7)
  have S8 := fun W => r6diff_any (fprod (spL a) (spL b)) (pT3 a b) r2 r8 W
  have e8 : fsum (fprod (spL a) (spL b)) (neg (pT3 a b)) = prL a b := rfl
  rw [e8] at S8
  have rl : rng (prL a b) := fsum_rng r2 (neg_rng r8)
  have F1 := fun W => r6finite_any a b ha hb W
  have J1 := fun {V g so sn sc e} W hx => r6just_any (fprod a b) (prL a b) r1 rl (V := V) (g := g) (so := so) (sn := sn) (sc := sc) (e := e) W hx
  clear e3 e5 e7 e8 rp rq rr rs r1 r2 r3 r4 r5 r6 r7 r8 rl
  generalize (pok a && tgB (spH a) (spL a) (patV a)) = x1 at *
  generalize (pok b && tgB (spH b) (spL b) (patV b)) = x2 at *
  generalize fprod (spL a) (spL b) = t1 at *
  generalize fprod (spH a) (spH b) = t2 at *
  generalize fprod (spL a) (spH b) = t3 at *
  generalize fprod (spH a) (spL b) = t4 at *
  generalize pT1 a b = d1 at *
  generalize pT2 a b = d2 at *
  generalize pT3 a b = d3 at *
  generalize prL a b = l at *
  generalize fprod a b = h at *
  generalize spH a = p at *
  generalize spL a = q at *
  generalize spH b = r at *
  generalize spL b = s at *
  by_cases hf : (pok a && pok b) = true
  · have hpq : pok a = true ∧ pok b = true := by simpa using hf
    obtain ⟨pa, pb⟩ := hpq
    have O1 := fun W => rof_any a W ha pa
    have O2 := fun W => rof_any b W hb pb
    have e1 : sg (pneg a) (pmag a) * pw (pexp a) = patV a := rfl
    have e2 : sg (pneg b) (pmag b) * pw (pexp b) = patV b := rfl
    rw [e1] at O1
    rw [e2] at O2
    have b1 := (patV_bd pa).up (show 4000 ≤ 9000 by decide) (by decide)
    have b2 := (patV_bd pb).up (show 4000 ≤ 9000 by decide) (by decide)
    clear e1 e2
    have k1 := (patV_bd pa).ok (by decide)
    have k2 := (patV_bd pb).ok (by decide)
    have MU : Hid (∀ W va vb, DNum W va (patV a) → DNum W vb (patV b) → Calls Tryz.prog 83 #[va, vb] W fun r w' => ∃ v, r = .returned v ∧ DAns W w' C v) := fun W va vb hva hvb => by
      obtain ⟨x, rfl, hR, ok, hV⟩ := hva.open k1
      obtain ⟨y, rfl, hR', ok', hV'⟩ := hvb.open k2
      have sx := okR_sane ok
      have sy := okR_sane ok'
      have hm := mulV_eq (x := x) (y := y) (by have := sx.2.2.1; omega) (by have := sy.2.2.1; omega)
      rw [hV, hV'] at hm
      have e : mulV x y = C := scale_inj (hm.trans hC.symm)
      have := rmul3_any x y W hR hR' sx sy
      rwa [e] at this
    rw [hf] at F1 ⊢
    rw [Bool.true_and]
    clear hf pa pb ha hb hC b1 b2 k1 k2
    generalize patV a = Va at *
    generalize patV b = Vb at *
    generalize hTG : tgB h l C = R
    have J2 : Hid (∀ {g so sn sc e} W, DNum W (.agg #[.bool g, .slice so sn sc, .int .i64 e]) C → Calls Tryz.prog 79 #[.int .i64 h, .int .i64 l, .agg #[.bool g, .slice so sn sc, .int .i64 e]] W fun x w' => x = .returned (.bool R) ∧ Below W.heap.size W w') := fun W hx => by rw [← hTG]; exact J1 W hx
    clear J1 hTG
    go_enter Tryz.func60, Tryz.ntmps60
    go_wp2_with fail
    refine (T1 _).mono ?_
    rintro _ w1 ⟨rfl, hb1⟩
    go_wp2_with fail
    refine (T2 _).mono ?_
    rintro _ w2 ⟨rfl, hb2⟩
    go_wp2_with fail
    refine (T3 _).mono ?_
    rintro _ w3 ⟨rfl, hb3⟩
    go_wp2_with fail
    refine (S1 _).mono ?_
    rintro _ w4 ⟨rfl, hb4⟩
    go_wp2_with fail
    refine (S2 _).mono ?_
    rintro _ w5 ⟨rfl, hb5⟩
    go_wp2_with fail
    refine (S3 _).mono ?_
    rintro _ w6 ⟨rfl, hb6⟩
    go_wp2_with fail
    refine (S4 _).mono ?_
    rintro _ w7 ⟨rfl, hb7⟩
    go_wp2_with fail
    refine (S5 _).mono ?_
    rintro _ w8 ⟨rfl, hb8⟩
    go_wp2_with fail
    refine (S6 _).mono ?_
    rintro _ w9 ⟨rfl, hb9⟩
    go_wp2_with fail
    refine (S7 _).mono ?_
    rintro _ w10 ⟨rfl, hb10⟩
    go_wp2_with fail
    refine (S8 _).mono ?_
    rintro _ w11 ⟨rfl, hb11⟩
    go_wp2_with fail
    refine (F1 _).mono ?_
    rintro _ w12 ⟨rfl, rfl⟩
    go_wp2_with fail
    refine (O1 _).mono ?_
    rintro _ wa ⟨va, rfl, hva⟩
    go_wp2_with fail
    refine (O2 _).mono ?_
    rintro _ wb ⟨vb, rfl, hvb⟩
    go_wp2_with fail
    refine (MU.out _ _ _ (hva.num.keeps hvb.below) hvb.num).mono ?_
    rintro _ wc ⟨vc, rfl, hs⟩
    have hvc := hs.num
    obtain ⟨g, so, sn, sc, e, rfl⟩ := hvc.shape
    have hba := hva.below
    have hbb := hvb.below
    have hbc := hs.below
    clear hs hva hvb
    go_wp2_with fail
    refine (J2.out _ hvc).mono ?_
    rintro _ wd ⟨rfl, hbd⟩
    go_wp2
    refine bodyPost_ret (v := .tuple #[.int .i64 h, .int .i64 l, .bool R]) (by simp [results, Tryz.results60, go_sem]) rfl ⟨rfl, ?_⟩
    exact bel_trans (bel_trans hb1 (bel_trans hb2 (bel_trans hb3 (bel_trans hb4 (bel_trans hb5 (bel_trans hb6 (bel_trans hb7 (bel_trans hb8 (bel_trans hb9 (bel_trans hb10 (hb11))))))))))) (bel_trans hba (bel_trans hbb (bel_trans hbc hbd)))
  · have hff : (pok a && pok b) = false := by simpa using hf
    rw [hff] at F1 ⊢
    rw [Bool.false_and]
    clear J1 hf hff ha hb hC
    go_enter Tryz.func60, Tryz.ntmps60
    go_wp2_with fail
    refine (T1 _).mono ?_
    rintro _ w1 ⟨rfl, hb1⟩
    go_wp2_with fail
    refine (T2 _).mono ?_
    rintro _ w2 ⟨rfl, hb2⟩
    go_wp2_with fail
    refine (T3 _).mono ?_
    rintro _ w3 ⟨rfl, hb3⟩
    go_wp2_with fail
    refine (S1 _).mono ?_
    rintro _ w4 ⟨rfl, hb4⟩
    go_wp2_with fail
    refine (S2 _).mono ?_
    rintro _ w5 ⟨rfl, hb5⟩
    go_wp2_with fail
    refine (S3 _).mono ?_
    rintro _ w6 ⟨rfl, hb6⟩
    go_wp2_with fail
    refine (S4 _).mono ?_
    rintro _ w7 ⟨rfl, hb7⟩
    go_wp2_with fail
    refine (S5 _).mono ?_
    rintro _ w8 ⟨rfl, hb8⟩
    go_wp2_with fail
    refine (S6 _).mono ?_
    rintro _ w9 ⟨rfl, hb9⟩
    go_wp2_with fail
    refine (S7 _).mono ?_
    rintro _ w10 ⟨rfl, hb10⟩
    go_wp2_with fail
    refine (S8 _).mono ?_
    rintro _ w11 ⟨rfl, hb11⟩
    go_wp2_with fail
    refine (F1 _).mono ?_
    rintro _ w12 ⟨rfl, rfl⟩
    go_wp2
    refine bodyPost_ret (v := .tuple #[.int .i64 h, .int .i64 l, .bool false]) (by simp [results, Tryz.results60, go_sem]) rfl ⟨rfl, ?_⟩
    exact bel_trans hb1 (bel_trans hb2 (bel_trans hb3 (bel_trans hb4 (bel_trans hb5 (bel_trans hb6 (bel_trans hb7 (bel_trans hb8 (bel_trans hb9 (bel_trans hb10 (hb11))))))))))
end Go.Proofs.YtjlmpgbadgkgmaaGreatDoor

/-
  What package eft tells is what the document says: plain mathematics.
-/
namespace Go.Proofs.YtjlmpgbadgkgmaaGreatDoor
open Go Go.RowKit Go.Proofs.YtjlmpgbadgkgmaaGreatDoor.M
set_option linter.unusedSimpArgs false
set_option linter.unusedVariables false

theorem told_cls (a : Int) : cls (told a) = cls a := by
  unfold told
  split
  · rename_i h; rw [h]; decide
  · rfl
theorem told_same {a : Int} (h : cls a ≠ 4) : told a = a := by unfold told; rw [if_neg h]
theorem told_neg (a : Int) : neg (told a) = neg a := by
  by_cases h : cls a = 4
  · have h2 := told_cls a
    unfold neg
    rw [if_pos h, if_pos (h2.trans h)]
  · rw [told_same h]
theorem told_fs1 (a q : Int) : fsum (told a) q = fsum a q := by
  by_cases h : cls a = 4
  · have h2 := told_cls a
    unfold fsum
    rw [if_pos (.inl (h2.trans h)), if_pos (.inl h)]
  · rw [told_same h]
theorem told_fs2 (p b : Int) : fsum p (told b) = fsum p b := by
  by_cases h : cls b = 4
  · have h2 := told_cls b
    unfold fsum
    rw [if_pos (.inr (h2.trans h)), if_pos (.inr h)]
  · rw [told_same h]
theorem sL_told (a b : Int) : sL (told a) (told b) = sL a b := by unfold sL sV; simp only [told_fs1, told_fs2, told_neg]
theorem sum_eq {a b : Int} (ha : rng a) (hb : rng b) : pok (sL (told a) (told b)) = (pok a && pok b && tgB (fsum a b) (sL a b) (patV a + patV b)) := by
  by_cases pa : pok a = true
  · by_cases pb : pok b = true
    · rw [sL_told, hon_sum ha hb pa pb, pa, pb]; rfl
    · have pb : pok b = false := by simpa using pb
      rw [(no_sum ha hb (.inr pb)).1, pb, Bool.and_false]; rfl
  · have pa : pok a = false := by simpa using pa
    rw [(no_sum ha hb (.inl pa)).1, pa]; rfl
theorem fast_eq {a b : Int} (ha : rng a) (hb : rng b) : fX (told a) (told b) = (pok a && pok b && tgB (fsum a b) (fL a b) (patV a + patV b)) := by
  by_cases pa : pok a = true
  · by_cases pb : pok b = true
    · rw [told_ok pa ha, told_ok pb hb, hon_fast ha hb pa pb, pa, pb]; rfl
    · have pb : pok b = false := by simpa using pb
      rw [(no_sum ha hb (.inr pb)).2.1, pb, Bool.and_false]; rfl
  · have pa : pok a = false := by simpa using pa
    rw [(no_sum ha hb (.inl pa)).2.1, pa]; rfl
theorem prod_eq {a b C : Int} (ha : rng a) (hb : rng b) (hC : C * 2 ^ 4194304 = patV a * patV b) : pX (told a) (told b) = (pok a && pok b && tgB (fprod a b) (prL a b) C) := by
  by_cases pa : pok a = true
  · by_cases pb : pok b = true
    · rw [told_ok pa ha, told_ok pb hb, hon_prod ha hb pa pb hC, pa, pb]; rfl
    · have pb : pok b = false := by simpa using pb
      rw [(no_sum ha hb (.inr pb)).2.2, pb, Bool.and_false]; rfl
  · have pa : pok a = false := by simpa using pa
    rw [(no_sum ha hb (.inl pa)).2.2, pa]; rfl
theorem prod_ex (a b : Int) : ∃ C, C * 2 ^ 4194304 = patV a * patV b := by
  by_cases pa : pok a = true
  · by_cases pb : pok b = true
    · obtain ⟨_, _, x2, x3⟩ := pmag_in pa
      obtain ⟨_, _, y2, y3⟩ := pmag_in pb
      refine ⟨sg (pneg a) (pmag a) * sg (pneg b) (pmag b) * pw (pexp a + pexp b), ?_⟩
      unfold patV
      have := pw_mul (a := pexp a) (b := pexp b) (by omega) (by omega)
      generalize (2 : Int) ^ 4194304 = Z at *
      rw [Int.mul_assoc, ← this]
      generalize pw (pexp a) = u
      generalize pw (pexp b) = v
      ac_rfl
    · exact ⟨0, by rw [(cls_not pb).2, Int.mul_zero, Int.zero_mul]⟩
  · exact ⟨0, by rw [(cls_not pa).2, Int.zero_mul, Int.zero_mul]⟩
end Go.Proofs.YtjlmpgbadgkgmaaGreatDoor

/-
  Package plumbref7: row.grown, Grow, by their contracts.
-/
namespace Go.Proofs.YtjlmpgbadgkgmaaGreatDoor
open Go Go.RowKit Go.Proofs.YtjlmpgbadgkgmaaGreatDoor.M
set_option linter.unusedSimpArgs false
set_option linter.unusedVariables false

theorem gq_rng {d : Nat → Int} {q : Int} {n : Nat} (hd : ∀ i, i < n → rng (d i)) (hq : rng q) : ∀ k, k ≤ n → rng (gq d q k)
  | 0, _ => hq
  | k + 1, hk => fsum_rng (gq_rng hd hq k (by omega)) (hd k (by omega))
/-- What a step tells of finite ones. -/
theorem r7two {p q : Int} (hp : rng p) (hq : rng q) (pp : pok p = true) (pq : pok q = true) (w : World) :
    Calls Tryz.prog 58 #[.int .i64 p, .int .i64 q] w fun e w' => e = .returned (.tuple #[.int .i64 (fsum p q), .int .i64 (sL p q), .bool (pok (sL p q))]) ∧ Below w.heap.size w w' := by
  have h := r6twoSum_any p q hp hq w
  have e := sum_eq hp hq
  rw [told_ok pp hp, told_ok pq hq] at e
  rw [← e] at h
  exact h
theorem RowX.cellX {g : Nat} {w : World} {ao : Option Addr} {n cap : Nat} {d : Nat → Int} (h : RowX g w ao n cap d) {k : Nat} (hk : k < n) : ∃ b off, ao = some ⟨b, off, none⟩ ∧ w.cell? ⟨b, off + k, none⟩ = some (.int .i64 (d k)) := by
  obtain ⟨b, off, h1, _, _, h4⟩ := h.spot (by omega)
  exact ⟨b, off, h1, h4 k hk⟩
set_option maxRecDepth 100000 in
set_option maxHeartbeats 2000000 in
theorem r7grown_any {rb n ec : Nat} {eo : Option Addr} {d : Nat → Int} {b : Int} {v0 : Value} (w : World) (hr : RwB w rb v0 false) (he : RowX rb w eo n ec d) (hd : ∀ i, i < n → rng (d i) ∧ pok (d i) = true) (hb : rng b) (pb : pok b = true) (hn : n ≤ 800000) :
    Calls Tryz.prog 35 #[.pointer (some ⟨rb, 0, none⟩), .slice eo n ec, .int .i64 b] w fun r w' => ∃ (v : Value) (s : Ls), r = .returned v ∧ Out w.heap.size w' v s.n s.d ∧ Wr rb w w' ∧ RwB w' rb v0 (!gx d b n) ∧ (gx d b n = true → s.same (grw n d b)) ∧ s.n ≤ n + 1 := by
  have HE : Hid (RowX rb w eo n ec d) := he
  have hle := he.le
  have hmx := he.max
  have HRR : Hid (RwB w rb v0 false) := hr
  clear he hr
  have HX : Hid (∀ i, i < n → rng (d i) ∧ pok (d i) = true) := hd
  have HGR : Hid (∀ k, k ≤ n → rng (gq d b k)) := gq_rng (fun i hi => (hd i hi).1) hb
  have HGF : Hid (∀ k, k ≤ n → gx d b k = true → rng (gq d b k) ∧ pok (gq d b k) = true) := gq_fin hd hb pb
  clear hd hb pb
  have hlt := HRR.out.lt
  go_enter Tryz.func35, Tryz.ntmps35
  go_wp2_with fail
  go_loopw [8, 9] (fun qv iv wr => ∃ (k : Nat) (bad : Bool) (v : Value) (s : Ls), k ≤ n ∧ iv = .int .i64 k ∧ qv = .int .i64 (gq d b k) ∧ Hid (RwB wr rb v0 bad) ∧ Hid (RwB wr w.heap.size v false) ∧ Hid (Out w.heap.size wr v s.n s.d) ∧ Wr rb w wr ∧ Hid (bad = false → gx d b k = true ∧ s.same (gs d b k)) ∧ Hid (bad = true → gx d b n = false) ∧ s.n ≤ k) (fun _ iv _ => n - (intOf iv).toNat)
  case atStart =>
    have hba := bel_alloc w (.cells #[.slice none 0 0, .bool false] 55)
    exact ⟨0, false, _, ⟨0, fun _ => 0⟩, Nat.zero_le _, rfl, rfl, HRR.out.keeps hba, heap_alloc_new w _, Out.nil _ _ _, wr_of hba, fun _ => ⟨rfl, rfl, fun i hi => absurd hi (Nat.not_lt_zero _)⟩, fun h => (by cases h), Nat.le_refl _⟩
  case round =>
    obtain ⟨k, bad, v, s, hk, rfl, rfl, HB, HO, HL, hwr, HS, HN, hsn⟩ := hrel
    have hsz := hwr.size
    have hwl := HO.out.lt
    obtain ⟨a0, a1, f0, f1⟩ := HB.out.at
    obtain ⟨o0, o1, g0, g1⟩ := HO.out.at
    have i0 : (0 : Int) ≤ (k : Int) := by omega
    by_cases hgo : k < n ∧ bad = false
    · obtain ⟨hlk, rfl⟩ := hgo
      obtain ⟨hX, hSm⟩ := HS.out rfl
      obtain ⟨r1, r2⟩ := HGF.out k hk hX
      obtain ⟨d1, d2⟩ := HX.out k hlk
      obtain ⟨bb, off, rfl, c0⟩ := (HE.out.keeps hwr).cellX hlk
      have CT : Hid (∀ W, Calls Tryz.prog 58 #[.int .i64 (gq d b k), .int .i64 (d k)] W fun e w' => e = .returned (.tuple #[.int .i64 (gq d b (k + 1)), .int .i64 (gl d b k), .bool (pok (gl d b k))]) ∧ Below W.heap.size W w') := fun W => r7two r1 d1 r2 d2 W
      have rl : rng (gl d b k) := sL_rng r1 d1
      have HSS : Hid (gs d b (k + 1) = (gs d b k).add (gl d b k)) := rfl
      have HXS : Hid (gx d b (k + 1) = (gx d b k && pok (gl d b k))) := rfl
      have HNO : Hid (pok (gl d b k) = false → gx d b n = false) := fun hno => by
        cases hx : gx d b n
        · rfl
        · have := gx_mono (show k + 1 ≤ n by omega) hx
          rw [HXS.out, hno, Bool.and_false] at this
          cases this
      have HSM : Hid (s.same (gs d b k)) := hSm
      have HXX : Hid (gx d b k = true) := hX
      have i1 : (k : Int) < (n : Int) := by omega
      clear r1 r2 d1 d2 hX hSm
      obtain ⟨q', hq'⟩ : ∃ q', gq d b (k + 1) = q' := ⟨_, rfl⟩
      rw [hq'] at CT
      have HQ' : Hid (gq d b (k + 1) = q') := hq'
      clear hq'
      generalize gl d b k = l at *
      generalize gq d b k = q0 at *
      generalize d k = dk at *
      go_wp2_with fail
      refine (CT.out _).mono ?_
      rintro _ w1 ⟨rfl, hb1⟩
      have hB1 := HB.out.keeps hb1
      obtain ⟨a0, a1, f0, f1⟩ := hB1.at
      go_wp2_with fail
      have hO1 := (HO.out.keeps hb1).other (show w.heap.size ≠ rb by omega) 1 (.bool (!pok l))
      have hL1 := (HL.out.stays hb1).rw hB1 1 (.bool (!pok l))
      have hwr1 := (hwr.trans (wr_of hb1)).setCell 1 (.bool (!pok l))
      have hB2 := hB1.set1 (!pok l)
      generalize w1.setCell ⟨rb, 1, none⟩ (.bool (!pok l)) = w2 at *
      have hsz2 := hwr1.size
      refine (r7add_any w2 hO1 hL1 rl (by omega) hwr1.size (Nat.le_refl _)).mono ?_
      rintro _ w3 ⟨rfl, v', hO3, hL3, hb3⟩
      go_wp2
      go_roundw
      case rel =>
        refine ⟨k + 1, !pok l, v', s.add l, by omega, by go_num, by rw [HQ'.out], hB2.below hb3 hlt, hO3, hL3, ⟨hb3.os.trans hwr1.os, hb3.tape.trans hwr1.tape, hb3.output.trans hwr1.output, Nat.le_trans hwr1.size hb3.size, fun j hj hjr => (hb3.block j hj).trans (hwr1.block j hj hjr)⟩, fun h => ?_, fun h => HNO.out (by simpa using h), Nat.le_trans (s.add_le l).2 (by omega)⟩
        · have hl : pok l = true := by simpa using h
          rw [HXS.out, HSS.out, HXX.out, hl]
          exact ⟨rfl, HSM.out.add l⟩
      case measure => simp [intOf]; omega
    · have HNB : Hid (gx d b n = !bad ∧ (bad = false → s.same (gs d b n) ∧ k = n)) := by
        cases bad
        · obtain rfl : k = n := by
            by_cases e : k < n
            · exact absurd ⟨e, rfl⟩ hgo
            · omega
          exact ⟨(HS.out rfl).1, fun _ => ⟨(HS.out rfl).2, rfl⟩⟩
        · exact ⟨HN.out rfl, fun h => by cases h⟩
      have rq := HGR.out k hk
      have CA : Hid (∀ W, W = wr → Calls Tryz.prog 59 #[.pointer (some ⟨w.heap.size, 0, none⟩), .int .i64 (gq d b k)] W fun e w' => e = .returned (.tuple #[]) ∧ ∃ v', RwB w' w.heap.size v' false ∧ Out w.heap.size w' v' (s.add (gq d b k)).n (s.add (gq d b k)).d ∧ Below w.heap.size W w') := fun W hW => by
        subst hW
        exact r7add_any W HO.out HL.out rq (by omega) hsz (Nat.le_refl _)
      have HQK : Hid (k = n → (gs d b n).add (gq d b k) = grw n d b) := fun e => by subst e; rfl
      generalize gq d b k = q0 at *
      have hcond : (decide ((k : Int) < (n : Int)) && !bad) = false := by
        by_cases e : k < n
        · cases bad
          · exact absurd ⟨e, rfl⟩ hgo
          · simp
        · have : ¬ (k : Int) < (n : Int) := by omega
          simp [this]
      have hcond2 : ¬ (k : Int) < (n : Int) ∨ bad = true := by
        cases bad
        · exact .inl fun e => hgo ⟨by omega, rfl⟩
        · exact .inr rfl
      clear hcond hgo
      have FIN : ∀ (w3 : World) (v' : Value), RwB w3 w.heap.size v' false → Out w.heap.size w3 v' (s.add q0).n (s.add q0).d → Below w.heap.size wr w3 → ∃ (v : Value) (s : Ls), Ending.returned v' = .returned v ∧ Out w.heap.size w3 v s.n s.d ∧ Wr rb w w3 ∧ RwB w3 rb v0 (!gx d b n) ∧ (gx d b n = true → s.same (grw n d b)) ∧ s.n ≤ n + 1 := fun w3 v' hO3 hL3 hb3 => by
        refine ⟨v', s.add q0, rfl, hL3, ⟨hb3.os.trans hwr.os, hb3.tape.trans hwr.tape, hb3.output.trans hwr.output, Nat.le_trans hwr.size hb3.size, fun j hj hjr => (hb3.block j hj).trans (hwr.block j hj hjr)⟩, ?_, fun h => ?_, Nat.le_trans (s.add_le q0).2 (by omega)⟩
        · rw [HNB.out.1, Bool.not_not]
          exact HB.out.below hb3 hlt
        · rw [HNB.out.1] at h
          obtain ⟨h1, h2⟩ := HNB.out.2 (by simpa using h)
          rw [← HQK.out h2]
          exact h1.add q0
      rcases hcond2 with hnl | hbd
      · go_wp2_with fail
        all_goals
          refine (CA.out _ rfl).mono ?_
          rintro _ w3 ⟨rfl, v', hO3, hL3, hb3⟩
          have hF := FIN _ _ hO3 hL3 hb3
          obtain ⟨o0, o1, g0, g1⟩ := hO3.at
          obtain ⟨vo, vc, rfl, _⟩ := hL3.row
          go_wp2
          go_ret
          exact hF
      · subst hbd
        by_cases hkn : (k : Int) < (n : Int)
        all_goals
          go_wp2_with fail
          refine (CA.out _ rfl).mono ?_
          rintro _ w3 ⟨rfl, v', hO3, hL3, hb3⟩
          have hF := FIN _ _ hO3 hL3 hb3
          obtain ⟨o0, o1, g0, g1⟩ := hO3.at
          obtain ⟨vo, vc, rfl, _⟩ := hL3.row
          go_wp2
          go_ret
          exact hF
/-- The list that is told, and the error: nothing where a step was not exact. -/
def lsX (ok : Bool) (s : Ls) : Ls := if ok then s else ⟨0, fun _ => 0⟩
def erX (ok : Bool) : Int := if ok then 0 else 14
end Go.Proofs.YtjlmpgbadgkgmaaGreatDoor

/-
  Package plumbref7: row.scaled, Scale, by their contracts.
-/
namespace Go.Proofs.YtjlmpgbadgkgmaaGreatDoor
open Go Go.RowKit Go.Proofs.YtjlmpgbadgkgmaaGreatDoor.M
set_option linter.unusedSimpArgs false
set_option linter.unusedVariables false

theorem r7prod {p q : Int} (hp : rng p) (hq : rng q) (pp : pok p = true) (pq : pok q = true) (w : World) :
    Calls Tryz.prog 60 #[.int .i64 p, .int .i64 q] w fun e w' => e = .returned (.tuple #[.int .i64 (fprod p q), .int .i64 (prL p q), .bool (pX p q)]) ∧ Below w.heap.size w w' := by
  obtain ⟨C, hC⟩ := prod_ex p q
  have h := r6twoProd_any p q C hp hq hC w
  have e := prod_eq hp hq hC
  rw [told_ok pp hp, told_ok pq hq] at e
  rw [← e] at h
  exact h
theorem r7two' {p q : Int} (hp : rng p) (hq : rng q) (w : World) :
    Calls Tryz.prog 58 #[.int .i64 p, .int .i64 q] w fun e w' => e = .returned (.tuple #[.int .i64 (fsum p q), .int .i64 (sL p q), .bool (pok (sL p q))]) ∧ Below w.heap.size w w' := by
  have h := r6twoSum_any p q hp hq w
  have e := sum_eq hp hq
  rw [sL_told] at e
  rw [← e] at h
  exact h
theorem r7fast' {p q : Int} (hp : rng p) (hq : rng q) (w : World) :
    Calls Tryz.prog 61 #[.int .i64 p, .int .i64 q] w fun e w' => e = .returned (.tuple #[.int .i64 (fsum p q), .int .i64 (fL p q), .bool (fX (told p) (told q))]) ∧ Below w.heap.size w w' := by
  have h := r6fast_any p q hp hq w
  rw [← fast_eq hp hq] at h
  exact h
theorem sq_rng {d : Nat → Int} {b : Int} {n : Nat} (hd : ∀ i, i ≤ n → rng (d i)) (hb : rng b) : ∀ k, k ≤ n → rng (sq d b k)
  | 0, _ => fprod_rng (hd 0 (by omega)) hb
  | k + 1, hk => by
    rw [sq_succ]
    exact fsum_rng (fprod_rng (hd _ hk) hb) (fsum_rng (sq_rng hd hb k (by omega)) (prL_rng (hd _ hk) hb))
/-- A step of Scale, as the document has it: all three are tried. -/
theorem step_eq {x b q : Int} (hx : rng x) (hb : rng b) (hq : rng q) (px : pok x = true) (pb : pok b = true) (pq : pok q = true) :
    (!pX x b || !pok (sL q (prL x b)) || !fX (told (fprod x b)) (told (fsum q (prL x b)))) = !(pX x b && (pok (sL q (prL x b)) && fX (fprod x b) (fsum q (prL x b)))) := by
  cases h1 : pX x b
  · rfl
  · obtain ⟨p1, p2⟩ := pX_fin hx hb h1
    cases h2 : pok (sL q (prL x b))
    · rfl
    · have p3 := (sL_exact hq (prL_rng hx hb) h2).2.1
      rw [told_ok p1 (fprod_rng hx hb), told_ok p3 (fsum_rng hq (prL_rng hx hb))]
      cases fX (fprod x b) (fsum q (prL x b)) <;> rfl
set_option maxRecDepth 100000 in
set_option maxHeartbeats 4000000 in
theorem r7scaled_some {rb n ec : Nat} {eo : Option Addr} {d : Nat → Int} {b : Int} {v0 : Value} (w : World) (hr : RwB w rb v0 false) (he : RowX rb w eo (n + 1) ec d) (hd : ∀ i, i ≤ n → rng (d i) ∧ pok (d i) = true) (hb : rng b) (pb : pok b = true) (hz : rg b ≠ 0) (hn : n ≤ 300000) :
    Calls Tryz.prog 37 #[.pointer (some ⟨rb, 0, none⟩), .slice eo (n + 1) ec, .int .i64 b] w fun r w' => ∃ (v : Value) (s : Ls), r = .returned v ∧ Out w.heap.size w' v s.n s.d ∧ Wr rb w w' ∧ RwB w' rb v0 (!sx d b n) ∧ (sx d b n = true → s.same (scl ⟨0, fun _ => 0⟩ d b n)) ∧ s.n ≤ 2 * n + 2 := by
  have HE : Hid (RowX rb w eo (n + 1) ec d) := he
  have hle := he.le
  have hmx := he.max
  have HRR : Hid (RwB w rb v0 false) := hr
  have HX : Hid (∀ i, i ≤ n → rng (d i) ∧ pok (d i) = true) := hd
  have HSR : Hid (∀ k, k ≤ n → rng (sq d b k)) := sq_rng (fun i hi => (hd i hi).1) hb
  have HSF : Hid (∀ k, k ≤ n → sx d b k = true → rng (sq d b k) ∧ pok (sq d b k) = true) := sq_fin hd hb
  have CC := fun W => refClass b W hb
  have hcz : (cls b == 0) = false := by
    have : ¬ cls b = 0 := fun q => hz ((cls_nought hb).1 q)
    simpa using this
  have hlt := HRR.out.lt
  have hba := bel_alloc w (.cells #[.slice none 0 0, .bool false] 55)
  obtain ⟨bb, off, rfl, c0⟩ := (he.keeps (wr_of hba)).cellX (k := 0) (by omega)
  rw [Nat.add_zero] at c0
  have hn0 : ((n : Int) + 1 == 0) = false := by simp; omega
  have hBA : Hid (RwB (w.alloc (.cells #[.slice none 0 0, .bool false] 55)) rb v0 false) := hr.keeps hba
  have hOA : Hid (RwB (w.alloc (.cells #[.slice none 0 0, .bool false] 55)) w.heap.size (.slice none 0 0) false) := heap_alloc_new w _
  obtain ⟨d01, d02⟩ := hd 0 (by omega)
  have CP0 : Hid (∀ W, Calls Tryz.prog 60 #[.int .i64 (d 0), .int .i64 b] W fun e w' => e = .returned (.tuple #[.int .i64 (sq d b 0), .int .i64 (prL (d 0) b), .bool (sx d b 0)]) ∧ Below W.heap.size W w') := fun W => r7prod d01 hb d02 pb W
  have rl0 : rng (prL (d 0) b) := prL_rng d01 hb
  have HS0 : Hid (ss ⟨0, fun _ => 0⟩ d b 0 = (⟨0, fun _ => 0⟩ : Ls).add (prL (d 0) b)) := rfl
  have HPB : Hid (rng b ∧ pok b = true) := ⟨hb, pb⟩
  have HN0 : Hid (sx d b 0 = false → sx d b n = false) := fun hno => by
    cases hx : sx d b n
    · rfl
    · rw [sx_mono (Nat.zero_le _) hx] at hno; cases hno
  obtain ⟨a0, a1, f0, f1⟩ := hr.at
  clear he hr hd hb pb hz d01 d02
  generalize cls b = cb at *
  obtain ⟨q0, hq0⟩ : ∃ q0, sq d b 0 = q0 := ⟨_, rfl⟩
  have HQ0 : Hid (sq d b 0 = q0) := hq0
  rw [hq0] at CP0
  clear hq0
  obtain ⟨x0, hx0⟩ : ∃ x0, sx d b 0 = x0 := ⟨_, rfl⟩
  have HX0 : Hid (sx d b 0 = x0) := hx0
  rw [hx0] at CP0
  clear hx0
  generalize hl0 : prL (d 0) b = l0 at *
  generalize hd0 : d 0 = dd0 at *
  have HL0 : Hid (prL dd0 b = l0) := hl0
  have HD0 : Hid (d 0 = dd0) := hd0
  clear hl0 hd0
  go_enter Tryz.func37, Tryz.ntmps37
  go_wp2_with (go_at_call 20; refine (CC _).mono ?_; rintro _ wz ⟨rfl, hw⟩; replace hw := hw.symm; subst hw)
  refine (CP0.out _).mono ?_
  rintro _ w1 ⟨rfl, hb1⟩
  have hB1 := hBA.out.keeps hb1
  obtain ⟨a0, a1, f0, f1⟩ := hB1.at
  go_wp2_with fail
  have hO1 := (hOA.out.keeps hb1).other (show w.heap.size ≠ rb by omega) 1 (.bool (!x0))
  have hL1 : Out w.heap.size (w1.setCell ⟨rb, 1, none⟩ (.bool (!x0))) (.slice none 0 0) (⟨0, fun _ => 0⟩ : Ls).n (⟨0, fun _ => 0⟩ : Ls).d := Out.nil _ _ _
  have hwr1 := ((wr_of (bel_trans hba hb1)).setCell (g := rb) 1 (.bool (!x0)))
  have hB2 := hB1.set1 (!x0)
  generalize w1.setCell ⟨rb, 1, none⟩ (.bool (!x0)) = w2 at *
  refine (r7add_any w2 hO1 hL1 rl0 (Nat.zero_le _) hwr1.size (Nat.le_refl _)).mono ?_
  rintro _ w3 ⟨rfl, v3, hO3, hL3, hb3⟩
  have HB3 : Hid (RwB w3 rb v0 (!x0)) := hB2.below hb3 hlt
  have HO3 : Hid (RwB w3 w.heap.size v3 false) := hO3
  have HL3 : Hid (Out w.heap.size w3 v3 ((⟨0, fun _ => 0⟩ : Ls).add l0).n ((⟨0, fun _ => 0⟩ : Ls).add l0).d) := hL3
  have HW3 : Hid (Wr rb w w3) := ⟨hb3.os.trans hwr1.os, hb3.tape.trans hwr1.tape, hb3.output.trans hwr1.output, Nat.le_trans hwr1.size hb3.size, fun j hj hjr => (hb3.block j hj).trans (hwr1.block j hj hjr)⟩
  clear hO3 hL3 hb3 hwr1 hB2 hO1 hL1 hB1 hb1 a0 a1 f0 f1 c0
  go_wp2_with fail
  go_loopw [8, 11] (fun qv iv wr => ∃ (k : Nat) (bad : Bool) (v : Value) (s : Ls), k ≤ n ∧ iv = .int .i64 (k + 1) ∧ qv = .int .i64 (sq d b k) ∧ Hid (RwB wr rb v0 bad) ∧ Hid (RwB wr w.heap.size v false) ∧ Hid (Out w.heap.size wr v s.n s.d) ∧ Hid (Wr rb w wr) ∧ Hid (bad = false → sx d b k = true ∧ s.same (ss ⟨0, fun _ => 0⟩ d b k)) ∧ Hid (bad = true → sx d b n = false) ∧ s.n ≤ 2 * k + 1) (fun _ iv _ => n + 1 - (intOf iv).toNat)
  case atStart =>
    refine ⟨0, !x0, _, _, Nat.zero_le _, rfl, by rw [HQ0.out], HB3, HO3, HL3, HW3, fun h => ?_, fun h => HN0.out (by rw [HX0.out]; simpa using h), (Ls.add_le _ _).2⟩
    rw [HX0.out, HS0.out]
    exact ⟨by simpa using h, Ls.same.refl _⟩
  case round =>
    obtain ⟨k, bad, v, s, hk, rfl, rfl, HB, HO, HL, HW, HS, HN, hsn⟩ := hrel
    clear HB3 HO3 HL3 HW3
    have hsz := HW.out.size
    have hwl := HO.out.lt
    obtain ⟨a0, a1, f0, f1⟩ := HB.out.at
    have i0 : (0 : Int) ≤ (k : Int) + 1 := by omega
    by_cases hgo : k < n ∧ bad = false
    · obtain ⟨hlk, rfl⟩ := hgo
      obtain ⟨hX, hSm⟩ := HS.out rfl
      obtain ⟨r1, r2⟩ := HSF.out k hk hX
      obtain ⟨d1, d2⟩ := HX.out (k + 1) hlk
      obtain ⟨rb', pb'⟩ := HPB.out
      obtain ⟨_, _, e0, c0⟩ := (HE.out.keeps HW.out).cellX (k := k + 1) (by omega)
      simp only [Option.some.injEq, Addr.mk.injEq, and_true] at e0
      obtain ⟨rfl, rfl⟩ := e0
      have CT : Hid (∀ W, Calls Tryz.prog 60 #[.int .i64 (d (k + 1)), .int .i64 b] W fun e w' => e = .returned (.tuple #[.int .i64 (fprod (d (k + 1)) b), .int .i64 (prL (d (k + 1)) b), .bool (pX (d (k + 1)) b)]) ∧ Below W.heap.size W w') := fun W => r7prod d1 rb' d2 pb' W
      have ru := prL_rng d1 rb'
      have rt := fprod_rng d1 rb'
      have C2 : Hid (∀ W, Calls Tryz.prog 58 #[.int .i64 (sq d b k), .int .i64 (prL (d (k + 1)) b)] W fun e w' => e = .returned (.tuple #[.int .i64 (fsum (sq d b k) (prL (d (k + 1)) b)), .int .i64 (sL (sq d b k) (prL (d (k + 1)) b)), .bool (pok (sL (sq d b k) (prL (d (k + 1)) b)))]) ∧ Below W.heap.size W w') := fun W => r7two' r1 ru W
      have rh := fsum_rng r1 ru
      have C3 : Hid (∀ W, Calls Tryz.prog 61 #[.int .i64 (fprod (d (k + 1)) b), .int .i64 (fsum (sq d b k) (prL (d (k + 1)) b))] W fun e w' => e = .returned (.tuple #[.int .i64 (fsum (fprod (d (k + 1)) b) (fsum (sq d b k) (prL (d (k + 1)) b))), .int .i64 (fL (fprod (d (k + 1)) b) (fsum (sq d b k) (prL (d (k + 1)) b))), .bool (fX (told (fprod (d (k + 1)) b)) (told (fsum (sq d b k) (prL (d (k + 1)) b))))]) ∧ Below W.heap.size W w') := fun W => r7fast' rt rh W
      have rl1 : rng (sL (sq d b k) (prL (d (k + 1)) b)) := sL_rng r1 ru
      have rl2 : rng (fL (fprod (d (k + 1)) b) (fsum (sq d b k) (prL (d (k + 1)) b))) := fL_rng rt rh
      have HSE := step_eq d1 rb' r1 d2 pb' r2
      have HSS : Hid (ss ⟨0, fun _ => 0⟩ d b (k + 1) = ((ss ⟨0, fun _ => 0⟩ d b k).add (sL (sq d b k) (prL (d (k + 1)) b))).add (fL (fprod (d (k + 1)) b) (fsum (sq d b k) (prL (d (k + 1)) b)))) := ss_succ _ _ _ _
      have HXS := sx_succ d b k
      rw [hX, Bool.true_and] at HXS
      rw [← HXS] at HSE
      have HQ1 : Hid (sq d b (k + 1) = fsum (fprod (d (k + 1)) b) (fsum (sq d b k) (prL (d (k + 1)) b))) := sq_succ d b k
      have HBE : Hid ((!pX (d (k + 1)) b || !pok (sL (sq d b k) (prL (d (k + 1)) b)) || !fX (told (fprod (d (k + 1)) b)) (told (fsum (sq d b k) (prL (d (k + 1)) b)))) = !sx d b (k + 1)) := HSE
      have HNO : Hid (sx d b (k + 1) = false → sx d b n = false) := fun hno => by
        cases hx : sx d b n
        · rfl
        · rw [sx_mono (show k + 1 ≤ n by omega) hx] at hno; cases hno
      have HSM : Hid (s.same (ss ⟨0, fun _ => 0⟩ d b k)) := hSm
      have i1 : (k : Int) + 1 < (n : Int) + 1 := by omega
      clear r1 r2 d1 d2 hX hSm rb' pb' ru rt rh HSE HXS
      generalize fX (told (fprod (d (k + 1)) b)) (told (fsum (sq d b k) (prL (d (k + 1)) b))) = three at *
      generalize fL (fprod (d (k + 1)) b) (fsum (sq d b k) (prL (d (k + 1)) b)) = l2 at *
      generalize fsum (fprod (d (k + 1)) b) (fsum (sq d b k) (prL (d (k + 1)) b)) = h2 at *
      generalize pok (sL (sq d b k) (prL (d (k + 1)) b)) = two at *
      generalize sL (sq d b k) (prL (d (k + 1)) b) = l1 at *
      generalize fsum (sq d b k) (prL (d (k + 1)) b) = h1 at *
      generalize pX (d (k + 1)) b = one at *
      generalize fprod (d (k + 1)) b = t1 at *
      generalize prL (d (k + 1)) b = u1 at *
      generalize sq d b k = qk at *
      generalize d (k + 1) = dk at *
      go_wp2_with fail
      refine (CT.out _).mono ?_
      rintro _ w1 ⟨rfl, hb1⟩
      go_wp2_with fail
      refine (C2.out _).mono ?_
      rintro _ w2 ⟨rfl, hb2⟩
      have hb12 := bel_trans hb1 hb2
      go_wp2_with fail
      refine (r7add_any w2 (HO.out.keeps hb12) (HL.out.stays hb12) rl1 (by omega) (Nat.le_trans hsz hb12.size) (Nat.le_refl _)).mono ?_
      rintro _ w3 ⟨rfl, v3, hO3, hL3, hb3⟩
      have hs3 := hb3.size
      have hs12 := hb12.size
      have hn3 := (s.add_le l1).2
      go_wp2_with fail
      refine (C3.out _).mono ?_
      rintro _ w4 ⟨rfl, hb4⟩
      have hs4 := hb4.size
      go_wp2_with fail
      refine (r7add_any w4 (hO3.keeps hb4) (hL3.stays hb4) rl2 (by omega) (by omega) (Nat.le_refl _)).mono ?_
      rintro _ w5 ⟨rfl, v5, hO5, hL5, hb5⟩
      have hB5 : RwB w5 rb v0 false := ((((HB.out.keeps hb12).below hb3 hlt).keeps hb4).below hb5 hlt)
      obtain ⟨a0, a1, f0, f1⟩ := hB5.at
      have HO5 := hO5
      have HL5 := hL5
      have HW5 : Wr rb w w5 := by
        have h3 : Below w.heap.size wr w5 := (((hb12.mono hsz).trans hb3).trans (hb4.mono (by omega))).trans hb5
        exact ⟨h3.os.trans HW.out.os, h3.tape.trans HW.out.tape, h3.output.trans HW.out.output, Nat.le_trans HW.out.size h3.size, fun j hj hjr => (h3.block j hj).trans (HW.out.block j hj hjr)⟩
      have hn5 := ((s.add l1).add_le l2).2
      have CASES : ∀ x : Bool, x = (!one || !two || !three) → (x = false → sx d b (k + 1) = true ∧ ((s.add l1).add l2).same (ss ⟨0, fun _ => 0⟩ d b (k + 1))) ∧ (x = true → sx d b n = false) := fun x hx => by
        rw [HBE.out] at hx
        refine ⟨fun h => ?_, fun h => HNO.out (by rw [h] at hx; simpa using hx.symm)⟩
        rw [h] at hx
        rw [HSS.out]
        exact ⟨by simpa using hx.symm, (HSM.out.add l1).add l2⟩
      have HCS : Hid _ := CASES
      have HNE : Hid (w.heap.size ≠ rb) := (show w.heap.size ≠ rb by omega)
      clear CASES HBE
      go_wp2
      all_goals
        go_roundw
        case rel => exact ⟨k + 1, _, v5, _, by omega, by go_num, by rw [HQ1.out], hB5.set1 _, HO5.other HNE.out 1 _, HL5.rw hB5 1 _, HW5.setCell 1 _, (HCS.out _ (by simp_all)).1, (HCS.out _ (by simp_all)).2, by omega⟩
        case measure => simp [intOf]; omega
    · have HNB : Hid (sx d b n = !bad ∧ (bad = false → s.same (ss ⟨0, fun _ => 0⟩ d b n) ∧ k = n)) := by
        cases bad
        · obtain rfl : k = n := by
            by_cases e : k < n
            · exact absurd ⟨e, rfl⟩ hgo
            · omega
          exact ⟨(HS.out rfl).1, fun _ => ⟨(HS.out rfl).2, rfl⟩⟩
        · exact ⟨HN.out rfl, fun h => by cases h⟩
      have rq := HSR.out k hk
      have CA : Hid (∀ W, W = wr → Calls Tryz.prog 59 #[.pointer (some ⟨w.heap.size, 0, none⟩), .int .i64 (sq d b k)] W fun e w' => e = .returned (.tuple #[]) ∧ ∃ v', RwB w' w.heap.size v' false ∧ Out w.heap.size w' v' (s.add (sq d b k)).n (s.add (sq d b k)).d ∧ Below w.heap.size W w') := fun W hW => by
        subst hW
        exact r7add_any W HO.out HL.out rq (by omega) hsz (Nat.le_refl _)
      have HQK : Hid (k = n → (ss ⟨0, fun _ => 0⟩ d b n).add (sq d b k) = scl ⟨0, fun _ => 0⟩ d b n) := fun e => by subst e; rfl
      generalize sq d b k = qk at *
      have hcond2 : ¬ (k : Int) < (n : Int) ∨ bad = true := by
        cases bad
        · exact .inl fun e => hgo ⟨by omega, rfl⟩
        · exact .inr rfl
      clear hgo
      have FIN : ∀ (w3 : World) (v' : Value), RwB w3 w.heap.size v' false → Out w.heap.size w3 v' (s.add qk).n (s.add qk).d → Below w.heap.size wr w3 → ∃ (v : Value) (s : Ls), Ending.returned v' = .returned v ∧ Out w.heap.size w3 v s.n s.d ∧ Wr rb w w3 ∧ RwB w3 rb v0 (!sx d b n) ∧ (sx d b n = true → s.same (scl ⟨0, fun _ => 0⟩ d b n)) ∧ s.n ≤ 2 * n + 2 := fun w3 v' hO3 hL3 hb3 => by
        refine ⟨v', s.add qk, rfl, hL3, ⟨hb3.os.trans HW.out.os, hb3.tape.trans HW.out.tape, hb3.output.trans HW.out.output, Nat.le_trans HW.out.size hb3.size, fun j hj hjr => (hb3.block j hj).trans (HW.out.block j hj hjr)⟩, ?_, fun h => ?_, Nat.le_trans (s.add_le qk).2 (by omega)⟩
        · rw [HNB.out.1, Bool.not_not]
          exact HB.out.below hb3 hlt
        · rw [HNB.out.1] at h
          obtain ⟨h1, h2⟩ := HNB.out.2 (by simpa using h)
          rw [← HQK.out h2]
          exact h1.add qk
      have HFI : Hid _ := FIN
      clear FIN
      rcases hcond2 with hnl | hbd
      · go_wp2_with fail
        all_goals
          refine (CA.out _ rfl).mono ?_
          rintro _ w3 ⟨rfl, v', hO3, hL3, hb3⟩
          have hF := HFI.out _ _ hO3 hL3 hb3
          obtain ⟨o0, o1, g0, g1⟩ := hO3.at
          obtain ⟨vo, vc, rfl, _⟩ := hL3.row
          go_wp2
          go_ret
          exact hF
      · subst hbd
        by_cases hkn : (k : Int) < (n : Int)
        all_goals
          go_wp2_with fail
          refine (CA.out _ rfl).mono ?_
          rintro _ w3 ⟨rfl, v', hO3, hL3, hb3⟩
          have hF := HFI.out _ _ hO3 hL3 hb3
          obtain ⟨o0, o1, g0, g1⟩ := hO3.at
          obtain ⟨vo, vc, rfl, _⟩ := hL3.row
          go_wp2
          go_ret
          exact hF
set_option maxRecDepth 100000 in
theorem r7scaled_none {rb n ec : Nat} {eo : Option Addr} {b : Int} (w : World) (hb : rng b) (h : n = 0 ∨ rg b = 0) (hn : n ≤ 300000) :
    Calls Tryz.prog 37 #[.pointer (some ⟨rb, 0, none⟩), .slice eo n ec, .int .i64 b] w fun r w' => r = .returned (.slice none 0 0) ∧ w' = w := by
  have CC := fun W => refClass b W hb
  by_cases h0 : n = 0
  · subst h0
    go_enter Tryz.func37, Tryz.ntmps37
    go_wp2
    go_ret
    exact ⟨rfl, rfl⟩
  · have hz : cls b = 0 := (cls_nought hb).2 (by rcases h with h | h; (· exact absurd h h0); (· exact h))
    rw [hz] at CC
    have hn0 : ((n : Int) == 0) = false := by simpa using h0
    go_enter Tryz.func37, Tryz.ntmps37
    go_wp2_with (go_at_call 20; refine (CC _).mono ?_; rintro _ wz ⟨rfl, hw⟩; replace hw := hw.symm; subst hw)
    go_ret
    exact ⟨rfl, rfl⟩
/-- scaled, of any list. -/
theorem r7scaled_any {rb n ec : Nat} {eo : Option Addr} {d : Nat → Int} {b : Int} {v0 : Value} (w : World) (hr : RwB w rb v0 false) (he : RowX rb w eo n ec d) (hd : ∀ i, i < n → rng (d i) ∧ pok (d i) = true) (hb : rng b) (pb : pok b = true) (hn : n ≤ 300000) :
    Calls Tryz.prog 37 #[.pointer (some ⟨rb, 0, none⟩), .slice eo n ec, .int .i64 b] w fun r w' => ∃ (v : Value) (s : Ls), r = .returned v ∧ Out w.heap.size w' v s.n s.d ∧ Wr rb w w' ∧ RwB w' rb v0 (!sxN d b n) ∧ (sxN d b n = true → s.same (sclN d b n)) ∧ s.n ≤ 2 * n := by
  by_cases h : n = 0 ∨ rg b = 0
  · have e1 : sxN d b n = true := by
      cases n with
      | zero => rfl
      | succ n => exact if_pos (h.resolve_left (by omega))
    have e2 : sclN d b n = ⟨0, fun _ => 0⟩ := by
      cases n with
      | zero => rfl
      | succ n => exact if_pos (h.resolve_left (by omega))
    refine (r7scaled_none w hb h hn).mono ?_
    rintro r w' ⟨rfl, hw⟩
    subst hw
    rw [e1, e2]
    exact ⟨_, ⟨0, fun _ => 0⟩, rfl, Out.nil _ _ _, Wr.refl _ _, hr, fun _ => Ls.same.refl _, Nat.zero_le _⟩
  · have h0 : ¬ n = 0 := fun e => h (.inl e)
    have hz : rg b ≠ 0 := fun e => h (.inr e)
    obtain ⟨m, rfl⟩ : ∃ m, n = m + 1 := ⟨n - 1, by omega⟩
    have e1 : sxN d b (m + 1) = sx d b m := if_neg hz
    have e2 : sclN d b (m + 1) = scl ⟨0, fun _ => 0⟩ d b m := if_neg hz
    rw [e1, e2]
    refine (r7scaled_some w hr he (fun i hi => hd i (by omega)) hb pb hz (by omega)).mono ?_
    rintro r w' ⟨v, s, h1, h2, h3, h4, h5, h6⟩
    exact ⟨v, s, h1, h2, h3, h4, h5, by omega⟩
end Go.Proofs.YtjlmpgbadgkgmaaGreatDoor

/-
  Two floats that overlap, stand the wrong way round, or of which one is a nought or none: no expansion.
-/
namespace Go.Proofs.YtjlmpgbadgkgmaaGreatDoor
open Go Go.RowKit Go.Proofs.YtjlmpgbadgkgmaaGreatDoor.M
set_option linter.unusedSimpArgs false
set_option linter.unusedVariables false

theorem cls_some {b : Int} (h : pok b = true) (hm : pmag b ≠ 0) : cls b = 1 ∨ cls b = 2 := by
  have hf : fld b ≠ 2047 := by simpa [pok] using h
  unfold pmag at hm
  unfold cls
  rw [if_neg hf] at hm ⊢
  by_cases h0 : fld b = 0
  · rw [if_pos h0] at hm ⊢
    rw [if_neg hm]
    exact .inl rfl
  · rw [if_neg h0]
    exact .inr rfl
end Go.Proofs.YtjlmpgbadgkgmaaGreatDoor
