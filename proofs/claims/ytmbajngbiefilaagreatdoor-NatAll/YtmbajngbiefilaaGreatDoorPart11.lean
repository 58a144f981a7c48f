/-
  Parts of the proof, one behind another.
-/
import Derived.Test.YtmbajngbiefilaaGreatDoorPart9
import Derived.Test.YtmbajngbiefilaaGreatDoorPart10
import Derived.Test.YtmbajngbiefilaaGreatDoorPart6
/-
  plumblaw2.two: for every two lists it answers true, what it keeps is kept, and it turns nothing that was there ahead of the law.
-/
namespace Go.Proofs.YtmbajngbiefilaaGreatDoor
open Go Go.RowKit Go.Proofs.YtmbajngbiefilaaGreatDoor.M
set_option linter.unusedSimpArgs false
set_option linter.unusedVariables false


set_option maxRecDepth 100000 in
set_option maxHeartbeats 4000000 in
theorem two_nil {w0 : World} {ao bo : Option Addr} {n ca cb : Nat} {a b : Nat → Int} (ra : Row w0 ao n ca a) (rb : Row w0 bo 0 cb b) (hn : n ≤ 2100) (w : World) (hb0 : Below w0.heap.size w0 w) {k : Nat} {S : Nat → Prop} (hk : Kept w0.heap.size w k S) (oa : okB a n = true) (ob : okB b 0 = true) (hle : val b 0 ≤ val a n) :
    Calls Tryz.prog 6 #[.pointer (some ⟨k, 0, none⟩), .slice ao n ca, .slice bo 0 cb] w fun e w' => e = .returned (.bool true) ∧ Below w0.heap.size w0 w' ∧ ∃ S', Kept w0.heap.size w' k S' ∧ Fr w w' := by
  have HS0 : Hid (w0.heap.size ≤ w.heap.size) := hb0.size
  have HRA : Hid (Row w0 ao n ca a) := ra
  have HRB : Hid (Row w0 bo 0 cb b) := rb
  have HB : Hid (Below w0.heap.size w0 w) := hb0
  have IK : Hid (Ik w0.heap.size w w) := Ik.refl _ _
  have HK : Hid (Kept w0.heap.size w k (fun g => g < w.heap.size)) := hk.old
  have hla := ra.le
  have hma := ra.max
  have hlb := rb.le
  have hmb := rb.max
  clear hb0 hk ra rb
  obtain ⟨la, na⟩ := okB_out oa
  obtain ⟨lb, nb⟩ := okB_out ob
  have HNA : Hid (Nrm a n) := na
  have HNB : Hid (Nrm b 0) := nb
  have HA0 : Hid (0 ≤ val a n) := val_nonneg na.1
  have HB0 : Hid (0 ≤ val b 0) := val_nonneg nb.1
  have HA2 : Hid (val a n < P 2000) := Int.lt_of_lt_of_le (val_lt na.1) (P_le la)
  have HB2 : Hid (val b 0 < P 2000) := Int.lt_of_lt_of_le (val_lt nb.1) (P_le lb)
  have HG2 : Hid ((Int.gcd (val a n) (val b 0) : Int) < P 2000) := gcd_lt HA0.out HA2.out HB0.out HB2.out
  have htw : (if (okB a n && okB b 0) = true then (0 : Int) else 11) = 0 := by rw [oa, ob]; rfl
  have hoo : (ord (val a n) (val b 0) != ord (val a n) (val b 0)) = false := by simp
  clear na nb
  have HLE : Hid (val b 0 ≤ val a n) := hle
  have ho1 : decide (ord (val a n) (val b 0) < 0) = false := decide_eq_false (ord_ge hle)
  have ho2 : decide (0 ≤ ord (val a n) (val b 0)) = true := decide_eq_true (by have := ord_ge hle; omega)
  have HM2 : Hid (val a n - val b 0 < P 2000) := Int.lt_of_le_of_lt (by have := HB0.out; omega) HA2.out
  clear hle
  go_enter Tryz.func6, Tryz.ntmps6
  go_wp2_with fail
  refine (lent_any _ _ _ _ _ (HRA.out.stays HB.out (Nat.le_refl _)) (by omega)).mono ?_
  rintro e w1 ⟨vc, rfl, hLc⟩
  have B1 : Hid (Below w.heap.size w w1) := hLc.below
  have I1 : Hid (Ik w0.heap.size w w1) := Ik.of B1.out HB.out.size
  replace IK : Hid (Ik w0.heap.size w w1) := IK.out.trans I1.out
  have Z1 : Hid (w.heap.size ≤ w1.heap.size) := I1.out.below.size
  replace HB : Hid (Below w0.heap.size w0 w1) := HB.out.trans I1.out.below
  replace HK : Hid (Kept w0.heap.size w1 k (fun g => g < w.heap.size)) := HK.out.keeps B1.out
  obtain ⟨gc, cc, rfl, HLc0⟩ := hLc.parts
  have HC : Hid (Out w.heap.size w1 (.slice (some ⟨gc, 0, none⟩) (n + 3) cc) (n + 3) (lentD a n)) := HLc0
  have LC : Hid (w.heap.size ≤ gc ∧ gc < w1.heap.size) := HC.out.ge rfl
  have hcm := lent_cap HC.out
  clear hLc HLc0
  go_wp2_with fail
  refine (lent_any _ _ _ _ _ (HRB.out.stays HB.out (Nat.le_refl _)) (by omega)).mono ?_
  rintro e w2 ⟨vd, rfl, hLd⟩
  have B2 : Hid (Below w1.heap.size w1 w2) := hLd.below
  have I2 : Hid (Ik w0.heap.size w1 w2) := Ik.of B2.out HB.out.size
  replace IK : Hid (Ik w0.heap.size w w2) := IK.out.trans I2.out
  have Z2 : Hid (w1.heap.size ≤ w2.heap.size) := I2.out.below.size
  replace HB : Hid (Below w0.heap.size w0 w2) := HB.out.trans I2.out.below
  replace HK : Hid (Kept w0.heap.size w2 k (fun g => g < w.heap.size)) := HK.out.keeps B2.out
  replace HC : Hid (Out w.heap.size w2 (.slice (some ⟨gc, 0, none⟩) (n + 3) cc) (n + 3) (lentD a n)) := HC.out.ik I2.out
  obtain ⟨gd, cd, rfl, HLd0⟩ := hLd.parts
  have HD : Hid (Out w1.heap.size w2 (.slice (some ⟨gd, 0, none⟩) (0 + 3) cd) (0 + 3) (lentD b 0)) := HLd0
  have LD : Hid (w1.heap.size ≤ gd ∧ gd < w2.heap.size) := HD.out.ge rfl
  have hdm := lent_cap HD.out
  clear hLd HLd0
  go_wp2_with fail
  refine (cmp_yes _ _ _ _ _ _ _ _ _ (lent_two HC.out HD.out) oa ob).mono ?_
  rintro e w3 ⟨rfl, hbx⟩
  have B3 : Hid (Below w2.heap.size w2 w3) := hbx
  have I3 : Hid (Ik w0.heap.size w2 w3) := Ik.of B3.out HB.out.size
  replace IK : Hid (Ik w0.heap.size w w3) := IK.out.trans I3.out
  have Z3 : Hid (w2.heap.size ≤ w3.heap.size) := I3.out.below.size
  replace HB : Hid (Below w0.heap.size w0 w3) := HB.out.trans I3.out.below
  replace HK : Hid (Kept w0.heap.size w3 k (fun g => g < w.heap.size)) := HK.out.keeps B3.out
  replace HC : Hid (Out w.heap.size w3 (.slice (some ⟨gc, 0, none⟩) (n + 3) cc) (n + 3) (lentD a n)) := HC.out.ik I3.out
  replace HD : Hid (Out w1.heap.size w3 (.slice (some ⟨gd, 0, none⟩) (0 + 3) cd) (0 + 3) (lentD b 0)) := HD.out.ik I3.out
  clear hbx
  go_wp2_with fail
  refine (add_yes _ _ _ _ _ _ _ _ _ (lent_two HC.out HD.out) oa ob).mono ?_
  rintro e w4 ⟨vs, es, rfl, hF⟩
  have B4 : Hid (Below w3.heap.size w3 w4) := hF.1
  have I4 : Hid (Ik w0.heap.size w3 w4) := Ik.of B4.out HB.out.size
  replace IK : Hid (Ik w0.heap.size w w4) := IK.out.trans I4.out
  have Z4 : Hid (w3.heap.size ≤ w4.heap.size) := I4.out.below.size
  replace HB : Hid (Below w0.heap.size w0 w4) := HB.out.trans I4.out.below
  replace HK : Hid (Kept w0.heap.size w4 k (fun g => g < w.heap.size)) := HK.out.keeps B4.out
  replace HC : Hid (Out w.heap.size w4 (.slice (some ⟨gc, 0, none⟩) (n + 3) cc) (n + 3) (lentD a n)) := HC.out.ik I4.out
  replace HD : Hid (Out w1.heap.size w4 (.slice (some ⟨gd, 0, none⟩) (0 + 3) cd) (0 + 3) (lentD b 0)) := HD.out.ik I4.out
  have HSs : Hid (FitA w3.heap.size w4 (val a n + val b 0) vs es) := hF.fitA
  clear hF
  have LS : Hid (Lies vs w3.heap.size w4.heap.size) := fun g hg => HSs.out.ge hg
  obtain ⟨so, sn, sc, rfl⟩ := HSs.out.shape
  go_wp2_with fail
  refine (sub_yes _ _ _ _ _ _ _ _ _ (lent_two HC.out HD.out) oa ob HLE.out).mono ?_
  rintro e w5 ⟨vm, rfl, hF⟩
  have B5 : Hid (Below w4.heap.size w4 w5) := hF.below
  have I5 : Hid (Ik w0.heap.size w4 w5) := Ik.of B5.out HB.out.size
  replace IK : Hid (Ik w0.heap.size w w5) := IK.out.trans I5.out
  have Z5 : Hid (w4.heap.size ≤ w5.heap.size) := I5.out.below.size
  replace HB : Hid (Below w0.heap.size w0 w5) := HB.out.trans I5.out.below
  replace HK : Hid (Kept w0.heap.size w5 k (fun g => g < w.heap.size)) := HK.out.keeps B5.out
  replace HC : Hid (Out w.heap.size w5 (.slice (some ⟨gc, 0, none⟩) (n + 3) cc) (n + 3) (lentD a n)) := HC.out.ik I5.out
  replace HD : Hid (Out w1.heap.size w5 (.slice (some ⟨gd, 0, none⟩) (0 + 3) cd) (0 + 3) (lentD b 0)) := HD.out.ik I5.out
  replace HSs : Hid (FitA w3.heap.size w5 (val a n + val b 0) (.slice so sn sc) es) := HSs.out.ik I5.out
  have HSm : Hid (An w4.heap.size w5 vm (val a n - val b 0)) := hF.an
  clear hF
  have LM : Hid (Lies vm w4.heap.size w5.heap.size) := fun g hg => HSm.out.ge hg
  obtain ⟨mo, mn, mc, rfl⟩ := HSm.out.shape
  go_wp2_with fail
  refine (mul_yes _ _ _ _ _ _ _ _ _ (lent_two HC.out HD.out) oa ob).mono ?_
  rintro e w6 ⟨vp, ep, rfl, hF⟩
  have B6 : Hid (Below w5.heap.size w5 w6) := hF.1
  have I6 : Hid (Ik w0.heap.size w5 w6) := Ik.of B6.out HB.out.size
  replace IK : Hid (Ik w0.heap.size w w6) := IK.out.trans I6.out
  have Z6 : Hid (w5.heap.size ≤ w6.heap.size) := I6.out.below.size
  replace HB : Hid (Below w0.heap.size w0 w6) := HB.out.trans I6.out.below
  replace HK : Hid (Kept w0.heap.size w6 k (fun g => g < w.heap.size)) := HK.out.keeps B6.out
  replace HC : Hid (Out w.heap.size w6 (.slice (some ⟨gc, 0, none⟩) (n + 3) cc) (n + 3) (lentD a n)) := HC.out.ik I6.out
  replace HD : Hid (Out w1.heap.size w6 (.slice (some ⟨gd, 0, none⟩) (0 + 3) cd) (0 + 3) (lentD b 0)) := HD.out.ik I6.out
  replace HSs : Hid (FitA w3.heap.size w6 (val a n + val b 0) (.slice so sn sc) es) := HSs.out.ik I6.out
  replace HSm : Hid (An w4.heap.size w6 (.slice mo mn mc) (val a n - val b 0)) := HSm.out.ik I6.out
  have HSp : Hid (FitA w5.heap.size w6 (val a n * val b 0) vp ep) := hF.fitA
  clear hF
  have LP : Hid (Lies vp w5.heap.size w6.heap.size) := fun g hg => HSp.out.ge hg
  obtain ⟨po, pn, pc, rfl⟩ := HSp.out.shape
  go_wp2_with fail
  refine (div_zero _ _ _ _ _ _ _ _ (lent_two HC.out HD.out) oa ob).mono ?_
  rintro e w7 ⟨rfl, hw⟩
  replace hw := hw.symm
  subst hw
  go_wp2_with fail
  refine (gcd_num (lent_numA HC.out HNA.out) (lent_numA HD.out HNB.out) HA2.out HB2.out).mono ?_
  rintro e w7 ⟨vz, rfl, hF⟩
  have B7 : Hid (Below w6.heap.size w6 w7) := hF.below
  have I7 : Hid (Ik w0.heap.size w6 w7) := Ik.of B7.out HB.out.size
  replace IK : Hid (Ik w0.heap.size w w7) := IK.out.trans I7.out
  have Z7 : Hid (w6.heap.size ≤ w7.heap.size) := I7.out.below.size
  replace HB : Hid (Below w0.heap.size w0 w7) := HB.out.trans I7.out.below
  replace HK : Hid (Kept w0.heap.size w7 k (fun g => g < w.heap.size)) := HK.out.keeps B7.out
  replace HC : Hid (Out w.heap.size w7 (.slice (some ⟨gc, 0, none⟩) (n + 3) cc) (n + 3) (lentD a n)) := HC.out.ik I7.out
  replace HD : Hid (Out w1.heap.size w7 (.slice (some ⟨gd, 0, none⟩) (0 + 3) cd) (0 + 3) (lentD b 0)) := HD.out.ik I7.out
  replace HSs : Hid (FitA w3.heap.size w7 (val a n + val b 0) (.slice so sn sc) es) := HSs.out.ik I7.out
  replace HSm : Hid (An w4.heap.size w7 (.slice mo mn mc) (val a n - val b 0)) := HSm.out.ik I7.out
  replace HSp : Hid (FitA w5.heap.size w7 (val a n * val b 0) (.slice po pn pc) ep) := HSp.out.ik I7.out
  have HSz : Hid (An w6.heap.size w7 vz (Int.gcd (val a n) (val b 0) : Int)) := hF.an
  clear hF
  have LZ : Hid (Lies vz w6.heap.size w7.heap.size) := fun g hg => HSz.out.ge hg
  obtain ⟨zo, zn, zc, rfl⟩ := HSz.out.shape
  go_wp2_with fail
  refine (rtwo_any _ _ _ _ _ _ _ _ _ ⟨(HRA.out.stays HB.out (Nat.le_refl _)), (HRB.out.stays HB.out (Nat.le_refl _))⟩).mono ?_
  rintro e w8 ⟨rfl, hw⟩
  replace hw := hw.symm
  subst hw
  rw [htw]
  go_wp2_with fail
  refine (rcmp_any _ _ _ _ _ _ _ _ _ (HRA.out.stays HB.out (Nat.le_refl _)) (HRB.out.stays HB.out (Nat.le_refl _)) HNA.out HNB.out).mono ?_
  rintro e w8 ⟨rfl, hbx⟩
  have B8 : Hid (Below w7.heap.size w7 w8) := hbx
  have I8 : Hid (Ik w0.heap.size w7 w8) := Ik.of B8.out HB.out.size
  replace IK : Hid (Ik w0.heap.size w w8) := IK.out.trans I8.out
  have Z8 : Hid (w7.heap.size ≤ w8.heap.size) := I8.out.below.size
  replace HB : Hid (Below w0.heap.size w0 w8) := HB.out.trans I8.out.below
  replace HK : Hid (Kept w0.heap.size w8 k (fun g => g < w.heap.size)) := HK.out.keeps B8.out
  replace HC : Hid (Out w.heap.size w8 (.slice (some ⟨gc, 0, none⟩) (n + 3) cc) (n + 3) (lentD a n)) := HC.out.ik I8.out
  replace HD : Hid (Out w1.heap.size w8 (.slice (some ⟨gd, 0, none⟩) (0 + 3) cd) (0 + 3) (lentD b 0)) := HD.out.ik I8.out
  replace HSs : Hid (FitA w3.heap.size w8 (val a n + val b 0) (.slice so sn sc) es) := HSs.out.ik I8.out
  replace HSm : Hid (An w4.heap.size w8 (.slice mo mn mc) (val a n - val b 0)) := HSm.out.ik I8.out
  replace HSp : Hid (FitA w5.heap.size w8 (val a n * val b 0) (.slice po pn pc) ep) := HSp.out.ik I8.out
  replace HSz : Hid (An w6.heap.size w8 (.slice zo zn zc) (Int.gcd (val a n) (val b 0) : Int)) := HSz.out.ik I8.out
  clear hbx
  have HWS : Hid (w0.heap.size ≤ w8.heap.size) := HB.out.size
  go_wp2_with fail
  refine (radd_any _ _ _ _ _ _ _ _ _ (HRA.out.stays HB.out (Nat.le_refl _)) (HRB.out.stays HB.out (Nat.le_refl _)) HNA.out HNB.out (by omega) (by omega)).mono ?_
  rintro e w9 ⟨vw, rfl, hF⟩
  have B9 : Hid (Below w8.heap.size w8 w9) := hF.below
  have I9 : Hid (Ik w0.heap.size w8 w9) := Ik.of B9.out HB.out.size
  replace IK : Hid (Ik w0.heap.size w w9) := IK.out.trans I9.out
  have Z9 : Hid (w8.heap.size ≤ w9.heap.size) := I9.out.below.size
  replace HB : Hid (Below w0.heap.size w0 w9) := HB.out.trans I9.out.below
  replace HK : Hid (Kept w0.heap.size w9 k (fun g => g < w.heap.size)) := HK.out.keeps B9.out
  replace HC : Hid (Out w.heap.size w9 (.slice (some ⟨gc, 0, none⟩) (n + 3) cc) (n + 3) (lentD a n)) := HC.out.ik I9.out
  replace HD : Hid (Out w1.heap.size w9 (.slice (some ⟨gd, 0, none⟩) (0 + 3) cd) (0 + 3) (lentD b 0)) := HD.out.ik I9.out
  replace HSs : Hid (FitA w3.heap.size w9 (val a n + val b 0) (.slice so sn sc) es) := HSs.out.ik I9.out
  replace HSm : Hid (An w4.heap.size w9 (.slice mo mn mc) (val a n - val b 0)) := HSm.out.ik I9.out
  replace HSp : Hid (FitA w5.heap.size w9 (val a n * val b 0) (.slice po pn pc) ep) := HSp.out.ik I9.out
  replace HSz : Hid (An w6.heap.size w9 (.slice zo zn zc) (Int.gcd (val a n) (val b 0) : Int)) := HSz.out.ik I9.out
  have HW : Hid (An w8.heap.size w9 vw (val a n + val b 0)) := hF.an
  clear hF
  obtain ⟨wo, wn, wc, rfl⟩ := HW.out.shape
  go_wp2_with fail
  refine (answer_any HK.out (HSs.out.lower (by have h0 := HS0.out; have y1 := Z1.out; have y2 := Z2.out; have y3 := Z3.out; have y4 := Z4.out; have y5 := Z5.out; have y6 := Z6.out; have y7 := Z7.out; have y8 := Z8.out; have y9 := Z9.out; omega)) (HW.out.lower HWS.out) HB.out.size (fun g hg => (fun (h : g < w.heap.size) => by have h1 := LS.out g hg; have y1 := Z1.out; have y2 := Z2.out; have y3 := Z3.out; have y4 := Z4.out; have y5 := Z5.out; have y6 := Z6.out; have y7 := Z7.out; have y8 := Z8.out; have y9 := Z9.out; omega))).mono ?_
  rintro e w10 ⟨rfl, hik, hkk⟩
  have I10 : Hid (Ik w0.heap.size w9 w10) := hik
  replace IK : Hid (Ik w0.heap.size w w10) := IK.out.trans I10.out
  have Z10 : Hid (w9.heap.size ≤ w10.heap.size) := I10.out.below.size
  replace HB : Hid (Below w0.heap.size w0 w10) := HB.out.trans I10.out.below
  replace HK : Hid (Kept w0.heap.size w10 k (S2 (fun g => g < w.heap.size) (.slice so sn sc) w9.heap.size)) := hkk
  replace HC : Hid (Out w.heap.size w10 (.slice (some ⟨gc, 0, none⟩) (n + 3) cc) (n + 3) (lentD a n)) := HC.out.ik I10.out
  replace HD : Hid (Out w1.heap.size w10 (.slice (some ⟨gd, 0, none⟩) (0 + 3) cd) (0 + 3) (lentD b 0)) := HD.out.ik I10.out
  replace HSs : Hid (FitA w3.heap.size w10 (val a n + val b 0) (.slice so sn sc) es) := HSs.out.ik I10.out
  replace HSm : Hid (An w4.heap.size w10 (.slice mo mn mc) (val a n - val b 0)) := HSm.out.ik I10.out
  replace HSp : Hid (FitA w5.heap.size w10 (val a n * val b 0) (.slice po pn pc) ep) := HSp.out.ik I10.out
  replace HSz : Hid (An w6.heap.size w10 (.slice zo zn zc) (Int.gcd (val a n) (val b 0) : Int)) := HSz.out.ik I10.out
  clear hik hkk HW HWS
  have HWS : Hid (w0.heap.size ≤ w10.heap.size) := HB.out.size
  go_wp2_with fail
  refine (rmul_any _ _ _ _ _ _ _ _ _ (HRA.out.stays HB.out (Nat.le_refl _)) (HRB.out.stays HB.out (Nat.le_refl _)) HNA.out HNB.out (by omega) (by omega)).mono ?_
  rintro e w11 ⟨vw, rfl, hF⟩
  have B11 : Hid (Below w10.heap.size w10 w11) := hF.below
  have I11 : Hid (Ik w0.heap.size w10 w11) := Ik.of B11.out HB.out.size
  replace IK : Hid (Ik w0.heap.size w w11) := IK.out.trans I11.out
  have Z11 : Hid (w10.heap.size ≤ w11.heap.size) := I11.out.below.size
  replace HB : Hid (Below w0.heap.size w0 w11) := HB.out.trans I11.out.below
  replace HK : Hid (Kept w0.heap.size w11 k (S2 (fun g => g < w.heap.size) (.slice so sn sc) w9.heap.size)) := HK.out.keeps B11.out
  replace HC : Hid (Out w.heap.size w11 (.slice (some ⟨gc, 0, none⟩) (n + 3) cc) (n + 3) (lentD a n)) := HC.out.ik I11.out
  replace HD : Hid (Out w1.heap.size w11 (.slice (some ⟨gd, 0, none⟩) (0 + 3) cd) (0 + 3) (lentD b 0)) := HD.out.ik I11.out
  replace HSs : Hid (FitA w3.heap.size w11 (val a n + val b 0) (.slice so sn sc) es) := HSs.out.ik I11.out
  replace HSm : Hid (An w4.heap.size w11 (.slice mo mn mc) (val a n - val b 0)) := HSm.out.ik I11.out
  replace HSp : Hid (FitA w5.heap.size w11 (val a n * val b 0) (.slice po pn pc) ep) := HSp.out.ik I11.out
  replace HSz : Hid (An w6.heap.size w11 (.slice zo zn zc) (Int.gcd (val a n) (val b 0) : Int)) := HSz.out.ik I11.out
  have HW : Hid (An w10.heap.size w11 vw (val a n * val b 0)) := hF.an
  clear hF
  obtain ⟨wo, wn, wc, rfl⟩ := HW.out.shape
  go_wp2_with fail
  refine (answer_any HK.out (HSp.out.lower (by have h0 := HS0.out; have y1 := Z1.out; have y2 := Z2.out; have y3 := Z3.out; have y4 := Z4.out; have y5 := Z5.out; have y6 := Z6.out; have y7 := Z7.out; have y8 := Z8.out; have y9 := Z9.out; have y10 := Z10.out; have y11 := Z11.out; omega)) (HW.out.lower HWS.out) HB.out.size (fun g hg => (notS2 (fun (h : g < w.heap.size) => by have h1 := LP.out g hg; have y1 := Z1.out; have y2 := Z2.out; have y3 := Z3.out; have y4 := Z4.out; have y5 := Z5.out; have y6 := Z6.out; have y7 := Z7.out; have y8 := Z8.out; have y9 := Z9.out; have y10 := Z10.out; have y11 := Z11.out; omega) (fun e => by have h1 := LP.out g hg; have h2 := LS.out g e; have y1 := Z1.out; have y2 := Z2.out; have y3 := Z3.out; have y4 := Z4.out; have y5 := Z5.out; have y6 := Z6.out; have y7 := Z7.out; have y8 := Z8.out; have y9 := Z9.out; have y10 := Z10.out; have y11 := Z11.out; omega) (by have h1 := LP.out g hg; have y1 := Z1.out; have y2 := Z2.out; have y3 := Z3.out; have y4 := Z4.out; have y5 := Z5.out; have y6 := Z6.out; have y7 := Z7.out; have y8 := Z8.out; have y9 := Z9.out; have y10 := Z10.out; have y11 := Z11.out; omega)))).mono ?_
  rintro e w12 ⟨rfl, hik, hkk⟩
  have I12 : Hid (Ik w0.heap.size w11 w12) := hik
  replace IK : Hid (Ik w0.heap.size w w12) := IK.out.trans I12.out
  have Z12 : Hid (w11.heap.size ≤ w12.heap.size) := I12.out.below.size
  replace HB : Hid (Below w0.heap.size w0 w12) := HB.out.trans I12.out.below
  replace HK : Hid (Kept w0.heap.size w12 k (S2 (S2 (fun g => g < w.heap.size) (.slice so sn sc) w9.heap.size) (.slice po pn pc) w11.heap.size)) := hkk
  replace HC : Hid (Out w.heap.size w12 (.slice (some ⟨gc, 0, none⟩) (n + 3) cc) (n + 3) (lentD a n)) := HC.out.ik I12.out
  replace HD : Hid (Out w1.heap.size w12 (.slice (some ⟨gd, 0, none⟩) (0 + 3) cd) (0 + 3) (lentD b 0)) := HD.out.ik I12.out
  replace HSs : Hid (FitA w3.heap.size w12 (val a n + val b 0) (.slice so sn sc) es) := HSs.out.ik I12.out
  replace HSm : Hid (An w4.heap.size w12 (.slice mo mn mc) (val a n - val b 0)) := HSm.out.ik I12.out
  replace HSp : Hid (FitA w5.heap.size w12 (val a n * val b 0) (.slice po pn pc) ep) := HSp.out.ik I12.out
  replace HSz : Hid (An w6.heap.size w12 (.slice zo zn zc) (Int.gcd (val a n) (val b 0) : Int)) := HSz.out.ik I12.out
  clear hik hkk HW HWS
  have HWS : Hid (w0.heap.size ≤ w12.heap.size) := HB.out.size
  go_wp2_with fail
  refine (rsub_any _ _ _ _ _ _ _ _ _ (HRA.out.stays HB.out (Nat.le_refl _)) (HRB.out.stays HB.out (Nat.le_refl _)) HNA.out HNB.out (by omega) HLE.out).mono ?_
  rintro e w13 ⟨vw, rfl, hF⟩
  have B13 : Hid (Below w12.heap.size w12 w13) := hF.below
  have I13 : Hid (Ik w0.heap.size w12 w13) := Ik.of B13.out HB.out.size
  replace IK : Hid (Ik w0.heap.size w w13) := IK.out.trans I13.out
  have Z13 : Hid (w12.heap.size ≤ w13.heap.size) := I13.out.below.size
  replace HB : Hid (Below w0.heap.size w0 w13) := HB.out.trans I13.out.below
  replace HK : Hid (Kept w0.heap.size w13 k (S2 (S2 (fun g => g < w.heap.size) (.slice so sn sc) w9.heap.size) (.slice po pn pc) w11.heap.size)) := HK.out.keeps B13.out
  replace HC : Hid (Out w.heap.size w13 (.slice (some ⟨gc, 0, none⟩) (n + 3) cc) (n + 3) (lentD a n)) := HC.out.ik I13.out
  replace HD : Hid (Out w1.heap.size w13 (.slice (some ⟨gd, 0, none⟩) (0 + 3) cd) (0 + 3) (lentD b 0)) := HD.out.ik I13.out
  replace HSs : Hid (FitA w3.heap.size w13 (val a n + val b 0) (.slice so sn sc) es) := HSs.out.ik I13.out
  replace HSm : Hid (An w4.heap.size w13 (.slice mo mn mc) (val a n - val b 0)) := HSm.out.ik I13.out
  replace HSp : Hid (FitA w5.heap.size w13 (val a n * val b 0) (.slice po pn pc) ep) := HSp.out.ik I13.out
  replace HSz : Hid (An w6.heap.size w13 (.slice zo zn zc) (Int.gcd (val a n) (val b 0) : Int)) := HSz.out.ik I13.out
  have HW : Hid (An w12.heap.size w13 vw (val a n - val b 0)) := hF.an
  clear hF
  obtain ⟨wo, wn, wc, rfl⟩ := HW.out.shape
  go_wp2_with fail
  refine (keep_an HK.out (HSm.out.lower (by have h0 := HS0.out; have y1 := Z1.out; have y2 := Z2.out; have y3 := Z3.out; have y4 := Z4.out; have y5 := Z5.out; have y6 := Z6.out; have y7 := Z7.out; have y8 := Z8.out; have y9 := Z9.out; have y10 := Z10.out; have y11 := Z11.out; have y12 := Z12.out; have y13 := Z13.out; omega)) (HW.out.lower HWS.out) 2000 (by decide) HM2.out HB.out.size (fun g hg => (notS2 (notS2 (fun (h : g < w.heap.size) => by have h1 := LM.out g hg; have y1 := Z1.out; have y2 := Z2.out; have y3 := Z3.out; have y4 := Z4.out; have y5 := Z5.out; have y6 := Z6.out; have y7 := Z7.out; have y8 := Z8.out; have y9 := Z9.out; have y10 := Z10.out; have y11 := Z11.out; have y12 := Z12.out; have y13 := Z13.out; omega) (fun e => by have h1 := LM.out g hg; have h2 := LS.out g e; have y1 := Z1.out; have y2 := Z2.out; have y3 := Z3.out; have y4 := Z4.out; have y5 := Z5.out; have y6 := Z6.out; have y7 := Z7.out; have y8 := Z8.out; have y9 := Z9.out; have y10 := Z10.out; have y11 := Z11.out; have y12 := Z12.out; have y13 := Z13.out; omega) (by have h1 := LM.out g hg; have y1 := Z1.out; have y2 := Z2.out; have y3 := Z3.out; have y4 := Z4.out; have y5 := Z5.out; have y6 := Z6.out; have y7 := Z7.out; have y8 := Z8.out; have y9 := Z9.out; have y10 := Z10.out; have y11 := Z11.out; have y12 := Z12.out; have y13 := Z13.out; omega)) (fun e => by have h1 := LM.out g hg; have h2 := LP.out g e; have y1 := Z1.out; have y2 := Z2.out; have y3 := Z3.out; have y4 := Z4.out; have y5 := Z5.out; have y6 := Z6.out; have y7 := Z7.out; have y8 := Z8.out; have y9 := Z9.out; have y10 := Z10.out; have y11 := Z11.out; have y12 := Z12.out; have y13 := Z13.out; omega) (by have h1 := LM.out g hg; have y1 := Z1.out; have y2 := Z2.out; have y3 := Z3.out; have y4 := Z4.out; have y5 := Z5.out; have y6 := Z6.out; have y7 := Z7.out; have y8 := Z8.out; have y9 := Z9.out; have y10 := Z10.out; have y11 := Z11.out; have y12 := Z12.out; have y13 := Z13.out; omega)))).mono ?_
  rintro e w14 ⟨rfl, hik, hkk⟩
  have I14 : Hid (Ik w0.heap.size w13 w14) := hik
  replace IK : Hid (Ik w0.heap.size w w14) := IK.out.trans I14.out
  have Z14 : Hid (w13.heap.size ≤ w14.heap.size) := I14.out.below.size
  replace HB : Hid (Below w0.heap.size w0 w14) := HB.out.trans I14.out.below
  replace HK : Hid (Kept w0.heap.size w14 k (S2 (S2 (S2 (fun g => g < w.heap.size) (.slice so sn sc) w9.heap.size) (.slice po pn pc) w11.heap.size) (.slice mo mn mc) w13.heap.size)) := hkk
  replace HC : Hid (Out w.heap.size w14 (.slice (some ⟨gc, 0, none⟩) (n + 3) cc) (n + 3) (lentD a n)) := HC.out.ik I14.out
  replace HD : Hid (Out w1.heap.size w14 (.slice (some ⟨gd, 0, none⟩) (0 + 3) cd) (0 + 3) (lentD b 0)) := HD.out.ik I14.out
  replace HSs : Hid (FitA w3.heap.size w14 (val a n + val b 0) (.slice so sn sc) es) := HSs.out.ik I14.out
  replace HSm : Hid (An w4.heap.size w14 (.slice mo mn mc) (val a n - val b 0)) := HSm.out.ik I14.out
  replace HSp : Hid (FitA w5.heap.size w14 (val a n * val b 0) (.slice po pn pc) ep) := HSp.out.ik I14.out
  replace HSz : Hid (An w6.heap.size w14 (.slice zo zn zc) (Int.gcd (val a n) (val b 0) : Int)) := HSz.out.ik I14.out
  clear hik hkk HW HWS
  have HWS : Hid (w0.heap.size ≤ w14.heap.size) := HB.out.size
  go_wp2_with fail
  refine (rgcd_any (Row.num0 (HRA.out.stays HB.out (Nat.le_refl _)) HNA.out) (Row.num0 (HRB.out.stays HB.out (Nat.le_refl _)) HNB.out) HA2.out HB2.out).mono ?_
  rintro e w15 ⟨vw, rfl, hF⟩
  have B15 : Hid (Below w14.heap.size w14 w15) := hF.below
  have I15 : Hid (Ik w0.heap.size w14 w15) := Ik.of B15.out HB.out.size
  replace IK : Hid (Ik w0.heap.size w w15) := IK.out.trans I15.out
  have Z15 : Hid (w14.heap.size ≤ w15.heap.size) := I15.out.below.size
  replace HB : Hid (Below w0.heap.size w0 w15) := HB.out.trans I15.out.below
  replace HK : Hid (Kept w0.heap.size w15 k (S2 (S2 (S2 (fun g => g < w.heap.size) (.slice so sn sc) w9.heap.size) (.slice po pn pc) w11.heap.size) (.slice mo mn mc) w13.heap.size)) := HK.out.keeps B15.out
  replace HC : Hid (Out w.heap.size w15 (.slice (some ⟨gc, 0, none⟩) (n + 3) cc) (n + 3) (lentD a n)) := HC.out.ik I15.out
  replace HD : Hid (Out w1.heap.size w15 (.slice (some ⟨gd, 0, none⟩) (0 + 3) cd) (0 + 3) (lentD b 0)) := HD.out.ik I15.out
  replace HSs : Hid (FitA w3.heap.size w15 (val a n + val b 0) (.slice so sn sc) es) := HSs.out.ik I15.out
  replace HSm : Hid (An w4.heap.size w15 (.slice mo mn mc) (val a n - val b 0)) := HSm.out.ik I15.out
  replace HSp : Hid (FitA w5.heap.size w15 (val a n * val b 0) (.slice po pn pc) ep) := HSp.out.ik I15.out
  replace HSz : Hid (An w6.heap.size w15 (.slice zo zn zc) (Int.gcd (val a n) (val b 0) : Int)) := HSz.out.ik I15.out
  have HW : Hid (An w14.heap.size w15 vw ((Int.gcd (val a n) (val b 0) : Int))) := hF.an
  clear hF
  obtain ⟨wo, wn, wc, rfl⟩ := HW.out.shape
  go_wp2_with fail
  refine (keep_an HK.out (HSz.out.lower (by have h0 := HS0.out; have y1 := Z1.out; have y2 := Z2.out; have y3 := Z3.out; have y4 := Z4.out; have y5 := Z5.out; have y6 := Z6.out; have y7 := Z7.out; have y8 := Z8.out; have y9 := Z9.out; have y10 := Z10.out; have y11 := Z11.out; have y12 := Z12.out; have y13 := Z13.out; have y14 := Z14.out; have y15 := Z15.out; omega)) (HW.out.lower HWS.out) 2000 (by decide) HG2.out HB.out.size (fun g hg => (notS2 (notS2 (notS2 (fun (h : g < w.heap.size) => by have h1 := LZ.out g hg; have y1 := Z1.out; have y2 := Z2.out; have y3 := Z3.out; have y4 := Z4.out; have y5 := Z5.out; have y6 := Z6.out; have y7 := Z7.out; have y8 := Z8.out; have y9 := Z9.out; have y10 := Z10.out; have y11 := Z11.out; have y12 := Z12.out; have y13 := Z13.out; have y14 := Z14.out; have y15 := Z15.out; omega) (fun e => by have h1 := LZ.out g hg; have h2 := LS.out g e; have y1 := Z1.out; have y2 := Z2.out; have y3 := Z3.out; have y4 := Z4.out; have y5 := Z5.out; have y6 := Z6.out; have y7 := Z7.out; have y8 := Z8.out; have y9 := Z9.out; have y10 := Z10.out; have y11 := Z11.out; have y12 := Z12.out; have y13 := Z13.out; have y14 := Z14.out; have y15 := Z15.out; omega) (by have h1 := LZ.out g hg; have y1 := Z1.out; have y2 := Z2.out; have y3 := Z3.out; have y4 := Z4.out; have y5 := Z5.out; have y6 := Z6.out; have y7 := Z7.out; have y8 := Z8.out; have y9 := Z9.out; have y10 := Z10.out; have y11 := Z11.out; have y12 := Z12.out; have y13 := Z13.out; have y14 := Z14.out; have y15 := Z15.out; omega)) (fun e => by have h1 := LZ.out g hg; have h2 := LP.out g e; have y1 := Z1.out; have y2 := Z2.out; have y3 := Z3.out; have y4 := Z4.out; have y5 := Z5.out; have y6 := Z6.out; have y7 := Z7.out; have y8 := Z8.out; have y9 := Z9.out; have y10 := Z10.out; have y11 := Z11.out; have y12 := Z12.out; have y13 := Z13.out; have y14 := Z14.out; have y15 := Z15.out; omega) (by have h1 := LZ.out g hg; have y1 := Z1.out; have y2 := Z2.out; have y3 := Z3.out; have y4 := Z4.out; have y5 := Z5.out; have y6 := Z6.out; have y7 := Z7.out; have y8 := Z8.out; have y9 := Z9.out; have y10 := Z10.out; have y11 := Z11.out; have y12 := Z12.out; have y13 := Z13.out; have y14 := Z14.out; have y15 := Z15.out; omega)) (fun e => by have h1 := LZ.out g hg; have h2 := LM.out g e; have y1 := Z1.out; have y2 := Z2.out; have y3 := Z3.out; have y4 := Z4.out; have y5 := Z5.out; have y6 := Z6.out; have y7 := Z7.out; have y8 := Z8.out; have y9 := Z9.out; have y10 := Z10.out; have y11 := Z11.out; have y12 := Z12.out; have y13 := Z13.out; have y14 := Z14.out; have y15 := Z15.out; omega) (by have h1 := LZ.out g hg; have y1 := Z1.out; have y2 := Z2.out; have y3 := Z3.out; have y4 := Z4.out; have y5 := Z5.out; have y6 := Z6.out; have y7 := Z7.out; have y8 := Z8.out; have y9 := Z9.out; have y10 := Z10.out; have y11 := Z11.out; have y12 := Z12.out; have y13 := Z13.out; have y14 := Z14.out; have y15 := Z15.out; omega)))).mono ?_
  rintro e w16 ⟨rfl, hik, hkk⟩
  have I16 : Hid (Ik w0.heap.size w15 w16) := hik
  replace IK : Hid (Ik w0.heap.size w w16) := IK.out.trans I16.out
  have Z16 : Hid (w15.heap.size ≤ w16.heap.size) := I16.out.below.size
  replace HB : Hid (Below w0.heap.size w0 w16) := HB.out.trans I16.out.below
  replace HK : Hid (Kept w0.heap.size w16 k (S2 (S2 (S2 (S2 (fun g => g < w.heap.size) (.slice so sn sc) w9.heap.size) (.slice po pn pc) w11.heap.size) (.slice mo mn mc) w13.heap.size) (.slice zo zn zc) w15.heap.size)) := hkk
  replace HC : Hid (Out w.heap.size w16 (.slice (some ⟨gc, 0, none⟩) (n + 3) cc) (n + 3) (lentD a n)) := HC.out.ik I16.out
  replace HD : Hid (Out w1.heap.size w16 (.slice (some ⟨gd, 0, none⟩) (0 + 3) cd) (0 + 3) (lentD b 0)) := HD.out.ik I16.out
  replace HSs : Hid (FitA w3.heap.size w16 (val a n + val b 0) (.slice so sn sc) es) := HSs.out.ik I16.out
  replace HSm : Hid (An w4.heap.size w16 (.slice mo mn mc) (val a n - val b 0)) := HSm.out.ik I16.out
  replace HSp : Hid (FitA w5.heap.size w16 (val a n * val b 0) (.slice po pn pc) ep) := HSp.out.ik I16.out
  replace HSz : Hid (An w6.heap.size w16 (.slice zo zn zc) (Int.gcd (val a n) (val b 0) : Int)) := HSz.out.ik I16.out
  clear hik hkk HW HWS
  have HX : Hid (RowX gc w16 ao n ca a) := RowX.of0 HRA.out HB.out (by have h1 := LC.out; have h0 := HS0.out; omega)
  go_wp2_with fail
  refine (back_any HC.out HX.out (HRA.out.stays HB.out (Nat.le_refl _)) (by omega)).mono ?_
  rintro e wa ⟨rfl, hwr⟩
  have HWa : Hid (Wr gc w16 wa) := hwr
  clear hwr HX
  have HBa : Hid (Below w0.heap.size w0 wa) := HWa.out.below HB.out HB.out.size (by have h1 := LC.out; have h0 := HS0.out; omega)
  have HKa : Hid (Kept w0.heap.size wa k (S2 (S2 (S2 (S2 (fun g => g < w.heap.size) (.slice so sn sc) w9.heap.size) (.slice po pn pc) w11.heap.size) (.slice mo mn mc) w13.heap.size) (.slice zo zn zc) w15.heap.size)) := by
    obtain ⟨cur, z, ht⟩ := HC.out.typed (g := gc) rfl
    exact HK.out.wr HWa.out (notS2 (notS2 (notS2 (notS2 (fun (h : gc < w.heap.size) => by have h1 := LC.out; omega) (fun e => by have h1 := LC.out; have h2 := LS.out _ e; have y1 := Z1.out; have y2 := Z2.out; have y3 := Z3.out; have y4 := Z4.out; have y5 := Z5.out; have y6 := Z6.out; have y7 := Z7.out; have y8 := Z8.out; have y9 := Z9.out; have y10 := Z10.out; have y11 := Z11.out; have y12 := Z12.out; have y13 := Z13.out; have y14 := Z14.out; have y15 := Z15.out; have y16 := Z16.out; omega) (by have h1 := LC.out; have y1 := Z1.out; have y2 := Z2.out; have y3 := Z3.out; have y4 := Z4.out; have y5 := Z5.out; have y6 := Z6.out; have y7 := Z7.out; have y8 := Z8.out; have y9 := Z9.out; have y10 := Z10.out; have y11 := Z11.out; have y12 := Z12.out; have y13 := Z13.out; have y14 := Z14.out; have y15 := Z15.out; have y16 := Z16.out; omega)) (fun e => by have h1 := LC.out; have h2 := LP.out _ e; have y1 := Z1.out; have y2 := Z2.out; have y3 := Z3.out; have y4 := Z4.out; have y5 := Z5.out; have y6 := Z6.out; have y7 := Z7.out; have y8 := Z8.out; have y9 := Z9.out; have y10 := Z10.out; have y11 := Z11.out; have y12 := Z12.out; have y13 := Z13.out; have y14 := Z14.out; have y15 := Z15.out; have y16 := Z16.out; omega) (by have h1 := LC.out; have y1 := Z1.out; have y2 := Z2.out; have y3 := Z3.out; have y4 := Z4.out; have y5 := Z5.out; have y6 := Z6.out; have y7 := Z7.out; have y8 := Z8.out; have y9 := Z9.out; have y10 := Z10.out; have y11 := Z11.out; have y12 := Z12.out; have y13 := Z13.out; have y14 := Z14.out; have y15 := Z15.out; have y16 := Z16.out; omega)) (fun e => by have h1 := LC.out; have h2 := LM.out _ e; have y1 := Z1.out; have y2 := Z2.out; have y3 := Z3.out; have y4 := Z4.out; have y5 := Z5.out; have y6 := Z6.out; have y7 := Z7.out; have y8 := Z8.out; have y9 := Z9.out; have y10 := Z10.out; have y11 := Z11.out; have y12 := Z12.out; have y13 := Z13.out; have y14 := Z14.out; have y15 := Z15.out; have y16 := Z16.out; omega) (by have h1 := LC.out; have y1 := Z1.out; have y2 := Z2.out; have y3 := Z3.out; have y4 := Z4.out; have y5 := Z5.out; have y6 := Z6.out; have y7 := Z7.out; have y8 := Z8.out; have y9 := Z9.out; have y10 := Z10.out; have y11 := Z11.out; have y12 := Z12.out; have y13 := Z13.out; have y14 := Z14.out; have y15 := Z15.out; have y16 := Z16.out; omega)) (fun e => by have h1 := LC.out; have h2 := LZ.out _ e; have y1 := Z1.out; have y2 := Z2.out; have y3 := Z3.out; have y4 := Z4.out; have y5 := Z5.out; have y6 := Z6.out; have y7 := Z7.out; have y8 := Z8.out; have y9 := Z9.out; have y10 := Z10.out; have y11 := Z11.out; have y12 := Z12.out; have y13 := Z13.out; have y14 := Z14.out; have y15 := Z15.out; have y16 := Z16.out; omega) (by have h1 := LC.out; have y1 := Z1.out; have y2 := Z2.out; have y3 := Z3.out; have y4 := Z4.out; have y5 := Z5.out; have y6 := Z6.out; have y7 := Z7.out; have y8 := Z8.out; have y9 := Z9.out; have y10 := Z10.out; have y11 := Z11.out; have y12 := Z12.out; have y13 := Z13.out; have y14 := Z14.out; have y15 := Z15.out; have y16 := Z16.out; omega)) ht
  have HDa : Hid (Out w1.heap.size wa (.slice (some ⟨gd, 0, none⟩) (0 + 3) cd) (0 + 3) (lentD b 0)) := by
    refine HD.out.of_block fun g hg => ?_
    have e : gd = g := by simpa [Value.ownBlock] using hg
    refine HWa.out.block g (HD.out.ge hg).2 ?_
    have h1 := LC.out; have h2 := LD.out; omega
  have HX : Hid (RowX gd wa bo 0 cb b) := RowX.of0 HRB.out HBa.out (by have h1 := LD.out; have h0 := HS0.out; have y1 := Z1.out; have y2 := Z2.out; have y3 := Z3.out; have y4 := Z4.out; have y5 := Z5.out; have y6 := Z6.out; have y7 := Z7.out; have y8 := Z8.out; have y9 := Z9.out; have y10 := Z10.out; have y11 := Z11.out; have y12 := Z12.out; have y13 := Z13.out; have y14 := Z14.out; have y15 := Z15.out; have y16 := Z16.out; omega)
  go_wp2_with fail
  refine (back_any HDa.out HX.out (HRB.out.stays HBa.out (Nat.le_refl _)) (by omega)).mono ?_
  rintro e wb ⟨rfl, hwr⟩
  have HWb : Hid (Wr gd wa wb) := hwr
  clear hwr HX
  have HBb : Hid (Below w0.heap.size w0 wb) := HWb.out.below HBa.out HBa.out.size (by have h1 := LD.out; have h0 := HS0.out; have y1 := Z1.out; have y2 := Z2.out; have y3 := Z3.out; have y4 := Z4.out; have y5 := Z5.out; have y6 := Z6.out; have y7 := Z7.out; have y8 := Z8.out; have y9 := Z9.out; have y10 := Z10.out; have y11 := Z11.out; have y12 := Z12.out; have y13 := Z13.out; have y14 := Z14.out; have y15 := Z15.out; have y16 := Z16.out; omega)
  have HKb : Hid (Kept w0.heap.size wb k (S2 (S2 (S2 (S2 (fun g => g < w.heap.size) (.slice so sn sc) w9.heap.size) (.slice po pn pc) w11.heap.size) (.slice mo mn mc) w13.heap.size) (.slice zo zn zc) w15.heap.size)) := by
    obtain ⟨cur, z, ht⟩ := HDa.out.typed (g := gd) rfl
    exact HKa.out.wr HWb.out (notS2 (notS2 (notS2 (notS2 (fun (h : gd < w.heap.size) => by have h1 := LD.out; have y1 := Z1.out; have y2 := Z2.out; have y3 := Z3.out; have y4 := Z4.out; have y5 := Z5.out; have y6 := Z6.out; have y7 := Z7.out; have y8 := Z8.out; have y9 := Z9.out; have y10 := Z10.out; have y11 := Z11.out; have y12 := Z12.out; have y13 := Z13.out; have y14 := Z14.out; have y15 := Z15.out; have y16 := Z16.out; omega) (fun e => by have h1 := LD.out; have h2 := LS.out _ e; have y1 := Z1.out; have y2 := Z2.out; have y3 := Z3.out; have y4 := Z4.out; have y5 := Z5.out; have y6 := Z6.out; have y7 := Z7.out; have y8 := Z8.out; have y9 := Z9.out; have y10 := Z10.out; have y11 := Z11.out; have y12 := Z12.out; have y13 := Z13.out; have y14 := Z14.out; have y15 := Z15.out; have y16 := Z16.out; omega) (by have h1 := LD.out; have y1 := Z1.out; have y2 := Z2.out; have y3 := Z3.out; have y4 := Z4.out; have y5 := Z5.out; have y6 := Z6.out; have y7 := Z7.out; have y8 := Z8.out; have y9 := Z9.out; have y10 := Z10.out; have y11 := Z11.out; have y12 := Z12.out; have y13 := Z13.out; have y14 := Z14.out; have y15 := Z15.out; have y16 := Z16.out; omega)) (fun e => by have h1 := LD.out; have h2 := LP.out _ e; have y1 := Z1.out; have y2 := Z2.out; have y3 := Z3.out; have y4 := Z4.out; have y5 := Z5.out; have y6 := Z6.out; have y7 := Z7.out; have y8 := Z8.out; have y9 := Z9.out; have y10 := Z10.out; have y11 := Z11.out; have y12 := Z12.out; have y13 := Z13.out; have y14 := Z14.out; have y15 := Z15.out; have y16 := Z16.out; omega) (by have h1 := LD.out; have y1 := Z1.out; have y2 := Z2.out; have y3 := Z3.out; have y4 := Z4.out; have y5 := Z5.out; have y6 := Z6.out; have y7 := Z7.out; have y8 := Z8.out; have y9 := Z9.out; have y10 := Z10.out; have y11 := Z11.out; have y12 := Z12.out; have y13 := Z13.out; have y14 := Z14.out; have y15 := Z15.out; have y16 := Z16.out; omega)) (fun e => by have h1 := LD.out; have h2 := LM.out _ e; have y1 := Z1.out; have y2 := Z2.out; have y3 := Z3.out; have y4 := Z4.out; have y5 := Z5.out; have y6 := Z6.out; have y7 := Z7.out; have y8 := Z8.out; have y9 := Z9.out; have y10 := Z10.out; have y11 := Z11.out; have y12 := Z12.out; have y13 := Z13.out; have y14 := Z14.out; have y15 := Z15.out; have y16 := Z16.out; omega) (by have h1 := LD.out; have y1 := Z1.out; have y2 := Z2.out; have y3 := Z3.out; have y4 := Z4.out; have y5 := Z5.out; have y6 := Z6.out; have y7 := Z7.out; have y8 := Z8.out; have y9 := Z9.out; have y10 := Z10.out; have y11 := Z11.out; have y12 := Z12.out; have y13 := Z13.out; have y14 := Z14.out; have y15 := Z15.out; have y16 := Z16.out; omega)) (fun e => by have h1 := LD.out; have h2 := LZ.out _ e; have y1 := Z1.out; have y2 := Z2.out; have y3 := Z3.out; have y4 := Z4.out; have y5 := Z5.out; have y6 := Z6.out; have y7 := Z7.out; have y8 := Z8.out; have y9 := Z9.out; have y10 := Z10.out; have y11 := Z11.out; have y12 := Z12.out; have y13 := Z13.out; have y14 := Z14.out; have y15 := Z15.out; have y16 := Z16.out; omega) (by have h1 := LD.out; have y1 := Z1.out; have y2 := Z2.out; have y3 := Z3.out; have y4 := Z4.out; have y5 := Z5.out; have y6 := Z6.out; have y7 := Z7.out; have y8 := Z8.out; have y9 := Z9.out; have y10 := Z10.out; have y11 := Z11.out; have y12 := Z12.out; have y13 := Z13.out; have y14 := Z14.out; have y15 := Z15.out; have y16 := Z16.out; omega)) ht
  go_wp2
  go_ret
  exact ⟨rfl, HBb.out, _, HKb.out, (IK.out.fr.wr HWa.out LC.out.1 IK.out.below.size).wr HWb.out (by have h1 := LD.out; have y1 := Z1.out; omega) (Nat.le_trans IK.out.below.size HWa.out.size)⟩
end Go.Proofs.YtmbajngbiefilaaGreatDoor

/-
  plumblaw2.two: for every two lists it answers true.
-/
namespace Go.Proofs.YtmbajngbiefilaaGreatDoor
open Go Go.RowKit Go.Proofs.YtmbajngbiefilaaGreatDoor.M
set_option linter.unusedSimpArgs false
set_option linter.unusedVariables false

theorem two_any {w0 : World} {ao bo : Option Addr} {n m ca cb : Nat} {a b : Nat → Int} (ra : Row w0 ao n ca a) (rb : Row w0 bo m cb b) (hn : n ≤ 2100) (hm : m ≤ 2100) (w : World) (hb0 : Below w0.heap.size w0 w) {k : Nat} {S : Nat → Prop} (hk : Kept w0.heap.size w k S) :
    Calls Tryz.prog 6 #[.pointer (some ⟨k, 0, none⟩), .slice ao n ca, .slice bo m cb] w fun e w' => e = .returned (.bool true) ∧ Below w0.heap.size w0 w' ∧ ∃ S', Kept w0.heap.size w' k S' ∧ Fr w w' := by
  cases hbad : (okB a n && okB b m) with
  | false => exact two_bad ra rb hn hm w hb0 hk hbad
  | true =>
    have oa : okB a n = true := by cases h : okB a n <;> simp_all
    have ob : okB b m = true := by cases h : okB b m <;> simp_all
    by_cases hm0 : m = 0
    · subst hm0
      exact two_nil ra rb hn w hb0 hk oa ob (show (0 : Int) ≤ _ from val_nonneg (okB_out oa).2.1)
    · by_cases h : val b m ≤ val a n
      · exact two_ge ra rb hn hm w hb0 hk oa ob h (by omega)
      · exact two_less ra rb hn hm w hb0 hk oa ob (by omega) (by omega)
end Go.Proofs.YtmbajngbiefilaaGreatDoor

/-
  Package nat: Shl, Pow, by contracts: for every number, every exponent.
-/
namespace Go.Proofs.YtmbajngbiefilaaGreatDoor
open Go Go.RowKit Go.Proofs.YtmbajngbiefilaaGreatDoor.M
set_option linter.unusedSimpArgs false
set_option linter.unusedVariables false

theorem P2000_two : P 2000 = 2 ^ 60000 := P_two 2000
theorem shl_long {A : Int} {k : Nat} (hA : 0 < A) (h : 60000 < k + blen A) : P 2000 ≤ A * 2 ^ k := by
  obtain ⟨c1, c2⟩ := blen_pos hA
  rw [P2000_two]
  have h1 : (2 : Int) ^ 60000 ≤ 2 ^ (blen A - 1 + k) := two_le (by omega)
  rw [Int.pow_add] at h1
  exact Int.le_trans h1 (Int.mul_le_mul_of_nonneg_right c2 (Int.le_of_lt (two_pos k)))
theorem shl_short {A : Int} {k : Nat} (h : k + blen A ≤ 60000) : A * 2 ^ k < P 2000 := by
  rw [P2000_two]
  have h1 : (2 : Int) ^ (blen A + k) ≤ 2 ^ 60000 := two_le (by omega)
  rw [Int.pow_add] at h1
  have h2 : A * 2 ^ k < 2 ^ blen A * 2 ^ k := Int.mul_lt_mul_of_pos_right (blen_lt A) (two_pos k)
  exact Int.lt_of_lt_of_le h2 h1
set_option maxRecDepth 100000 in
set_option maxHeartbeats 400000 in
theorem shl_num {w : World} {x : Value} {A : Int} (hx : Num w x A) (hA : A < P 2000) (k : Nat) (hk : k < 4611686018427387904 * 2) :
    Calls Tryz.prog 19 #[x, .int .i64 k] w fun e w' => ∃ v er, e = .returned (.tuple #[v, .int .i64 er]) ∧ Fit w w' (A * 2 ^ k) v er := by
  obtain ⟨ao, n, ca, d, rfl, hR, h2, rfl⟩ := hx
  have ok := Num.ok h2 hA
  have hn2 := (okB_out ok).1
  have HA : Hid (val d n < P 2000) := hA
  clear hA hk
  by_cases h0 : n = 0
  · subst h0
    have F : Fit w w (val d 0 * 2 ^ k) (.slice none 0 0) 0 := by
      have e : val d 0 * 2 ^ k = 0 := by show (0 : Int) * _ = 0; omega
      rw [e]; exact ⟨bel_refl _, .inl ⟨P_pos _, rfl, Ans.nil (bel_refl _)⟩⟩
    go_enter Tryz.func19, Tryz.ntmps19
    go_wp2_with fail
    refine (valid_any _ _ _ _ _ hR).mono ?_
    rintro e w' ⟨rfl, rfl⟩
    go_wp2
    go_ret2
    exact ⟨_, _, rfl, F⟩
  · have e0 : ((n : Int) == 0) = false := by simp; omega
    have hp := val_pos h2 (by omega)
    have hb1 : blen (val d n) ≤ 30 * n := blen_le (by rw [← P_two]; exact val_lt h2.1)
    by_cases hl : k + blen (val d n) ≤ 60000
    · have hs : Hid (val d n * 2 ^ k < P 2000) := shl_short hl
      have hsk : k ≤ 60000 := by omega
      have hc : decide ((60000 : Int) - (blen (val d n) : Int) < (k : Int)) = false := decide_eq_false (by omega)
      go_enter Tryz.func19, Tryz.ntmps19
      go_wp2_with fail
      refine (valid_any _ _ _ _ _ hR).mono ?_
      rintro e w' ⟨rfl, rfl⟩
      go_wp2_with fail
      refine (bitLength_any _ _ _ _ _ hR h2 (by omega)).mono ?_
      rintro e w' ⟨rfl, rfl⟩
      go_wp2_with fail
      refine (raise_any _ _ _ k d _ hR h2.1 (by omega) (by omega)).mono ?_
      rintro e w1 ⟨v, rfl, hv⟩
      go_wp2
      go_ret2
      exact ⟨_, _, rfl, hv.below, .inl ⟨hs.out, rfl, hv⟩⟩
    · have hs : Hid (P 2000 ≤ val d n * 2 ^ k) := shl_long hp (by omega)
      have hc : decide ((60000 : Int) - (blen (val d n) : Int) < (k : Int)) = true := decide_eq_true (by omega)
      go_enter Tryz.func19, Tryz.ntmps19
      go_wp2_with fail
      refine (valid_any _ _ _ _ _ hR).mono ?_
      rintro e w' ⟨rfl, rfl⟩
      go_wp2_with fail
      refine (bitLength_any _ _ _ _ _ hR h2 (by omega)).mono ?_
      rintro e w' ⟨rfl, rfl⟩
      go_wp2
      go_ret2
      exact ⟨_, _, rfl, bel_refl _, .inr ⟨hs.out, rfl, rfl⟩⟩

theorem row_drewN {w : World} {ao : Option Addr} {n cap : Nat} {d : Nat → Int} (h : Row w ao n cap d) {q : Nat} : Row (w.drewN q) ao n cap d := h.keeps (bDrewN (bel_refl _) _)
theorem power_zero (ao : Option Addr) (n ca : Nat) (w : World) : Calls Tryz.prog 55 #[.slice ao n ca, .int .i64 0] w fun e w' => ∃ v, e = .returned v ∧ Ans w w' 1 v := by
  have hb0 : blen 0 = 0 := blen_zero
  go_enter Tryz.func55, Tryz.ntmps55
  go_wp2
  refine wp_scope_straight ?_
  go_wp2_with fail
  refine (len_any _ _ (by omega) (by omega)).mono ?_
  rintro e w1 ⟨rfl, rfl⟩
  go_wp2
  go_step3
  go_wp2
  rw [Exit.noGoto_ret]
  go_ret
  exact ⟨_, rfl, ans_one w rfl⟩
theorem pow_small {A : Int} {k : Nat} (h0 : 0 ≤ A) (h1 : A < 2) (hk : 0 < k) : A ^ k = A := by
  rcases (show A = 0 ∨ A = 1 by omega) with rfl | rfl
  · exact Int.zero_pow (by omega)
  · exact Int.one_pow
theorem two_pow_pow (a b : Nat) : ((2 : Int) ^ a) ^ b = 2 ^ (a * b) := Int.pow_mul.symm
theorem pow_le_base {A B : Int} (h0 : 0 ≤ A) (h : A ≤ B) (k : Nat) : A ^ k ≤ B ^ k := by
  induction k with
  | zero => rw [Int.pow_zero, Int.pow_zero]; omega
  | succ k ih =>
    rw [Int.pow_succ, Int.pow_succ]
    exact Int.mul_le_mul ih h h0 (Int.pow_nonneg (by omega))
theorem pow_long {A : Int} {k L : Nat} (hL : 2 ^ (L - 1) ≤ A) (h : 59999 < (L - 1) * k) : P 2000 ≤ A ^ k := by
  rw [P2000_two]
  have h1 : (2 : Int) ^ 60000 ≤ 2 ^ ((L - 1) * k) := two_le (by omega)
  rw [← two_pow_pow] at h1
  exact Int.le_trans h1 (pow_le_base (Int.le_of_lt (two_pos _)) hL k)
theorem pow_fits {A : Int} {k L : Nat} (h0 : 0 ≤ A) (hL : A < 2 ^ L) (h1 : 2 ≤ L) (h : (L - 1) * k ≤ 59999) : A ^ k < P 5000 := by
  have hk : k ≤ 59999 := by
    have : 1 * k ≤ (L - 1) * k := Nat.mul_le_mul_right k (by omega)
    omega
  have h2 : L * k ≤ 119998 := by
    have : L * k = (L - 1) * k + k := by rw [← Nat.succ_mul]; congr 1; omega
    omega
  have h3 := pow_le_base h0 (Int.le_of_lt hL) k
  rw [two_pow_pow] at h3
  have h4 : (2 : Int) ^ (L * k) < 2 ^ 150000 := two_lt (by omega)
  rw [P_two]
  exact Int.lt_of_le_of_lt h3 h4
theorem clone_num {w : World} {ao : Option Addr} {n cap : Nat} {A : Int} (hx : Num w (.slice ao n cap) A) (hn : n ≤ 500000) :
    Calls Tryz.prog 54 #[.slice ao n cap] w fun e w' => ∃ v, e = .returned v ∧ Ans w w' A v := by
  obtain ⟨ao', n', ca', d, e1, hR, h2, rfl⟩ := hx
  simp only [Value.slice.injEq] at e1
  obtain ⟨rfl, rfl, rfl⟩ := e1
  refine (clone_any _ _ _ _ _ hR hn).mono ?_
  rintro e w' ⟨v, rfl, h1, hb⟩
  exact ⟨v, rfl, n, d, h1, h2, rfl, hb⟩
theorem fit_ans {w w1 : World} {V : Int} {v : Value} (h : Ans w w1 V v) :
    Calls Tryz.prog 47 #[v] w1 fun e w' => ∃ v' er, e = .returned (.tuple #[v', .int .i64 er]) ∧ Fit w w' V v' er := by
  obtain ⟨t, d, hO, hN, hV, hB⟩ := h
  obtain ⟨ao, cap, rfl, hR⟩ := hO.row
  refine (fit_any _ _ _ _).mono ?_
  rintro e w' ⟨rfl, rfl⟩
  exact ⟨_, _, rfl, Fit.of hO hN hV hB⟩
set_option maxRecDepth 100000 in
set_option maxHeartbeats 1000000 in
theorem pow_num {w : World} {x : Value} {A : Int} (hx : Num w x A) (hA : A < P 2000) (k : Nat) (hk : k < 4611686018427387904 * 2) :
    Calls Tryz.prog 21 #[x, .int .i64 k] w fun e w' => ∃ v er, e = .returned (.tuple #[v, .int .i64 er]) ∧ Fit w w' (A ^ k) v er := by
  have hx' := hx
  have hA0 := hx.nonneg
  obtain ⟨ao, n, ca, d, rfl, hR, h2, rfl⟩ := hx
  have ok := Num.ok h2 hA
  have hn2 := (okB_out ok).1
  have HA : Hid (val d n < P 2000) := hA
  have HK : Hid (k < 4611686018427387904 * 2) := hk
  have HA5 : Hid (val d n < P 5000) := Int.lt_of_lt_of_le hA (P_le (by decide))
  clear hA hk
  have hb1 : blen (val d n) ≤ 30 * n := blen_le (by rw [← P_two]; exact val_lt h2.1)
  have HBL : Hid (val d n < 2 ^ blen (val d n)) := blen_lt _
  by_cases hk0 : k = 0
  · subst hk0
    have F1 : ∀ w1 w2 v er, Fit w1 w2 1 v er → Fit w1 w2 (val d n ^ 0) v er := fun _ _ _ _ h => by rw [Int.pow_zero]; exact h
    go_enter Tryz.func21, Tryz.ntmps21
    go_wp2_with fail
    refine (valid_any _ _ _ _ _ hR).mono ?_
    rintro e w' ⟨rfl, rfl⟩
    go_wp2_with fail
    go_quiet (fail)
    have hb := bDrewN (bel_refl w') nq
    go_wp2_with fail
    refine (power_zero ao n ca _).mono ?_
    rintro e w2 ⟨v, rfl, hv⟩
    go_wp2_with fail
    refine (fit_ans (hv.from hb)).mono ?_
    rintro e w3 ⟨v', er, rfl, hF⟩
    go_wp2
    go_ret2
    exact ⟨_, _, rfl, F1 _ _ _ _ hF⟩
  · have hkp : decide ((0 : Int) < (k : Int)) = true := decide_eq_true (by omega)
    have hkp2 : (0 : Int) < (k : Int) := by omega
    have hkz : ((k : Int) == 0) = false := by simp; omega
    by_cases hs : blen (val d n) < 2
    · have HS : Hid (val d n ^ k = val d n) := pow_small hA0 (by
        have h1 := HBL.out
        have h3 : (2 : Int) ^ blen (val d n) ≤ 2 ^ 1 := two_le (by omega)
        omega) (by omega)
      have hc : decide (((blen (val d n) : Nat) : Int) < 2) = true := decide_eq_true (by omega)
      go_enter Tryz.func21, Tryz.ntmps21
      go_wp2_with fail
      refine (valid_any _ _ _ _ _ hR).mono ?_
      rintro e w' ⟨rfl, rfl⟩
      go_wp2_with fail
      refine (bitLength_any _ _ _ _ _ hR h2 (by omega)).mono ?_
      rintro e w' ⟨rfl, rfl⟩
      go_wp2_with fail
      refine (clone_num hx' (by omega)).mono ?_
      rintro e w1 ⟨v, rfl, hv⟩
      go_wp2
      go_ret2
      exact ⟨_, _, rfl, hv.below, .inl ⟨by rw [HS.out]; exact HA.out, rfl, by rw [HS.out]; exact hv⟩⟩
    · have hc : decide (((blen (val d n) : Nat) : Int) < 2) = false := decide_eq_false (by omega)
      have hA2 : 0 < val d n := by
        by_cases e : 0 < val d n
        · exact e
        · have : val d n = 0 := by omega
          rw [this, blen_zero] at hs
          omega
      have hq0 : 0 ≤ (59999 : Int) / k := Int.ediv_nonneg (by omega) (by omega)
      have hdiv : ∀ z : Int, z ≤ (59999 : Int) / k ↔ z * k ≤ 59999 := fun z => Int.le_ediv_iff_mul_le (by omega)
      by_cases hl : (59999 : Int) / k < ((blen (val d n) : Nat) : Int) - 1
      · have HL : Hid (P 2000 ≤ val d n ^ k) := by
          refine pow_long (L := blen (val d n)) (blen_pos hA2).2 ?_
          have h1 : ¬ (((blen (val d n) : Nat) : Int) - 1) * k ≤ 59999 := fun h => by have := (hdiv _).2 h; omega
          have h3 : ((((blen (val d n) - 1) * k : Nat)) : Int) = (((blen (val d n) : Nat) : Int) - 1) * k := by
            rw [Int.natCast_mul, Int.ofNat_sub (by omega)]; rfl
          omega
        have hl' : decide ((59999 : Int) / k < ((blen (val d n) : Nat) : Int) - 1) = true := decide_eq_true hl
        clear hdiv
        go_enter Tryz.func21, Tryz.ntmps21
        go_wp2_with fail
        refine (valid_any _ _ _ _ _ hR).mono ?_
        rintro e w' ⟨rfl, rfl⟩
        go_wp2_with fail
        refine (bitLength_any _ _ _ _ _ hR h2 (by omega)).mono ?_
        rintro e w' ⟨rfl, rfl⟩
        go_wp2_with fail
        go_quiet ((refine (bitLength_any _ _ _ _ _ (row_drewN hR) h2 (by omega)).mono ?_; rintro _ _ ⟨rfl, rfl⟩; exact ⟨rfl, _, rfl⟩))
        go_wp2
        go_ret2
        exact ⟨_, _, rfl, bDrewN (bel_refl _) _, .inr ⟨HL.out, rfl, rfl⟩⟩
      · have HL : Hid (val d n ^ k < P 5000) := by
          refine pow_fits (L := blen (val d n)) hA0 HBL.out (by omega) ?_
          have h1 := (hdiv (((blen (val d n) : Nat) : Int) - 1)).1 (by omega)
          have h3 : ((((blen (val d n) - 1) * k : Nat)) : Int) = (((blen (val d n) : Nat) : Int) - 1) * k := by
            rw [Int.natCast_mul, Int.ofNat_sub (by omega)]; rfl
          omega
        have hl' : decide ((59999 : Int) / k < ((blen (val d n) : Nat) : Int) - 1) = false := decide_eq_false hl
        clear hdiv
        go_enter Tryz.func21, Tryz.ntmps21
        go_wp2_with fail
        refine (valid_any _ _ _ _ _ hR).mono ?_
        rintro e w' ⟨rfl, rfl⟩
        go_wp2_with fail
        refine (bitLength_any _ _ _ _ _ hR h2 (by omega)).mono ?_
        rintro e w' ⟨rfl, rfl⟩
        go_wp2_with fail
        go_quiet ((refine (bitLength_any _ _ _ _ _ (row_drewN hR) h2 (by omega)).mono ?_; rintro _ _ ⟨rfl, rfl⟩; exact ⟨rfl, _, rfl⟩))
        have hb := bDrewN (bel_refl w') nq
        go_wp2_with fail
        refine (power_any ao n ca k _ _ (hx'.keeps hb) HK.out (by omega) HL.out HA5.out).mono ?_
        rintro e w2 ⟨v, rfl, hv⟩
        go_wp2_with fail
        refine (fit_ans (hv.from hb)).mono ?_
        rintro e w3 ⟨v', er, rfl, hF⟩
        go_wp2
        go_ret2
        exact ⟨_, _, rfl, hF⟩
end Go.Proofs.YtmbajngbiefilaaGreatDoor
