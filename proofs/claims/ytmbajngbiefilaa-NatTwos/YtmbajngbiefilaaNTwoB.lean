/-
  plumblaw2.two: for every two lists it answers true, what it keeps is kept, and it turns nothing that was there ahead of the law.
-/
import Derived.Test.YtmbajngbiefilaaNTwo0
namespace Go.Proofs.Ytmbajngbiefilaa
open Go Go.RowKit Go.Proofs.Ytmbajngbiefilaa.M
set_option linter.unusedSimpArgs false
set_option linter.unusedVariables false


set_option maxRecDepth 100000 in
set_option maxHeartbeats 4000000 in
theorem two_bad {w0 : World} {ao bo : Option Addr} {n m ca cb : Nat} {a b : Nat → Int} (ra : Row w0 ao n ca a) (rb : Row w0 bo m cb b) (hn : n ≤ 2100) (hm : m ≤ 2100) (w : World) (hb0 : Below w0.heap.size w0 w) {k : Nat} {S : Nat → Prop} (hk : Kept w0.heap.size w k S) (hbad : (okB a n && okB b m) = false) :
    Calls Try.prog 8 #[.pointer (some ⟨k, 0, none⟩), .slice ao n ca, .slice bo m cb] w fun e w' => e = .returned (.bool true) ∧ Below w0.heap.size w0 w' ∧ ∃ S', Kept w0.heap.size w' k S' ∧ Fr w w' := by
  have HS0 : Hid (w0.heap.size ≤ w.heap.size) := hb0.size
  have HRA : Hid (Row w0 ao n ca a) := ra
  have HRB : Hid (Row w0 bo m cb b) := rb
  have HB : Hid (Below w0.heap.size w0 w) := hb0
  have IK : Hid (Ik w0.heap.size w w) := Ik.refl _ _
  have HK : Hid (Kept w0.heap.size w k (fun g => g < w.heap.size)) := hk.old
  have hla := ra.le
  have hma := ra.max
  have hlb := rb.le
  have hmb := rb.max
  clear hb0 hk ra rb
  have htw : (if (okB a n && okB b m) = true then (0 : Int) else 11) = 11 := by rw [hbad]; rfl
  go_enter Try.func8, Try.ntmps8
  go_wp2_with fail
  refine (lent_any _ _ _ _ _ (HRA.out.stays HB.out (Nat.le_refl _)) (by omega)).mono ?_
  rintro e w1 ⟨vc, rfl, hLc⟩
  have B1 : Hid (Below w.heap.size w w1) := hLc.below
  have I1 : Hid (Ik w0.heap.size w w1) := Ik.of B1.out HB.out.size
  replace IK : Hid (Ik w0.heap.size w w1) := IK.out.trans I1.out
  have Z1 : Hid (w.heap.size ≤ w1.heap.size) := I1.out.below.size
  replace HB : Hid (Below w0.heap.size w0 w1) := HB.out.trans I1.out.below
  replace HK : Hid (Kept w0.heap.size w1 k (fun g => g < w.heap.size)) := HK.out.keeps B1.out
  obtain ⟨gc, cc, rfl, HLc0⟩ := hLc.parts
  have HC : Hid (Out w.heap.size w1 (.slice (some ⟨gc, 0, none⟩) (n + 3) cc) (n + 3) (lentD a n)) := HLc0
  have LC : Hid (w.heap.size ≤ gc ∧ gc < w1.heap.size) := HC.out.ge rfl
  have hcm := lent_cap HC.out
  clear hLc HLc0
  go_wp2_with fail
  refine (lent_any _ _ _ _ _ (HRB.out.stays HB.out (Nat.le_refl _)) (by omega)).mono ?_
  rintro e w2 ⟨vd, rfl, hLd⟩
  have B2 : Hid (Below w1.heap.size w1 w2) := hLd.below
  have I2 : Hid (Ik w0.heap.size w1 w2) := Ik.of B2.out HB.out.size
  replace IK : Hid (Ik w0.heap.size w w2) := IK.out.trans I2.out
  have Z2 : Hid (w1.heap.size ≤ w2.heap.size) := I2.out.below.size
  replace HB : Hid (Below w0.heap.size w0 w2) := HB.out.trans I2.out.below
  replace HK : Hid (Kept w0.heap.size w2 k (fun g => g < w.heap.size)) := HK.out.keeps B2.out
  replace HC : Hid (Out w.heap.size w2 (.slice (some ⟨gc, 0, none⟩) (n + 3) cc) (n + 3) (lentD a n)) := HC.out.ik I2.out
  obtain ⟨gd, cd, rfl, HLd0⟩ := hLd.parts
  have HD : Hid (Out w1.heap.size w2 (.slice (some ⟨gd, 0, none⟩) (m + 3) cd) (m + 3) (lentD b m)) := HLd0
  have LD : Hid (w1.heap.size ≤ gd ∧ gd < w2.heap.size) := HD.out.ge rfl
  have hdm := lent_cap HD.out
  clear hLd HLd0
  go_wp2_with fail
  refine (cmp_bad _ _ _ _ _ _ _ _ _ (lent_two HC.out HD.out) hbad).mono ?_
  rintro e w3 ⟨rfl, hw⟩
  replace hw := hw.symm
  subst hw
  go_wp2_with fail
  refine (add_bad _ _ _ _ _ _ _ _ _ (lent_two HC.out HD.out) hbad).mono ?_
  rintro e w3 ⟨rfl, hw⟩
  replace hw := hw.symm
  subst hw
  go_wp2_with fail
  refine (sub_bad _ _ _ _ _ _ _ _ _ (lent_two HC.out HD.out) hbad).mono ?_
  rintro e w3 ⟨rfl, hw⟩
  replace hw := hw.symm
  subst hw
  go_wp2_with fail
  refine (mul_bad _ _ _ _ _ _ _ _ _ (lent_two HC.out HD.out) hbad).mono ?_
  rintro e w3 ⟨rfl, hw⟩
  replace hw := hw.symm
  subst hw
  go_wp2_with fail
  refine (div_bad _ _ _ _ _ _ _ _ _ (lent_two HC.out HD.out) hbad).mono ?_
  rintro e w3 ⟨rfl, hw⟩
  replace hw := hw.symm
  subst hw
  go_wp2_with fail
  refine (gcd_bad _ _ _ _ _ _ _ _ _ (lent_two HC.out HD.out) hbad).mono ?_
  rintro e w3 ⟨rfl, hw⟩
  replace hw := hw.symm
  subst hw
  go_wp2_with fail
  refine (rtwo_any _ _ _ _ _ _ _ _ _ ⟨(HRA.out.stays HB.out (Nat.le_refl _)), (HRB.out.stays HB.out (Nat.le_refl _))⟩).mono ?_
  rintro e w3 ⟨rfl, hw⟩
  replace hw := hw.symm
  subst hw
  rw [htw]
  have HX : Hid (RowX gc w2 ao n ca a) := RowX.of0 HRA.out HB.out (by have h1 := LC.out; have h0 := HS0.out; omega)
  go_wp2_with fail
  refine (back_any HC.out HX.out (HRA.out.stays HB.out (Nat.le_refl _)) (by omega)).mono ?_
  rintro e wa ⟨rfl, hwr⟩
  have HWa : Hid (Wr gc w2 wa) := hwr
  clear hwr HX
  have HBa : Hid (Below w0.heap.size w0 wa) := HWa.out.below HB.out HB.out.size (by have h1 := LC.out; have h0 := HS0.out; omega)
  have HKa : Hid (Kept w0.heap.size wa k (fun g => g < w.heap.size)) := by
    obtain ⟨cur, z, ht⟩ := HC.out.typed (g := gc) rfl
    exact HK.out.wr HWa.out (fun (h : gc < w.heap.size) => by have h1 := LC.out; omega) ht
  have HDa : Hid (Out w1.heap.size wa (.slice (some ⟨gd, 0, none⟩) (m + 3) cd) (m + 3) (lentD b m)) := by
    refine HD.out.of_block fun g hg => ?_
    have e : gd = g := by simpa [Value.ownBlock] using hg
    refine HWa.out.block g (HD.out.ge hg).2 ?_
    have h1 := LC.out; have h2 := LD.out; omega
  have HX : Hid (RowX gd wa bo m cb b) := RowX.of0 HRB.out HBa.out (by have h1 := LD.out; have h0 := HS0.out; have y1 := Z1.out; have y2 := Z2.out; omega)
  go_wp2_with fail
  refine (back_any HDa.out HX.out (HRB.out.stays HBa.out (Nat.le_refl _)) (by omega)).mono ?_
  rintro e wb ⟨rfl, hwr⟩
  have HWb : Hid (Wr gd wa wb) := hwr
  clear hwr HX
  have HBb : Hid (Below w0.heap.size w0 wb) := HWb.out.below HBa.out HBa.out.size (by have h1 := LD.out; have h0 := HS0.out; have y1 := Z1.out; have y2 := Z2.out; omega)
  have HKb : Hid (Kept w0.heap.size wb k (fun g => g < w.heap.size)) := by
    obtain ⟨cur, z, ht⟩ := HDa.out.typed (g := gd) rfl
    exact HKa.out.wr HWb.out (fun (h : gd < w.heap.size) => by have h1 := LD.out; have y1 := Z1.out; have y2 := Z2.out; omega) ht
  go_wp2
  go_ret
  exact ⟨rfl, HBb.out, _, HKb.out, (IK.out.fr.wr HWa.out LC.out.1 IK.out.below.size).wr HWb.out (by have h1 := LD.out; have y1 := Z1.out; omega) (Nat.le_trans IK.out.below.size HWa.out.size)⟩
end Go.Proofs.Ytmbajngbiefilaa
