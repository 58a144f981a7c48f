/-
  Parts of the proof, one behind another.
-/
import Derived.Test.YtmbajngbiefilaaGreatDoorPart2
import Derived.Test.YtmbajngbiefilaaGreatDoorPart6
import Derived.Test.YtmbajngbiefilaaGreatDoorPart4
import Derived.Test.YtmbajngbiefilaaGreatDoorPart8
/-
  Package nat: Div, by its contract.
-/
namespace Go.Proofs.YtmbajngbiefilaaGreatDoor
open Go Go.RowKit Go.Proofs.YtmbajngbiefilaaGreatDoor.M
set_option linter.unusedSimpArgs false
set_option linter.unusedVariables false

set_option maxHeartbeats 400000 in
theorem div_yes (ao bo : Option Addr) (n m ca cb : Nat) (a b : Nat → Int) (w : World) (h : Two w ao bo n m ca cb a b) (oa : okB a n = true) (ob : okB b m = true) (hm : 0 < m) :
    Calls Tryz.prog 34 #[.slice ao n ca, .slice bo m cb] w fun e w' => ∃ v1 v2, e = .returned (.tuple #[v1, v2, .int .i64 0]) ∧ Ans2 w w' (val a n / val b m) v1 (val a n % val b m) v2 := by
  obtain ⟨la, na⟩ := okB_out oa
  obtain ⟨lb, nb⟩ := okB_out ob
  have hz : ((m : Int) == 0) = false := by simp; omega
  go_enter Tryz.func34, Tryz.ntmps34
  go_wp2_with fail
  refine (valid_any _ _ _ _ _ h.ra).mono ?_
  rintro e w' ⟨rfl, rfl⟩
  go_wp2_with fail
  refine (valid_any _ _ _ _ _ h.rb).mono ?_
  rintro e w' ⟨rfl, rfl⟩
  go_wp2_with fail
  refine (divide_any _ _ _ _ _ _ _ _ _ h.ra h.rb na nb (by omega) hm).mono ?_
  rintro e w1 ⟨v1, v2, rfl, hA⟩
  go_wp2
  go_ret3
  exact ⟨_, _, rfl, hA⟩
set_option maxHeartbeats 400000 in
theorem div_zero (ao bo : Option Addr) (n ca cb : Nat) (a b : Nat → Int) (w : World) (h : Two w ao bo n 0 ca cb a b) (oa : okB a n = true) (ob : okB b 0 = true) :
    Calls Tryz.prog 34 #[.slice ao n ca, .slice bo 0 cb] w fun e w' => e = .returned (.tuple #[.slice none 0 0, .slice none 0 0, .int .i64 12]) ∧ w' = w := by
  go_enter Tryz.func34, Tryz.ntmps34
  go_wp2_with fail
  refine (valid_any _ _ _ _ _ h.ra).mono ?_
  rintro e w' ⟨rfl, rfl⟩
  go_wp2_with fail
  refine (valid_any _ _ _ _ _ h.rb).mono ?_
  rintro e w' ⟨rfl, rfl⟩
  go_wp2
  go_ret3
  exact ⟨rfl, rfl⟩
theorem div_num {w : World} {x y : Value} {A B : Int} (hx : Num w x A) (hy : Num w y B) (hA : A < P 2000) (hB : B < P 2000) (h0 : 0 < B) :
    Calls Tryz.prog 34 #[x, y] w fun e w' => ∃ v1 v2, e = .returned (.tuple #[v1, v2, .int .i64 0]) ∧ Ans2 w w' (A / B) v1 (A % B) v2 := by
  obtain ⟨ao, n, ca, d, rfl, hR, h2, rfl⟩ := hx
  obtain ⟨bo, m, cb, e, rfl, kR, k2, rfl⟩ := hy
  have hm : 0 < m := by
    by_cases h : 0 < m
    · exact h
    · obtain rfl : m = 0 := by omega
      exact absurd h0 (Int.lt_irrefl 0)
  exact div_yes _ _ _ _ _ _ _ _ _ ⟨hR, kR⟩ (Num.ok h2 hA) (Num.ok k2 hB) hm
end Go.Proofs.YtmbajngbiefilaaGreatDoor

/-
  plumblaw2.two: small things ahead of its walk.
-/
namespace Go.Proofs.YtmbajngbiefilaaGreatDoor
open Go Go.RowKit Go.Proofs.YtmbajngbiefilaaGreatDoor.M
set_option linter.unusedSimpArgs false
set_option linter.unusedVariables false

theorem gcd_lt {A B X : Int} (h0 : 0 ≤ A) (hA : A < X) (k0 : 0 ≤ B) (hB : B < X) : (Int.gcd A B : Int) < X := by
  by_cases h : B = 0
  · subst h; rw [Int.gcd_zero_right]; omega
  · have := Int.le_of_dvd (by omega) (Int.gcd_dvd_right A B)
    omega
theorem notS2 {S : Nat → Prop} {l : Value} {s g : Nat} (h1 : ¬ S g) (h2 : l.ownBlock = some g → False) (h3 : g < s) : ¬ S2 S l s g := fun h => by
  rcases h with h | h | h
  · exact h1 h
  · exact h2 h
  · omega
/-- Where a value lies: in a block from x on, below y. -/
def Lies (v : Value) (x y : Nat) : Prop := ∀ g, v.ownBlock = some g → x ≤ g ∧ g < y
end Go.Proofs.YtmbajngbiefilaaGreatDoor

/-
  plumblaw2.two: for every two lists it answers true, what it keeps is kept, and it turns nothing that was there ahead of the law.
-/
namespace Go.Proofs.YtmbajngbiefilaaGreatDoor
open Go Go.RowKit Go.Proofs.YtmbajngbiefilaaGreatDoor.M
set_option linter.unusedSimpArgs false
set_option linter.unusedVariables false


set_option maxRecDepth 100000 in
set_option maxHeartbeats 4000000 in
theorem two_bad {w0 : World} {ao bo : Option Addr} {n m ca cb : Nat} {a b : Nat → Int} (ra : Row w0 ao n ca a) (rb : Row w0 bo m cb b) (hn : n ≤ 2100) (hm : m ≤ 2100) (w : World) (hb0 : Below w0.heap.size w0 w) {k : Nat} {S : Nat → Prop} (hk : Kept w0.heap.size w k S) (hbad : (okB a n && okB b m) = false) :
    Calls Tryz.prog 6 #[.pointer (some ⟨k, 0, none⟩), .slice ao n ca, .slice bo m cb] w fun e w' => e = .returned (.bool true) ∧ Below w0.heap.size w0 w' ∧ ∃ S', Kept w0.heap.size w' k S' ∧ Fr w w' := by
  have HS0 : Hid (w0.heap.size ≤ w.heap.size) := hb0.size
  have HRA : Hid (Row w0 ao n ca a) := ra
  have HRB : Hid (Row w0 bo m cb b) := rb
  have HB : Hid (Below w0.heap.size w0 w) := hb0
  have IK : Hid (Ik w0.heap.size w w) := Ik.refl _ _
  have HK : Hid (Kept w0.heap.size w k (fun g => g < w.heap.size)) := hk.old
  have hla := ra.le
  have hma := ra.max
  have hlb := rb.le
  have hmb := rb.max
  clear hb0 hk ra rb
  have htw : (if (okB a n && okB b m) = true then (0 : Int) else 11) = 11 := by rw [hbad]; rfl
  go_enter Tryz.func6, Tryz.ntmps6
  go_wp2_with fail
  refine (lent_any _ _ _ _ _ (HRA.out.stays HB.out (Nat.le_refl _)) (by omega)).mono ?_
  rintro e w1 ⟨vc, rfl, hLc⟩
  have B1 : Hid (Below w.heap.size w w1) := hLc.below
  have I1 : Hid (Ik w0.heap.size w w1) := Ik.of B1.out HB.out.size
  replace IK : Hid (Ik w0.heap.size w w1) := IK.out.trans I1.out
  have Z1 : Hid (w.heap.size ≤ w1.heap.size) := I1.out.below.size
  replace HB : Hid (Below w0.heap.size w0 w1) := HB.out.trans I1.out.below
  replace HK : Hid (Kept w0.heap.size w1 k (fun g => g < w.heap.size)) := HK.out.keeps B1.out
  obtain ⟨gc, cc, rfl, HLc0⟩ := hLc.parts
  have HC : Hid (Out w.heap.size w1 (.slice (some ⟨gc, 0, none⟩) (n + 3) cc) (n + 3) (lentD a n)) := HLc0
  have LC : Hid (w.heap.size ≤ gc ∧ gc < w1.heap.size) := HC.out.ge rfl
  have hcm := lent_cap HC.out
  clear hLc HLc0
  go_wp2_with fail
  refine (lent_any _ _ _ _ _ (HRB.out.stays HB.out (Nat.le_refl _)) (by omega)).mono ?_
  rintro e w2 ⟨vd, rfl, hLd⟩
  have B2 : Hid (Below w1.heap.size w1 w2) := hLd.below
  have I2 : Hid (Ik w0.heap.size w1 w2) := Ik.of B2.out HB.out.size
  replace IK : Hid (Ik w0.heap.size w w2) := IK.out.trans I2.out
  have Z2 : Hid (w1.heap.size ≤ w2.heap.size) := I2.out.below.size
  replace HB : Hid (Below w0.heap.size w0 w2) := HB.out.trans I2.out.below
  replace HK : Hid (Kept w0.heap.size w2 k (fun g => g < w.heap.size)) := HK.out.keeps B2.out
  replace HC : Hid (Out w.heap.size w2 (.slice (some ⟨gc, 0, none⟩) (n + 3) cc) (n + 3) (lentD a n)) := HC.out.ik I2.out
  obtain ⟨gd, cd, rfl, HLd0⟩ := hLd.parts
  have HD : Hid (Out w1.heap.size w2 (.slice (some ⟨gd, 0, none⟩) (m + 3) cd) (m + 3) (lentD b m)) := HLd0
  have LD : Hid (w1.heap.size ≤ gd ∧ gd < w2.heap.size) := HD.out.ge rfl
  have hdm := lent_cap HD.out
  clear hLd HLd0
  go_wp2_with fail
  refine (cmp_bad _ _ _ _ _ _ _ _ _ (lent_two HC.out HD.out) hbad).mono ?_
  rintro e w3 ⟨rfl, hw⟩
  replace hw := hw.symm
  subst hw
  go_wp2_with fail
  refine (add_bad _ _ _ _ _ _ _ _ _ (lent_two HC.out HD.out) hbad).mono ?_
  rintro e w3 ⟨rfl, hw⟩
  replace hw := hw.symm
  subst hw
  go_wp2_with fail
  refine (sub_bad _ _ _ _ _ _ _ _ _ (lent_two HC.out HD.out) hbad).mono ?_
  rintro e w3 ⟨rfl, hw⟩
  replace hw := hw.symm
  subst hw
  go_wp2_with fail
  refine (mul_bad _ _ _ _ _ _ _ _ _ (lent_two HC.out HD.out) hbad).mono ?_
  rintro e w3 ⟨rfl, hw⟩
  replace hw := hw.symm
  subst hw
  go_wp2_with fail
  refine (div_bad _ _ _ _ _ _ _ _ _ (lent_two HC.out HD.out) hbad).mono ?_
  rintro e w3 ⟨rfl, hw⟩
  replace hw := hw.symm
  subst hw
  go_wp2_with fail
  refine (gcd_bad _ _ _ _ _ _ _ _ _ (lent_two HC.out HD.out) hbad).mono ?_
  rintro e w3 ⟨rfl, hw⟩
  replace hw := hw.symm
  subst hw
  go_wp2_with fail
  refine (rtwo_any _ _ _ _ _ _ _ _ _ ⟨(HRA.out.stays HB.out (Nat.le_refl _)), (HRB.out.stays HB.out (Nat.le_refl _))⟩).mono ?_
  rintro e w3 ⟨rfl, hw⟩
  replace hw := hw.symm
  subst hw
  rw [htw]
  have HX : Hid (RowX gc w2 ao n ca a) := RowX.of0 HRA.out HB.out (by have h1 := LC.out; have h0 := HS0.out; omega)
  go_wp2_with fail
  refine (back_any HC.out HX.out (HRA.out.stays HB.out (Nat.le_refl _)) (by omega)).mono ?_
  rintro e wa ⟨rfl, hwr⟩
  have HWa : Hid (Wr gc w2 wa) := hwr
  clear hwr HX
  have HBa : Hid (Below w0.heap.size w0 wa) := HWa.out.below HB.out HB.out.size (by have h1 := LC.out; have h0 := HS0.out; omega)
  have HKa : Hid (Kept w0.heap.size wa k (fun g => g < w.heap.size)) := by
    obtain ⟨cur, z, ht⟩ := HC.out.typed (g := gc) rfl
    exact HK.out.wr HWa.out (fun (h : gc < w.heap.size) => by have h1 := LC.out; omega) ht
  have HDa : Hid (Out w1.heap.size wa (.slice (some ⟨gd, 0, none⟩) (m + 3) cd) (m + 3) (lentD b m)) := by
    refine HD.out.of_block fun g hg => ?_
    have e : gd = g := by simpa [Value.ownBlock] using hg
    refine HWa.out.block g (HD.out.ge hg).2 ?_
    have h1 := LC.out; have h2 := LD.out; omega
  have HX : Hid (RowX gd wa bo m cb b) := RowX.of0 HRB.out HBa.out (by have h1 := LD.out; have h0 := HS0.out; have y1 := Z1.out; have y2 := Z2.out; omega)
  go_wp2_with fail
  refine (back_any HDa.out HX.out (HRB.out.stays HBa.out (Nat.le_refl _)) (by omega)).mono ?_
  rintro e wb ⟨rfl, hwr⟩
  have HWb : Hid (Wr gd wa wb) := hwr
  clear hwr HX
  have HBb : Hid (Below w0.heap.size w0 wb) := HWb.out.below HBa.out HBa.out.size (by have h1 := LD.out; have h0 := HS0.out; have y1 := Z1.out; have y2 := Z2.out; omega)
  have HKb : Hid (Kept w0.heap.size wb k (fun g => g < w.heap.size)) := by
    obtain ⟨cur, z, ht⟩ := HDa.out.typed (g := gd) rfl
    exact HKa.out.wr HWb.out (fun (h : gd < w.heap.size) => by have h1 := LD.out; have y1 := Z1.out; have y2 := Z2.out; omega) ht
  go_wp2
  go_ret
  exact ⟨rfl, HBb.out, _, HKb.out, (IK.out.fr.wr HWa.out LC.out.1 IK.out.below.size).wr HWb.out (by have h1 := LD.out; have y1 := Z1.out; omega) (Nat.le_trans IK.out.below.size HWa.out.size)⟩
end Go.Proofs.YtmbajngbiefilaaGreatDoor

/-
  plumblaw2.two: for every two lists it answers true, what it keeps is kept, and it turns nothing that was there ahead of the law.
-/
namespace Go.Proofs.YtmbajngbiefilaaGreatDoor
open Go Go.RowKit Go.Proofs.YtmbajngbiefilaaGreatDoor.M
set_option linter.unusedSimpArgs false
set_option linter.unusedVariables false


set_option maxRecDepth 100000 in
set_option maxHeartbeats 4000000 in
theorem two_less {w0 : World} {ao bo : Option Addr} {n m ca cb : Nat} {a b : Nat → Int} (ra : Row w0 ao n ca a) (rb : Row w0 bo m cb b) (hn : n ≤ 2100) (hm : m ≤ 2100) (w : World) (hb0 : Below w0.heap.size w0 w) {k : Nat} {S : Nat → Prop} (hk : Kept w0.heap.size w k S) (oa : okB a n = true) (ob : okB b m = true) (hlt : val a n < val b m) (hm0 : 0 < m) :
    Calls Tryz.prog 6 #[.pointer (some ⟨k, 0, none⟩), .slice ao n ca, .slice bo m cb] w fun e w' => e = .returned (.bool true) ∧ Below w0.heap.size w0 w' ∧ ∃ S', Kept w0.heap.size w' k S' ∧ Fr w w' := by
  have HS0 : Hid (w0.heap.size ≤ w.heap.size) := hb0.size
  have HRA : Hid (Row w0 ao n ca a) := ra
  have HRB : Hid (Row w0 bo m cb b) := rb
  have HB : Hid (Below w0.heap.size w0 w) := hb0
  have IK : Hid (Ik w0.heap.size w w) := Ik.refl _ _
  have HK : Hid (Kept w0.heap.size w k (fun g => g < w.heap.size)) := hk.old
  have hla := ra.le
  have hma := ra.max
  have hlb := rb.le
  have hmb := rb.max
  clear hb0 hk ra rb
  obtain ⟨la, na⟩ := okB_out oa
  obtain ⟨lb, nb⟩ := okB_out ob
  have HNA : Hid (Nrm a n) := na
  have HNB : Hid (Nrm b m) := nb
  have HA0 : Hid (0 ≤ val a n) := val_nonneg na.1
  have HB0 : Hid (0 ≤ val b m) := val_nonneg nb.1
  have HA2 : Hid (val a n < P 2000) := Int.lt_of_lt_of_le (val_lt na.1) (P_le la)
  have HB2 : Hid (val b m < P 2000) := Int.lt_of_lt_of_le (val_lt nb.1) (P_le lb)
  have HG2 : Hid ((Int.gcd (val a n) (val b m) : Int) < P 2000) := gcd_lt HA0.out HA2.out HB0.out HB2.out
  have htw : (if (okB a n && okB b m) = true then (0 : Int) else 11) = 0 := by rw [oa, ob]; rfl
  have hoo : (ord (val a n) (val b m) != ord (val a n) (val b m)) = false := by simp
  clear na nb
  have HLT : Hid (val a n < val b m) := hlt
  have ho1 : decide (ord (val a n) (val b m) < 0) = true := decide_eq_true (by rw [ord_lt hlt]; decide)
  have ho2 : decide (0 ≤ ord (val a n) (val b m)) = false := decide_eq_false (by rw [ord_lt hlt]; decide)
  clear hlt
  have HBP : Hid (0 < val b m) := val_pos HNB.out hm0
  have HQ2 : Hid (val a n / val b m < P 2000) := Int.lt_of_le_of_lt (Int.ediv_le_self _ HA0.out) HA2.out
  have HR2 : Hid (val a n % val b m < P 2000) := Int.lt_trans (Int.emod_lt_of_pos _ HBP.out) HB2.out
  have em : ((m : Int) == 0) = false := by simp; omega
  go_enter Tryz.func6, Tryz.ntmps6
  go_wp2_with fail
  refine (lent_any _ _ _ _ _ (HRA.out.stays HB.out (Nat.le_refl _)) (by omega)).mono ?_
  rintro e w1 ⟨vc, rfl, hLc⟩
  have B1 : Hid (Below w.heap.size w w1) := hLc.below
  have I1 : Hid (Ik w0.heap.size w w1) := Ik.of B1.out HB.out.size
  replace IK : Hid (Ik w0.heap.size w w1) := IK.out.trans I1.out
  have Z1 : Hid (w.heap.size ≤ w1.heap.size) := I1.out.below.size
  replace HB : Hid (Below w0.heap.size w0 w1) := HB.out.trans I1.out.below
  replace HK : Hid (Kept w0.heap.size w1 k (fun g => g < w.heap.size)) := HK.out.keeps B1.out
  obtain ⟨gc, cc, rfl, HLc0⟩ := hLc.parts
  have HC : Hid (Out w.heap.size w1 (.slice (some ⟨gc, 0, none⟩) (n + 3) cc) (n + 3) (lentD a n)) := HLc0
  have LC : Hid (w.heap.size ≤ gc ∧ gc < w1.heap.size) := HC.out.ge rfl
  have hcm := lent_cap HC.out
  clear hLc HLc0
  go_wp2_with fail
  refine (lent_any _ _ _ _ _ (HRB.out.stays HB.out (Nat.le_refl _)) (by omega)).mono ?_
  rintro e w2 ⟨vd, rfl, hLd⟩
  have B2 : Hid (Below w1.heap.size w1 w2) := hLd.below
  have I2 : Hid (Ik w0.heap.size w1 w2) := Ik.of B2.out HB.out.size
  replace IK : Hid (Ik w0.heap.size w w2) := IK.out.trans I2.out
  have Z2 : Hid (w1.heap.size ≤ w2.heap.size) := I2.out.below.size
  replace HB : Hid (Below w0.heap.size w0 w2) := HB.out.trans I2.out.below
  replace HK : Hid (Kept w0.heap.size w2 k (fun g => g < w.heap.size)) := HK.out.keeps B2.out
  replace HC : Hid (Out w.heap.size w2 (.slice (some ⟨gc, 0, none⟩) (n + 3) cc) (n + 3) (lentD a n)) := HC.out.ik I2.out
  obtain ⟨gd, cd, rfl, HLd0⟩ := hLd.parts
  have HD : Hid (Out w1.heap.size w2 (.slice (some ⟨gd, 0, none⟩) (m + 3) cd) (m + 3) (lentD b m)) := HLd0
  have LD : Hid (w1.heap.size ≤ gd ∧ gd < w2.heap.size) := HD.out.ge rfl
  have hdm := lent_cap HD.out
  clear hLd HLd0
  go_wp2_with fail
  refine (cmp_yes _ _ _ _ _ _ _ _ _ (lent_two HC.out HD.out) oa ob).mono ?_
  rintro e w3 ⟨rfl, hbx⟩
  have B3 : Hid (Below w2.heap.size w2 w3) := hbx
  have I3 : Hid (Ik w0.heap.size w2 w3) := Ik.of B3.out HB.out.size
  replace IK : Hid (Ik w0.heap.size w w3) := IK.out.trans I3.out
  have Z3 : Hid (w2.heap.size ≤ w3.heap.size) := I3.out.below.size
  replace HB : Hid (Below w0.heap.size w0 w3) := HB.out.trans I3.out.below
  replace HK : Hid (Kept w0.heap.size w3 k (fun g => g < w.heap.size)) := HK.out.keeps B3.out
  replace HC : Hid (Out w.heap.size w3 (.slice (some ⟨gc, 0, none⟩) (n + 3) cc) (n + 3) (lentD a n)) := HC.out.ik I3.out
  replace HD : Hid (Out w1.heap.size w3 (.slice (some ⟨gd, 0, none⟩) (m + 3) cd) (m + 3) (lentD b m)) := HD.out.ik I3.out
  clear hbx
  go_wp2_with fail
  refine (add_yes _ _ _ _ _ _ _ _ _ (lent_two HC.out HD.out) oa ob).mono ?_
  rintro e w4 ⟨vs, es, rfl, hF⟩
  have B4 : Hid (Below w3.heap.size w3 w4) := hF.1
  have I4 : Hid (Ik w0.heap.size w3 w4) := Ik.of B4.out HB.out.size
  replace IK : Hid (Ik w0.heap.size w w4) := IK.out.trans I4.out
  have Z4 : Hid (w3.heap.size ≤ w4.heap.size) := I4.out.below.size
  replace HB : Hid (Below w0.heap.size w0 w4) := HB.out.trans I4.out.below
  replace HK : Hid (Kept w0.heap.size w4 k (fun g => g < w.heap.size)) := HK.out.keeps B4.out
  replace HC : Hid (Out w.heap.size w4 (.slice (some ⟨gc, 0, none⟩) (n + 3) cc) (n + 3) (lentD a n)) := HC.out.ik I4.out
  replace HD : Hid (Out w1.heap.size w4 (.slice (some ⟨gd, 0, none⟩) (m + 3) cd) (m + 3) (lentD b m)) := HD.out.ik I4.out
  have HSs : Hid (FitA w3.heap.size w4 (val a n + val b m) vs es) := hF.fitA
  clear hF
  have LS : Hid (Lies vs w3.heap.size w4.heap.size) := fun g hg => HSs.out.ge hg
  obtain ⟨so, sn, sc, rfl⟩ := HSs.out.shape
  go_wp2_with fail
  refine (sub_no _ _ _ _ _ _ _ _ _ (lent_two HC.out HD.out) oa ob HLT.out).mono ?_
  rintro e w5 ⟨rfl, hbx⟩
  have B5 : Hid (Below w4.heap.size w4 w5) := hbx
  have I5 : Hid (Ik w0.heap.size w4 w5) := Ik.of B5.out HB.out.size
  replace IK : Hid (Ik w0.heap.size w w5) := IK.out.trans I5.out
  have Z5 : Hid (w4.heap.size ≤ w5.heap.size) := I5.out.below.size
  replace HB : Hid (Below w0.heap.size w0 w5) := HB.out.trans I5.out.below
  replace HK : Hid (Kept w0.heap.size w5 k (fun g => g < w.heap.size)) := HK.out.keeps B5.out
  replace HC : Hid (Out w.heap.size w5 (.slice (some ⟨gc, 0, none⟩) (n + 3) cc) (n + 3) (lentD a n)) := HC.out.ik I5.out
  replace HD : Hid (Out w1.heap.size w5 (.slice (some ⟨gd, 0, none⟩) (m + 3) cd) (m + 3) (lentD b m)) := HD.out.ik I5.out
  replace HSs : Hid (FitA w3.heap.size w5 (val a n + val b m) (.slice so sn sc) es) := HSs.out.ik I5.out
  clear hbx
  go_wp2_with fail
  refine (mul_yes _ _ _ _ _ _ _ _ _ (lent_two HC.out HD.out) oa ob).mono ?_
  rintro e w6 ⟨vp, ep, rfl, hF⟩
  have B6 : Hid (Below w5.heap.size w5 w6) := hF.1
  have I6 : Hid (Ik w0.heap.size w5 w6) := Ik.of B6.out HB.out.size
  replace IK : Hid (Ik w0.heap.size w w6) := IK.out.trans I6.out
  have Z6 : Hid (w5.heap.size ≤ w6.heap.size) := I6.out.below.size
  replace HB : Hid (Below w0.heap.size w0 w6) := HB.out.trans I6.out.below
  replace HK : Hid (Kept w0.heap.size w6 k (fun g => g < w.heap.size)) := HK.out.keeps B6.out
  replace HC : Hid (Out w.heap.size w6 (.slice (some ⟨gc, 0, none⟩) (n + 3) cc) (n + 3) (lentD a n)) := HC.out.ik I6.out
  replace HD : Hid (Out w1.heap.size w6 (.slice (some ⟨gd, 0, none⟩) (m + 3) cd) (m + 3) (lentD b m)) := HD.out.ik I6.out
  replace HSs : Hid (FitA w3.heap.size w6 (val a n + val b m) (.slice so sn sc) es) := HSs.out.ik I6.out
  have HSp : Hid (FitA w5.heap.size w6 (val a n * val b m) vp ep) := hF.fitA
  clear hF
  have LP : Hid (Lies vp w5.heap.size w6.heap.size) := fun g hg => HSp.out.ge hg
  obtain ⟨po, pn, pc, rfl⟩ := HSp.out.shape
  go_wp2_with fail
  refine (div_yes _ _ _ _ _ _ _ _ _ (lent_two HC.out HD.out) oa ob hm0).mono ?_
  rintro e w7 ⟨vq, vr, rfl, hF⟩
  have B7 : Hid (Below w6.heap.size w6 w7) := hF.1.below
  have I7 : Hid (Ik w0.heap.size w6 w7) := Ik.of B7.out HB.out.size
  replace IK : Hid (Ik w0.heap.size w w7) := IK.out.trans I7.out
  have Z7 : Hid (w6.heap.size ≤ w7.heap.size) := I7.out.below.size
  replace HB : Hid (Below w0.heap.size w0 w7) := HB.out.trans I7.out.below
  replace HK : Hid (Kept w0.heap.size w7 k (fun g => g < w.heap.size)) := HK.out.keeps B7.out
  replace HC : Hid (Out w.heap.size w7 (.slice (some ⟨gc, 0, none⟩) (n + 3) cc) (n + 3) (lentD a n)) := HC.out.ik I7.out
  replace HD : Hid (Out w1.heap.size w7 (.slice (some ⟨gd, 0, none⟩) (m + 3) cd) (m + 3) (lentD b m)) := HD.out.ik I7.out
  replace HSs : Hid (FitA w3.heap.size w7 (val a n + val b m) (.slice so sn sc) es) := HSs.out.ik I7.out
  replace HSp : Hid (FitA w5.heap.size w7 (val a n * val b m) (.slice po pn pc) ep) := HSp.out.ik I7.out
  have HSq : Hid (An w6.heap.size w7 vq (val a n / val b m)) := hF.1.an
  have HSr : Hid (An w6.heap.size w7 vr (val a n % val b m)) := hF.2.1.an
  have LQ : Hid (Lies vq w6.heap.size w7.heap.size) := fun g hg => HSq.out.ge hg
  have LR : Hid (Lies vr w6.heap.size w7.heap.size) := fun g hg => HSr.out.ge hg
  have LQR : Hid (∀ g, vq.ownBlock = some g → vr.ownBlock ≠ some g) := hF.2.2
  clear hF
  obtain ⟨qo, qn, qc, rfl⟩ := HSq.out.shape
  obtain ⟨ro, rn, rc, rfl⟩ := HSr.out.shape
  go_wp2_with fail
  refine (gcd_num (lent_numA HC.out HNA.out) (lent_numA HD.out HNB.out) HA2.out HB2.out).mono ?_
  rintro e w8 ⟨vz, rfl, hF⟩
  have B8 : Hid (Below w7.heap.size w7 w8) := hF.below
  have I8 : Hid (Ik w0.heap.size w7 w8) := Ik.of B8.out HB.out.size
  replace IK : Hid (Ik w0.heap.size w w8) := IK.out.trans I8.out
  have Z8 : Hid (w7.heap.size ≤ w8.heap.size) := I8.out.below.size
  replace HB : Hid (Below w0.heap.size w0 w8) := HB.out.trans I8.out.below
  replace HK : Hid (Kept w0.heap.size w8 k (fun g => g < w.heap.size)) := HK.out.keeps B8.out
  replace HC : Hid (Out w.heap.size w8 (.slice (some ⟨gc, 0, none⟩) (n + 3) cc) (n + 3) (lentD a n)) := HC.out.ik I8.out
  replace HD : Hid (Out w1.heap.size w8 (.slice (some ⟨gd, 0, none⟩) (m + 3) cd) (m + 3) (lentD b m)) := HD.out.ik I8.out
  replace HSs : Hid (FitA w3.heap.size w8 (val a n + val b m) (.slice so sn sc) es) := HSs.out.ik I8.out
  replace HSp : Hid (FitA w5.heap.size w8 (val a n * val b m) (.slice po pn pc) ep) := HSp.out.ik I8.out
  replace HSq : Hid (An w6.heap.size w8 (.slice qo qn qc) (val a n / val b m)) := HSq.out.ik I8.out
  replace HSr : Hid (An w6.heap.size w8 (.slice ro rn rc) (val a n % val b m)) := HSr.out.ik I8.out
  have HSz : Hid (An w7.heap.size w8 vz (Int.gcd (val a n) (val b m) : Int)) := hF.an
  clear hF
  have LZ : Hid (Lies vz w7.heap.size w8.heap.size) := fun g hg => HSz.out.ge hg
  obtain ⟨zo, zn, zc, rfl⟩ := HSz.out.shape
  go_wp2_with fail
  refine (rtwo_any _ _ _ _ _ _ _ _ _ ⟨(HRA.out.stays HB.out (Nat.le_refl _)), (HRB.out.stays HB.out (Nat.le_refl _))⟩).mono ?_
  rintro e w9 ⟨rfl, hw⟩
  replace hw := hw.symm
  subst hw
  rw [htw]
  go_wp2_with fail
  refine (rcmp_any _ _ _ _ _ _ _ _ _ (HRA.out.stays HB.out (Nat.le_refl _)) (HRB.out.stays HB.out (Nat.le_refl _)) HNA.out HNB.out).mono ?_
  rintro e w9 ⟨rfl, hbx⟩
  have B9 : Hid (Below w8.heap.size w8 w9) := hbx
  have I9 : Hid (Ik w0.heap.size w8 w9) := Ik.of B9.out HB.out.size
  replace IK : Hid (Ik w0.heap.size w w9) := IK.out.trans I9.out
  have Z9 : Hid (w8.heap.size ≤ w9.heap.size) := I9.out.below.size
  replace HB : Hid (Below w0.heap.size w0 w9) := HB.out.trans I9.out.below
  replace HK : Hid (Kept w0.heap.size w9 k (fun g => g < w.heap.size)) := HK.out.keeps B9.out
  replace HC : Hid (Out w.heap.size w9 (.slice (some ⟨gc, 0, none⟩) (n + 3) cc) (n + 3) (lentD a n)) := HC.out.ik I9.out
  replace HD : Hid (Out w1.heap.size w9 (.slice (some ⟨gd, 0, none⟩) (m + 3) cd) (m + 3) (lentD b m)) := HD.out.ik I9.out
  replace HSs : Hid (FitA w3.heap.size w9 (val a n + val b m) (.slice so sn sc) es) := HSs.out.ik I9.out
  replace HSp : Hid (FitA w5.heap.size w9 (val a n * val b m) (.slice po pn pc) ep) := HSp.out.ik I9.out
  replace HSq : Hid (An w6.heap.size w9 (.slice qo qn qc) (val a n / val b m)) := HSq.out.ik I9.out
  replace HSr : Hid (An w6.heap.size w9 (.slice ro rn rc) (val a n % val b m)) := HSr.out.ik I9.out
  replace HSz : Hid (An w7.heap.size w9 (.slice zo zn zc) (Int.gcd (val a n) (val b m) : Int)) := HSz.out.ik I9.out
  clear hbx
  have HWS : Hid (w0.heap.size ≤ w9.heap.size) := HB.out.size
  go_wp2_with fail
  refine (radd_any _ _ _ _ _ _ _ _ _ (HRA.out.stays HB.out (Nat.le_refl _)) (HRB.out.stays HB.out (Nat.le_refl _)) HNA.out HNB.out (by omega) (by omega)).mono ?_
  rintro e w10 ⟨vw, rfl, hF⟩
  have B10 : Hid (Below w9.heap.size w9 w10) := hF.below
  have I10 : Hid (Ik w0.heap.size w9 w10) := Ik.of B10.out HB.out.size
  replace IK : Hid (Ik w0.heap.size w w10) := IK.out.trans I10.out
  have Z10 : Hid (w9.heap.size ≤ w10.heap.size) := I10.out.below.size
  replace HB : Hid (Below w0.heap.size w0 w10) := HB.out.trans I10.out.below
  replace HK : Hid (Kept w0.heap.size w10 k (fun g => g < w.heap.size)) := HK.out.keeps B10.out
  replace HC : Hid (Out w.heap.size w10 (.slice (some ⟨gc, 0, none⟩) (n + 3) cc) (n + 3) (lentD a n)) := HC.out.ik I10.out
  replace HD : Hid (Out w1.heap.size w10 (.slice (some ⟨gd, 0, none⟩) (m + 3) cd) (m + 3) (lentD b m)) := HD.out.ik I10.out
  replace HSs : Hid (FitA w3.heap.size w10 (val a n + val b m) (.slice so sn sc) es) := HSs.out.ik I10.out
  replace HSp : Hid (FitA w5.heap.size w10 (val a n * val b m) (.slice po pn pc) ep) := HSp.out.ik I10.out
  replace HSq : Hid (An w6.heap.size w10 (.slice qo qn qc) (val a n / val b m)) := HSq.out.ik I10.out
  replace HSr : Hid (An w6.heap.size w10 (.slice ro rn rc) (val a n % val b m)) := HSr.out.ik I10.out
  replace HSz : Hid (An w7.heap.size w10 (.slice zo zn zc) (Int.gcd (val a n) (val b m) : Int)) := HSz.out.ik I10.out
  have HW : Hid (An w9.heap.size w10 vw (val a n + val b m)) := hF.an
  clear hF
  obtain ⟨wo, wn, wc, rfl⟩ := HW.out.shape
  go_wp2_with fail
  refine (answer_any HK.out (HSs.out.lower (by have h0 := HS0.out; have y1 := Z1.out; have y2 := Z2.out; have y3 := Z3.out; have y4 := Z4.out; have y5 := Z5.out; have y6 := Z6.out; have y7 := Z7.out; have y8 := Z8.out; have y9 := Z9.out; have y10 := Z10.out; omega)) (HW.out.lower HWS.out) HB.out.size (fun g hg => (fun (h : g < w.heap.size) => by have h1 := LS.out g hg; have y1 := Z1.out; have y2 := Z2.out; have y3 := Z3.out; have y4 := Z4.out; have y5 := Z5.out; have y6 := Z6.out; have y7 := Z7.out; have y8 := Z8.out; have y9 := Z9.out; have y10 := Z10.out; omega))).mono ?_
  rintro e w11 ⟨rfl, hik, hkk⟩
  have I11 : Hid (Ik w0.heap.size w10 w11) := hik
  replace IK : Hid (Ik w0.heap.size w w11) := IK.out.trans I11.out
  have Z11 : Hid (w10.heap.size ≤ w11.heap.size) := I11.out.below.size
  replace HB : Hid (Below w0.heap.size w0 w11) := HB.out.trans I11.out.below
  replace HK : Hid (Kept w0.heap.size w11 k (S2 (fun g => g < w.heap.size) (.slice so sn sc) w10.heap.size)) := hkk
  replace HC : Hid (Out w.heap.size w11 (.slice (some ⟨gc, 0, none⟩) (n + 3) cc) (n + 3) (lentD a n)) := HC.out.ik I11.out
  replace HD : Hid (Out w1.heap.size w11 (.slice (some ⟨gd, 0, none⟩) (m + 3) cd) (m + 3) (lentD b m)) := HD.out.ik I11.out
  replace HSs : Hid (FitA w3.heap.size w11 (val a n + val b m) (.slice so sn sc) es) := HSs.out.ik I11.out
  replace HSp : Hid (FitA w5.heap.size w11 (val a n * val b m) (.slice po pn pc) ep) := HSp.out.ik I11.out
  replace HSq : Hid (An w6.heap.size w11 (.slice qo qn qc) (val a n / val b m)) := HSq.out.ik I11.out
  replace HSr : Hid (An w6.heap.size w11 (.slice ro rn rc) (val a n % val b m)) := HSr.out.ik I11.out
  replace HSz : Hid (An w7.heap.size w11 (.slice zo zn zc) (Int.gcd (val a n) (val b m) : Int)) := HSz.out.ik I11.out
  clear hik hkk HW HWS
  have HWS : Hid (w0.heap.size ≤ w11.heap.size) := HB.out.size
  go_wp2_with fail
  refine (rmul_any _ _ _ _ _ _ _ _ _ (HRA.out.stays HB.out (Nat.le_refl _)) (HRB.out.stays HB.out (Nat.le_refl _)) HNA.out HNB.out (by omega) (by omega)).mono ?_
  rintro e w12 ⟨vw, rfl, hF⟩
  have B12 : Hid (Below w11.heap.size w11 w12) := hF.below
  have I12 : Hid (Ik w0.heap.size w11 w12) := Ik.of B12.out HB.out.size
  replace IK : Hid (Ik w0.heap.size w w12) := IK.out.trans I12.out
  have Z12 : Hid (w11.heap.size ≤ w12.heap.size) := I12.out.below.size
  replace HB : Hid (Below w0.heap.size w0 w12) := HB.out.trans I12.out.below
  replace HK : Hid (Kept w0.heap.size w12 k (S2 (fun g => g < w.heap.size) (.slice so sn sc) w10.heap.size)) := HK.out.keeps B12.out
  replace HC : Hid (Out w.heap.size w12 (.slice (some ⟨gc, 0, none⟩) (n + 3) cc) (n + 3) (lentD a n)) := HC.out.ik I12.out
  replace HD : Hid (Out w1.heap.size w12 (.slice (some ⟨gd, 0, none⟩) (m + 3) cd) (m + 3) (lentD b m)) := HD.out.ik I12.out
  replace HSs : Hid (FitA w3.heap.size w12 (val a n + val b m) (.slice so sn sc) es) := HSs.out.ik I12.out
  replace HSp : Hid (FitA w5.heap.size w12 (val a n * val b m) (.slice po pn pc) ep) := HSp.out.ik I12.out
  replace HSq : Hid (An w6.heap.size w12 (.slice qo qn qc) (val a n / val b m)) := HSq.out.ik I12.out
  replace HSr : Hid (An w6.heap.size w12 (.slice ro rn rc) (val a n % val b m)) := HSr.out.ik I12.out
  replace HSz : Hid (An w7.heap.size w12 (.slice zo zn zc) (Int.gcd (val a n) (val b m) : Int)) := HSz.out.ik I12.out
  have HW : Hid (An w11.heap.size w12 vw (val a n * val b m)) := hF.an
  clear hF
  obtain ⟨wo, wn, wc, rfl⟩ := HW.out.shape
  go_wp2_with fail
  refine (answer_any HK.out (HSp.out.lower (by have h0 := HS0.out; have y1 := Z1.out; have y2 := Z2.out; have y3 := Z3.out; have y4 := Z4.out; have y5 := Z5.out; have y6 := Z6.out; have y7 := Z7.out; have y8 := Z8.out; have y9 := Z9.out; have y10 := Z10.out; have y11 := Z11.out; have y12 := Z12.out; omega)) (HW.out.lower HWS.out) HB.out.size (fun g hg => (notS2 (fun (h : g < w.heap.size) => by have h1 := LP.out g hg; have y1 := Z1.out; have y2 := Z2.out; have y3 := Z3.out; have y4 := Z4.out; have y5 := Z5.out; have y6 := Z6.out; have y7 := Z7.out; have y8 := Z8.out; have y9 := Z9.out; have y10 := Z10.out; have y11 := Z11.out; have y12 := Z12.out; omega) (fun e => by have h1 := LP.out g hg; have h2 := LS.out g e; have y1 := Z1.out; have y2 := Z2.out; have y3 := Z3.out; have y4 := Z4.out; have y5 := Z5.out; have y6 := Z6.out; have y7 := Z7.out; have y8 := Z8.out; have y9 := Z9.out; have y10 := Z10.out; have y11 := Z11.out; have y12 := Z12.out; omega) (by have h1 := LP.out g hg; have y1 := Z1.out; have y2 := Z2.out; have y3 := Z3.out; have y4 := Z4.out; have y5 := Z5.out; have y6 := Z6.out; have y7 := Z7.out; have y8 := Z8.out; have y9 := Z9.out; have y10 := Z10.out; have y11 := Z11.out; have y12 := Z12.out; omega)))).mono ?_
  rintro e w13 ⟨rfl, hik, hkk⟩
  have I13 : Hid (Ik w0.heap.size w12 w13) := hik
  replace IK : Hid (Ik w0.heap.size w w13) := IK.out.trans I13.out
  have Z13 : Hid (w12.heap.size ≤ w13.heap.size) := I13.out.below.size
  replace HB : Hid (Below w0.heap.size w0 w13) := HB.out.trans I13.out.below
  replace HK : Hid (Kept w0.heap.size w13 k (S2 (S2 (fun g => g < w.heap.size) (.slice so sn sc) w10.heap.size) (.slice po pn pc) w12.heap.size)) := hkk
  replace HC : Hid (Out w.heap.size w13 (.slice (some ⟨gc, 0, none⟩) (n + 3) cc) (n + 3) (lentD a n)) := HC.out.ik I13.out
  replace HD : Hid (Out w1.heap.size w13 (.slice (some ⟨gd, 0, none⟩) (m + 3) cd) (m + 3) (lentD b m)) := HD.out.ik I13.out
  replace HSs : Hid (FitA w3.heap.size w13 (val a n + val b m) (.slice so sn sc) es) := HSs.out.ik I13.out
  replace HSp : Hid (FitA w5.heap.size w13 (val a n * val b m) (.slice po pn pc) ep) := HSp.out.ik I13.out
  replace HSq : Hid (An w6.heap.size w13 (.slice qo qn qc) (val a n / val b m)) := HSq.out.ik I13.out
  replace HSr : Hid (An w6.heap.size w13 (.slice ro rn rc) (val a n % val b m)) := HSr.out.ik I13.out
  replace HSz : Hid (An w7.heap.size w13 (.slice zo zn zc) (Int.gcd (val a n) (val b m) : Int)) := HSz.out.ik I13.out
  clear hik hkk HW HWS
  have HWS : Hid (w0.heap.size ≤ w13.heap.size) := HB.out.size
  go_wp2_with fail
  refine (rdiv_any _ _ _ _ _ _ _ _ _ (HRA.out.stays HB.out (Nat.le_refl _)) (HRB.out.stays HB.out (Nat.le_refl _)) HNA.out HNB.out (by omega) (by omega) hm0).mono ?_
  rintro e w14 ⟨vt, vu, rfl, hF⟩
  have B14 : Hid (Below w13.heap.size w13 w14) := hF.1.below
  have I14 : Hid (Ik w0.heap.size w13 w14) := Ik.of B14.out HB.out.size
  replace IK : Hid (Ik w0.heap.size w w14) := IK.out.trans I14.out
  have Z14 : Hid (w13.heap.size ≤ w14.heap.size) := I14.out.below.size
  replace HB : Hid (Below w0.heap.size w0 w14) := HB.out.trans I14.out.below
  replace HK : Hid (Kept w0.heap.size w14 k (S2 (S2 (fun g => g < w.heap.size) (.slice so sn sc) w10.heap.size) (.slice po pn pc) w12.heap.size)) := HK.out.keeps B14.out
  replace HC : Hid (Out w.heap.size w14 (.slice (some ⟨gc, 0, none⟩) (n + 3) cc) (n + 3) (lentD a n)) := HC.out.ik I14.out
  replace HD : Hid (Out w1.heap.size w14 (.slice (some ⟨gd, 0, none⟩) (m + 3) cd) (m + 3) (lentD b m)) := HD.out.ik I14.out
  replace HSs : Hid (FitA w3.heap.size w14 (val a n + val b m) (.slice so sn sc) es) := HSs.out.ik I14.out
  replace HSp : Hid (FitA w5.heap.size w14 (val a n * val b m) (.slice po pn pc) ep) := HSp.out.ik I14.out
  replace HSq : Hid (An w6.heap.size w14 (.slice qo qn qc) (val a n / val b m)) := HSq.out.ik I14.out
  replace HSr : Hid (An w6.heap.size w14 (.slice ro rn rc) (val a n % val b m)) := HSr.out.ik I14.out
  replace HSz : Hid (An w7.heap.size w14 (.slice zo zn zc) (Int.gcd (val a n) (val b m) : Int)) := HSz.out.ik I14.out
  have HW : Hid (An w13.heap.size w14 vt (val a n / val b m)) := hF.1.an
  have HU : Hid (An w13.heap.size w14 vu (val a n % val b m)) := hF.2.1.an
  clear hF
  have HUS := HWS
  obtain ⟨tq, tn, tc, rfl⟩ := HW.out.shape
  obtain ⟨uo, un, uc, rfl⟩ := HU.out.shape
  go_wp2_with fail
  refine (keep_an HK.out (HSq.out.lower (by have h0 := HS0.out; have y1 := Z1.out; have y2 := Z2.out; have y3 := Z3.out; have y4 := Z4.out; have y5 := Z5.out; have y6 := Z6.out; have y7 := Z7.out; have y8 := Z8.out; have y9 := Z9.out; have y10 := Z10.out; have y11 := Z11.out; have y12 := Z12.out; have y13 := Z13.out; have y14 := Z14.out; omega)) (HW.out.lower HWS.out) 2000 (by decide) HQ2.out HB.out.size (fun g hg => (notS2 (notS2 (fun (h : g < w.heap.size) => by have h1 := LQ.out g hg; have y1 := Z1.out; have y2 := Z2.out; have y3 := Z3.out; have y4 := Z4.out; have y5 := Z5.out; have y6 := Z6.out; have y7 := Z7.out; have y8 := Z8.out; have y9 := Z9.out; have y10 := Z10.out; have y11 := Z11.out; have y12 := Z12.out; have y13 := Z13.out; have y14 := Z14.out; omega) (fun e => by have h1 := LQ.out g hg; have h2 := LS.out g e; have y1 := Z1.out; have y2 := Z2.out; have y3 := Z3.out; have y4 := Z4.out; have y5 := Z5.out; have y6 := Z6.out; have y7 := Z7.out; have y8 := Z8.out; have y9 := Z9.out; have y10 := Z10.out; have y11 := Z11.out; have y12 := Z12.out; have y13 := Z13.out; have y14 := Z14.out; omega) (by have h1 := LQ.out g hg; have y1 := Z1.out; have y2 := Z2.out; have y3 := Z3.out; have y4 := Z4.out; have y5 := Z5.out; have y6 := Z6.out; have y7 := Z7.out; have y8 := Z8.out; have y9 := Z9.out; have y10 := Z10.out; have y11 := Z11.out; have y12 := Z12.out; have y13 := Z13.out; have y14 := Z14.out; omega)) (fun e => by have h1 := LQ.out g hg; have h2 := LP.out g e; have y1 := Z1.out; have y2 := Z2.out; have y3 := Z3.out; have y4 := Z4.out; have y5 := Z5.out; have y6 := Z6.out; have y7 := Z7.out; have y8 := Z8.out; have y9 := Z9.out; have y10 := Z10.out; have y11 := Z11.out; have y12 := Z12.out; have y13 := Z13.out; have y14 := Z14.out; omega) (by have h1 := LQ.out g hg; have y1 := Z1.out; have y2 := Z2.out; have y3 := Z3.out; have y4 := Z4.out; have y5 := Z5.out; have y6 := Z6.out; have y7 := Z7.out; have y8 := Z8.out; have y9 := Z9.out; have y10 := Z10.out; have y11 := Z11.out; have y12 := Z12.out; have y13 := Z13.out; have y14 := Z14.out; omega)))).mono ?_
  rintro e w15 ⟨rfl, hik, hkk⟩
  have I15 : Hid (Ik w0.heap.size w14 w15) := hik
  replace IK : Hid (Ik w0.heap.size w w15) := IK.out.trans I15.out
  have Z15 : Hid (w14.heap.size ≤ w15.heap.size) := I15.out.below.size
  replace HB : Hid (Below w0.heap.size w0 w15) := HB.out.trans I15.out.below
  replace HK : Hid (Kept w0.heap.size w15 k (S2 (S2 (S2 (fun g => g < w.heap.size) (.slice so sn sc) w10.heap.size) (.slice po pn pc) w12.heap.size) (.slice qo qn qc) w14.heap.size)) := hkk
  replace HC : Hid (Out w.heap.size w15 (.slice (some ⟨gc, 0, none⟩) (n + 3) cc) (n + 3) (lentD a n)) := HC.out.ik I15.out
  replace HD : Hid (Out w1.heap.size w15 (.slice (some ⟨gd, 0, none⟩) (m + 3) cd) (m + 3) (lentD b m)) := HD.out.ik I15.out
  replace HSs : Hid (FitA w3.heap.size w15 (val a n + val b m) (.slice so sn sc) es) := HSs.out.ik I15.out
  replace HSp : Hid (FitA w5.heap.size w15 (val a n * val b m) (.slice po pn pc) ep) := HSp.out.ik I15.out
  replace HSq : Hid (An w6.heap.size w15 (.slice qo qn qc) (val a n / val b m)) := HSq.out.ik I15.out
  replace HSr : Hid (An w6.heap.size w15 (.slice ro rn rc) (val a n % val b m)) := HSr.out.ik I15.out
  replace HSz : Hid (An w7.heap.size w15 (.slice zo zn zc) (Int.gcd (val a n) (val b m) : Int)) := HSz.out.ik I15.out
  replace HU : Hid (An w13.heap.size w15 (.slice uo un uc) (val a n % val b m)) := HU.out.ik I15.out
  clear hik hkk HW HWS
  have HW := HU
  have HWS := HUS
  clear HU HUS
  go_wp2_with fail
  refine (keep_an HK.out (HSr.out.lower (by have h0 := HS0.out; have y1 := Z1.out; have y2 := Z2.out; have y3 := Z3.out; have y4 := Z4.out; have y5 := Z5.out; have y6 := Z6.out; have y7 := Z7.out; have y8 := Z8.out; have y9 := Z9.out; have y10 := Z10.out; have y11 := Z11.out; have y12 := Z12.out; have y13 := Z13.out; have y14 := Z14.out; have y15 := Z15.out; omega)) (HW.out.lower HWS.out) 2000 (by decide) HR2.out HB.out.size (fun g hg => (notS2 (notS2 (notS2 (fun (h : g < w.heap.size) => by have h1 := LR.out g hg; have y1 := Z1.out; have y2 := Z2.out; have y3 := Z3.out; have y4 := Z4.out; have y5 := Z5.out; have y6 := Z6.out; have y7 := Z7.out; have y8 := Z8.out; have y9 := Z9.out; have y10 := Z10.out; have y11 := Z11.out; have y12 := Z12.out; have y13 := Z13.out; have y14 := Z14.out; have y15 := Z15.out; omega) (fun e => by have h1 := LR.out g hg; have h2 := LS.out g e; have y1 := Z1.out; have y2 := Z2.out; have y3 := Z3.out; have y4 := Z4.out; have y5 := Z5.out; have y6 := Z6.out; have y7 := Z7.out; have y8 := Z8.out; have y9 := Z9.out; have y10 := Z10.out; have y11 := Z11.out; have y12 := Z12.out; have y13 := Z13.out; have y14 := Z14.out; have y15 := Z15.out; omega) (by have h1 := LR.out g hg; have y1 := Z1.out; have y2 := Z2.out; have y3 := Z3.out; have y4 := Z4.out; have y5 := Z5.out; have y6 := Z6.out; have y7 := Z7.out; have y8 := Z8.out; have y9 := Z9.out; have y10 := Z10.out; have y11 := Z11.out; have y12 := Z12.out; have y13 := Z13.out; have y14 := Z14.out; have y15 := Z15.out; omega)) (fun e => by have h1 := LR.out g hg; have h2 := LP.out g e; have y1 := Z1.out; have y2 := Z2.out; have y3 := Z3.out; have y4 := Z4.out; have y5 := Z5.out; have y6 := Z6.out; have y7 := Z7.out; have y8 := Z8.out; have y9 := Z9.out; have y10 := Z10.out; have y11 := Z11.out; have y12 := Z12.out; have y13 := Z13.out; have y14 := Z14.out; have y15 := Z15.out; omega) (by have h1 := LR.out g hg; have y1 := Z1.out; have y2 := Z2.out; have y3 := Z3.out; have y4 := Z4.out; have y5 := Z5.out; have y6 := Z6.out; have y7 := Z7.out; have y8 := Z8.out; have y9 := Z9.out; have y10 := Z10.out; have y11 := Z11.out; have y12 := Z12.out; have y13 := Z13.out; have y14 := Z14.out; have y15 := Z15.out; omega)) (fun e => LQR.out g e hg) (by have h1 := LR.out g hg; have y1 := Z1.out; have y2 := Z2.out; have y3 := Z3.out; have y4 := Z4.out; have y5 := Z5.out; have y6 := Z6.out; have y7 := Z7.out; have y8 := Z8.out; have y9 := Z9.out; have y10 := Z10.out; have y11 := Z11.out; have y12 := Z12.out; have y13 := Z13.out; have y14 := Z14.out; have y15 := Z15.out; omega)))).mono ?_
  rintro e w16 ⟨rfl, hik, hkk⟩
  have I16 : Hid (Ik w0.heap.size w15 w16) := hik
  replace IK : Hid (Ik w0.heap.size w w16) := IK.out.trans I16.out
  have Z16 : Hid (w15.heap.size ≤ w16.heap.size) := I16.out.below.size
  replace HB : Hid (Below w0.heap.size w0 w16) := HB.out.trans I16.out.below
  replace HK : Hid (Kept w0.heap.size w16 k (S2 (S2 (S2 (S2 (fun g => g < w.heap.size) (.slice so sn sc) w10.heap.size) (.slice po pn pc) w12.heap.size) (.slice qo qn qc) w14.heap.size) (.slice ro rn rc) w15.heap.size)) := hkk
  replace HC : Hid (Out w.heap.size w16 (.slice (some ⟨gc, 0, none⟩) (n + 3) cc) (n + 3) (lentD a n)) := HC.out.ik I16.out
  replace HD : Hid (Out w1.heap.size w16 (.slice (some ⟨gd, 0, none⟩) (m + 3) cd) (m + 3) (lentD b m)) := HD.out.ik I16.out
  replace HSs : Hid (FitA w3.heap.size w16 (val a n + val b m) (.slice so sn sc) es) := HSs.out.ik I16.out
  replace HSp : Hid (FitA w5.heap.size w16 (val a n * val b m) (.slice po pn pc) ep) := HSp.out.ik I16.out
  replace HSq : Hid (An w6.heap.size w16 (.slice qo qn qc) (val a n / val b m)) := HSq.out.ik I16.out
  replace HSr : Hid (An w6.heap.size w16 (.slice ro rn rc) (val a n % val b m)) := HSr.out.ik I16.out
  replace HSz : Hid (An w7.heap.size w16 (.slice zo zn zc) (Int.gcd (val a n) (val b m) : Int)) := HSz.out.ik I16.out
  clear hik hkk HW HWS
  have HWS : Hid (w0.heap.size ≤ w16.heap.size) := HB.out.size
  go_wp2_with fail
  refine (rgcd_any (Row.num0 (HRA.out.stays HB.out (Nat.le_refl _)) HNA.out) (Row.num0 (HRB.out.stays HB.out (Nat.le_refl _)) HNB.out) HA2.out HB2.out).mono ?_
  rintro e w17 ⟨vw, rfl, hF⟩
  have B17 : Hid (Below w16.heap.size w16 w17) := hF.below
  have I17 : Hid (Ik w0.heap.size w16 w17) := Ik.of B17.out HB.out.size
  replace IK : Hid (Ik w0.heap.size w w17) := IK.out.trans I17.out
  have Z17 : Hid (w16.heap.size ≤ w17.heap.size) := I17.out.below.size
  replace HB : Hid (Below w0.heap.size w0 w17) := HB.out.trans I17.out.below
  replace HK : Hid (Kept w0.heap.size w17 k (S2 (S2 (S2 (S2 (fun g => g < w.heap.size) (.slice so sn sc) w10.heap.size) (.slice po pn pc) w12.heap.size) (.slice qo qn qc) w14.heap.size) (.slice ro rn rc) w15.heap.size)) := HK.out.keeps B17.out
  replace HC : Hid (Out w.heap.size w17 (.slice (some ⟨gc, 0, none⟩) (n + 3) cc) (n + 3) (lentD a n)) := HC.out.ik I17.out
  replace HD : Hid (Out w1.heap.size w17 (.slice (some ⟨gd, 0, none⟩) (m + 3) cd) (m + 3) (lentD b m)) := HD.out.ik I17.out
  replace HSs : Hid (FitA w3.heap.size w17 (val a n + val b m) (.slice so sn sc) es) := HSs.out.ik I17.out
  replace HSp : Hid (FitA w5.heap.size w17 (val a n * val b m) (.slice po pn pc) ep) := HSp.out.ik I17.out
  replace HSq : Hid (An w6.heap.size w17 (.slice qo qn qc) (val a n / val b m)) := HSq.out.ik I17.out
  replace HSr : Hid (An w6.heap.size w17 (.slice ro rn rc) (val a n % val b m)) := HSr.out.ik I17.out
  replace HSz : Hid (An w7.heap.size w17 (.slice zo zn zc) (Int.gcd (val a n) (val b m) : Int)) := HSz.out.ik I17.out
  have HW : Hid (An w16.heap.size w17 vw ((Int.gcd (val a n) (val b m) : Int))) := hF.an
  clear hF
  obtain ⟨wo, wn, wc, rfl⟩ := HW.out.shape
  go_wp2_with fail
  refine (keep_an HK.out (HSz.out.lower (by have h0 := HS0.out; have y1 := Z1.out; have y2 := Z2.out; have y3 := Z3.out; have y4 := Z4.out; have y5 := Z5.out; have y6 := Z6.out; have y7 := Z7.out; have y8 := Z8.out; have y9 := Z9.out; have y10 := Z10.out; have y11 := Z11.out; have y12 := Z12.out; have y13 := Z13.out; have y14 := Z14.out; have y15 := Z15.out; have y16 := Z16.out; have y17 := Z17.out; omega)) (HW.out.lower HWS.out) 2000 (by decide) HG2.out HB.out.size (fun g hg => (notS2 (notS2 (notS2 (notS2 (fun (h : g < w.heap.size) => by have h1 := LZ.out g hg; have y1 := Z1.out; have y2 := Z2.out; have y3 := Z3.out; have y4 := Z4.out; have y5 := Z5.out; have y6 := Z6.out; have y7 := Z7.out; have y8 := Z8.out; have y9 := Z9.out; have y10 := Z10.out; have y11 := Z11.out; have y12 := Z12.out; have y13 := Z13.out; have y14 := Z14.out; have y15 := Z15.out; have y16 := Z16.out; have y17 := Z17.out; omega) (fun e => by have h1 := LZ.out g hg; have h2 := LS.out g e; have y1 := Z1.out; have y2 := Z2.out; have y3 := Z3.out; have y4 := Z4.out; have y5 := Z5.out; have y6 := Z6.out; have y7 := Z7.out; have y8 := Z8.out; have y9 := Z9.out; have y10 := Z10.out; have y11 := Z11.out; have y12 := Z12.out; have y13 := Z13.out; have y14 := Z14.out; have y15 := Z15.out; have y16 := Z16.out; have y17 := Z17.out; omega) (by have h1 := LZ.out g hg; have y1 := Z1.out; have y2 := Z2.out; have y3 := Z3.out; have y4 := Z4.out; have y5 := Z5.out; have y6 := Z6.out; have y7 := Z7.out; have y8 := Z8.out; have y9 := Z9.out; have y10 := Z10.out; have y11 := Z11.out; have y12 := Z12.out; have y13 := Z13.out; have y14 := Z14.out; have y15 := Z15.out; have y16 := Z16.out; have y17 := Z17.out; omega)) (fun e => by have h1 := LZ.out g hg; have h2 := LP.out g e; have y1 := Z1.out; have y2 := Z2.out; have y3 := Z3.out; have y4 := Z4.out; have y5 := Z5.out; have y6 := Z6.out; have y7 := Z7.out; have y8 := Z8.out; have y9 := Z9.out; have y10 := Z10.out; have y11 := Z11.out; have y12 := Z12.out; have y13 := Z13.out; have y14 := Z14.out; have y15 := Z15.out; have y16 := Z16.out; have y17 := Z17.out; omega) (by have h1 := LZ.out g hg; have y1 := Z1.out; have y2 := Z2.out; have y3 := Z3.out; have y4 := Z4.out; have y5 := Z5.out; have y6 := Z6.out; have y7 := Z7.out; have y8 := Z8.out; have y9 := Z9.out; have y10 := Z10.out; have y11 := Z11.out; have y12 := Z12.out; have y13 := Z13.out; have y14 := Z14.out; have y15 := Z15.out; have y16 := Z16.out; have y17 := Z17.out; omega)) (fun e => by have h1 := LZ.out g hg; have h2 := LQ.out g e; have y1 := Z1.out; have y2 := Z2.out; have y3 := Z3.out; have y4 := Z4.out; have y5 := Z5.out; have y6 := Z6.out; have y7 := Z7.out; have y8 := Z8.out; have y9 := Z9.out; have y10 := Z10.out; have y11 := Z11.out; have y12 := Z12.out; have y13 := Z13.out; have y14 := Z14.out; have y15 := Z15.out; have y16 := Z16.out; have y17 := Z17.out; omega) (by have h1 := LZ.out g hg; have y1 := Z1.out; have y2 := Z2.out; have y3 := Z3.out; have y4 := Z4.out; have y5 := Z5.out; have y6 := Z6.out; have y7 := Z7.out; have y8 := Z8.out; have y9 := Z9.out; have y10 := Z10.out; have y11 := Z11.out; have y12 := Z12.out; have y13 := Z13.out; have y14 := Z14.out; have y15 := Z15.out; have y16 := Z16.out; have y17 := Z17.out; omega)) (fun e => by have h1 := LZ.out g hg; have h2 := LR.out g e; have y1 := Z1.out; have y2 := Z2.out; have y3 := Z3.out; have y4 := Z4.out; have y5 := Z5.out; have y6 := Z6.out; have y7 := Z7.out; have y8 := Z8.out; have y9 := Z9.out; have y10 := Z10.out; have y11 := Z11.out; have y12 := Z12.out; have y13 := Z13.out; have y14 := Z14.out; have y15 := Z15.out; have y16 := Z16.out; have y17 := Z17.out; omega) (by have h1 := LZ.out g hg; have y1 := Z1.out; have y2 := Z2.out; have y3 := Z3.out; have y4 := Z4.out; have y5 := Z5.out; have y6 := Z6.out; have y7 := Z7.out; have y8 := Z8.out; have y9 := Z9.out; have y10 := Z10.out; have y11 := Z11.out; have y12 := Z12.out; have y13 := Z13.out; have y14 := Z14.out; have y15 := Z15.out; have y16 := Z16.out; have y17 := Z17.out; omega)))).mono ?_
  rintro e w18 ⟨rfl, hik, hkk⟩
  have I18 : Hid (Ik w0.heap.size w17 w18) := hik
  replace IK : Hid (Ik w0.heap.size w w18) := IK.out.trans I18.out
  have Z18 : Hid (w17.heap.size ≤ w18.heap.size) := I18.out.below.size
  replace HB : Hid (Below w0.heap.size w0 w18) := HB.out.trans I18.out.below
  replace HK : Hid (Kept w0.heap.size w18 k (S2 (S2 (S2 (S2 (S2 (fun g => g < w.heap.size) (.slice so sn sc) w10.heap.size) (.slice po pn pc) w12.heap.size) (.slice qo qn qc) w14.heap.size) (.slice ro rn rc) w15.heap.size) (.slice zo zn zc) w17.heap.size)) := hkk
  replace HC : Hid (Out w.heap.size w18 (.slice (some ⟨gc, 0, none⟩) (n + 3) cc) (n + 3) (lentD a n)) := HC.out.ik I18.out
  replace HD : Hid (Out w1.heap.size w18 (.slice (some ⟨gd, 0, none⟩) (m + 3) cd) (m + 3) (lentD b m)) := HD.out.ik I18.out
  replace HSs : Hid (FitA w3.heap.size w18 (val a n + val b m) (.slice so sn sc) es) := HSs.out.ik I18.out
  replace HSp : Hid (FitA w5.heap.size w18 (val a n * val b m) (.slice po pn pc) ep) := HSp.out.ik I18.out
  replace HSq : Hid (An w6.heap.size w18 (.slice qo qn qc) (val a n / val b m)) := HSq.out.ik I18.out
  replace HSr : Hid (An w6.heap.size w18 (.slice ro rn rc) (val a n % val b m)) := HSr.out.ik I18.out
  replace HSz : Hid (An w7.heap.size w18 (.slice zo zn zc) (Int.gcd (val a n) (val b m) : Int)) := HSz.out.ik I18.out
  clear hik hkk HW HWS
  have HX : Hid (RowX gc w18 ao n ca a) := RowX.of0 HRA.out HB.out (by have h1 := LC.out; have h0 := HS0.out; omega)
  go_wp2_with fail
  refine (back_any HC.out HX.out (HRA.out.stays HB.out (Nat.le_refl _)) (by omega)).mono ?_
  rintro e wa ⟨rfl, hwr⟩
  have HWa : Hid (Wr gc w18 wa) := hwr
  clear hwr HX
  have HBa : Hid (Below w0.heap.size w0 wa) := HWa.out.below HB.out HB.out.size (by have h1 := LC.out; have h0 := HS0.out; omega)
  have HKa : Hid (Kept w0.heap.size wa k (S2 (S2 (S2 (S2 (S2 (fun g => g < w.heap.size) (.slice so sn sc) w10.heap.size) (.slice po pn pc) w12.heap.size) (.slice qo qn qc) w14.heap.size) (.slice ro rn rc) w15.heap.size) (.slice zo zn zc) w17.heap.size)) := by
    obtain ⟨cur, z, ht⟩ := HC.out.typed (g := gc) rfl
    exact HK.out.wr HWa.out (notS2 (notS2 (notS2 (notS2 (notS2 (fun (h : gc < w.heap.size) => by have h1 := LC.out; omega) (fun e => by have h1 := LC.out; have h2 := LS.out _ e; have y1 := Z1.out; have y2 := Z2.out; have y3 := Z3.out; have y4 := Z4.out; have y5 := Z5.out; have y6 := Z6.out; have y7 := Z7.out; have y8 := Z8.out; have y9 := Z9.out; have y10 := Z10.out; have y11 := Z11.out; have y12 := Z12.out; have y13 := Z13.out; have y14 := Z14.out; have y15 := Z15.out; have y16 := Z16.out; have y17 := Z17.out; have y18 := Z18.out; omega) (by have h1 := LC.out; have y1 := Z1.out; have y2 := Z2.out; have y3 := Z3.out; have y4 := Z4.out; have y5 := Z5.out; have y6 := Z6.out; have y7 := Z7.out; have y8 := Z8.out; have y9 := Z9.out; have y10 := Z10.out; have y11 := Z11.out; have y12 := Z12.out; have y13 := Z13.out; have y14 := Z14.out; have y15 := Z15.out; have y16 := Z16.out; have y17 := Z17.out; have y18 := Z18.out; omega)) (fun e => by have h1 := LC.out; have h2 := LP.out _ e; have y1 := Z1.out; have y2 := Z2.out; have y3 := Z3.out; have y4 := Z4.out; have y5 := Z5.out; have y6 := Z6.out; have y7 := Z7.out; have y8 := Z8.out; have y9 := Z9.out; have y10 := Z10.out; have y11 := Z11.out; have y12 := Z12.out; have y13 := Z13.out; have y14 := Z14.out; have y15 := Z15.out; have y16 := Z16.out; have y17 := Z17.out; have y18 := Z18.out; omega) (by have h1 := LC.out; have y1 := Z1.out; have y2 := Z2.out; have y3 := Z3.out; have y4 := Z4.out; have y5 := Z5.out; have y6 := Z6.out; have y7 := Z7.out; have y8 := Z8.out; have y9 := Z9.out; have y10 := Z10.out; have y11 := Z11.out; have y12 := Z12.out; have y13 := Z13.out; have y14 := Z14.out; have y15 := Z15.out; have y16 := Z16.out; have y17 := Z17.out; have y18 := Z18.out; omega)) (fun e => by have h1 := LC.out; have h2 := LQ.out _ e; have y1 := Z1.out; have y2 := Z2.out; have y3 := Z3.out; have y4 := Z4.out; have y5 := Z5.out; have y6 := Z6.out; have y7 := Z7.out; have y8 := Z8.out; have y9 := Z9.out; have y10 := Z10.out; have y11 := Z11.out; have y12 := Z12.out; have y13 := Z13.out; have y14 := Z14.out; have y15 := Z15.out; have y16 := Z16.out; have y17 := Z17.out; have y18 := Z18.out; omega) (by have h1 := LC.out; have y1 := Z1.out; have y2 := Z2.out; have y3 := Z3.out; have y4 := Z4.out; have y5 := Z5.out; have y6 := Z6.out; have y7 := Z7.out; have y8 := Z8.out; have y9 := Z9.out; have y10 := Z10.out; have y11 := Z11.out; have y12 := Z12.out; have y13 := Z13.out; have y14 := Z14.out; have y15 := Z15.out; have y16 := Z16.out; have y17 := Z17.out; have y18 := Z18.out; omega)) (fun e => by have h1 := LC.out; have h2 := LR.out _ e; have y1 := Z1.out; have y2 := Z2.out; have y3 := Z3.out; have y4 := Z4.out; have y5 := Z5.out; have y6 := Z6.out; have y7 := Z7.out; have y8 := Z8.out; have y9 := Z9.out; have y10 := Z10.out; have y11 := Z11.out; have y12 := Z12.out; have y13 := Z13.out; have y14 := Z14.out; have y15 := Z15.out; have y16 := Z16.out; have y17 := Z17.out; have y18 := Z18.out; omega) (by have h1 := LC.out; have y1 := Z1.out; have y2 := Z2.out; have y3 := Z3.out; have y4 := Z4.out; have y5 := Z5.out; have y6 := Z6.out; have y7 := Z7.out; have y8 := Z8.out; have y9 := Z9.out; have y10 := Z10.out; have y11 := Z11.out; have y12 := Z12.out; have y13 := Z13.out; have y14 := Z14.out; have y15 := Z15.out; have y16 := Z16.out; have y17 := Z17.out; have y18 := Z18.out; omega)) (fun e => by have h1 := LC.out; have h2 := LZ.out _ e; have y1 := Z1.out; have y2 := Z2.out; have y3 := Z3.out; have y4 := Z4.out; have y5 := Z5.out; have y6 := Z6.out; have y7 := Z7.out; have y8 := Z8.out; have y9 := Z9.out; have y10 := Z10.out; have y11 := Z11.out; have y12 := Z12.out; have y13 := Z13.out; have y14 := Z14.out; have y15 := Z15.out; have y16 := Z16.out; have y17 := Z17.out; have y18 := Z18.out; omega) (by have h1 := LC.out; have y1 := Z1.out; have y2 := Z2.out; have y3 := Z3.out; have y4 := Z4.out; have y5 := Z5.out; have y6 := Z6.out; have y7 := Z7.out; have y8 := Z8.out; have y9 := Z9.out; have y10 := Z10.out; have y11 := Z11.out; have y12 := Z12.out; have y13 := Z13.out; have y14 := Z14.out; have y15 := Z15.out; have y16 := Z16.out; have y17 := Z17.out; have y18 := Z18.out; omega)) ht
  have HDa : Hid (Out w1.heap.size wa (.slice (some ⟨gd, 0, none⟩) (m + 3) cd) (m + 3) (lentD b m)) := by
    refine HD.out.of_block fun g hg => ?_
    have e : gd = g := by simpa [Value.ownBlock] using hg
    refine HWa.out.block g (HD.out.ge hg).2 ?_
    have h1 := LC.out; have h2 := LD.out; omega
  have HX : Hid (RowX gd wa bo m cb b) := RowX.of0 HRB.out HBa.out (by have h1 := LD.out; have h0 := HS0.out; have y1 := Z1.out; have y2 := Z2.out; have y3 := Z3.out; have y4 := Z4.out; have y5 := Z5.out; have y6 := Z6.out; have y7 := Z7.out; have y8 := Z8.out; have y9 := Z9.out; have y10 := Z10.out; have y11 := Z11.out; have y12 := Z12.out; have y13 := Z13.out; have y14 := Z14.out; have y15 := Z15.out; have y16 := Z16.out; have y17 := Z17.out; have y18 := Z18.out; omega)
  go_wp2_with fail
  refine (back_any HDa.out HX.out (HRB.out.stays HBa.out (Nat.le_refl _)) (by omega)).mono ?_
  rintro e wb ⟨rfl, hwr⟩
  have HWb : Hid (Wr gd wa wb) := hwr
  clear hwr HX
  have HBb : Hid (Below w0.heap.size w0 wb) := HWb.out.below HBa.out HBa.out.size (by have h1 := LD.out; have h0 := HS0.out; have y1 := Z1.out; have y2 := Z2.out; have y3 := Z3.out; have y4 := Z4.out; have y5 := Z5.out; have y6 := Z6.out; have y7 := Z7.out; have y8 := Z8.out; have y9 := Z9.out; have y10 := Z10.out; have y11 := Z11.out; have y12 := Z12.out; have y13 := Z13.out; have y14 := Z14.out; have y15 := Z15.out; have y16 := Z16.out; have y17 := Z17.out; have y18 := Z18.out; omega)
  have HKb : Hid (Kept w0.heap.size wb k (S2 (S2 (S2 (S2 (S2 (fun g => g < w.heap.size) (.slice so sn sc) w10.heap.size) (.slice po pn pc) w12.heap.size) (.slice qo qn qc) w14.heap.size) (.slice ro rn rc) w15.heap.size) (.slice zo zn zc) w17.heap.size)) := by
    obtain ⟨cur, z, ht⟩ := HDa.out.typed (g := gd) rfl
    exact HKa.out.wr HWb.out (notS2 (notS2 (notS2 (notS2 (notS2 (fun (h : gd < w.heap.size) => by have h1 := LD.out; have y1 := Z1.out; have y2 := Z2.out; have y3 := Z3.out; have y4 := Z4.out; have y5 := Z5.out; have y6 := Z6.out; have y7 := Z7.out; have y8 := Z8.out; have y9 := Z9.out; have y10 := Z10.out; have y11 := Z11.out; have y12 := Z12.out; have y13 := Z13.out; have y14 := Z14.out; have y15 := Z15.out; have y16 := Z16.out; have y17 := Z17.out; have y18 := Z18.out; omega) (fun e => by have h1 := LD.out; have h2 := LS.out _ e; have y1 := Z1.out; have y2 := Z2.out; have y3 := Z3.out; have y4 := Z4.out; have y5 := Z5.out; have y6 := Z6.out; have y7 := Z7.out; have y8 := Z8.out; have y9 := Z9.out; have y10 := Z10.out; have y11 := Z11.out; have y12 := Z12.out; have y13 := Z13.out; have y14 := Z14.out; have y15 := Z15.out; have y16 := Z16.out; have y17 := Z17.out; have y18 := Z18.out; omega) (by have h1 := LD.out; have y1 := Z1.out; have y2 := Z2.out; have y3 := Z3.out; have y4 := Z4.out; have y5 := Z5.out; have y6 := Z6.out; have y7 := Z7.out; have y8 := Z8.out; have y9 := Z9.out; have y10 := Z10.out; have y11 := Z11.out; have y12 := Z12.out; have y13 := Z13.out; have y14 := Z14.out; have y15 := Z15.out; have y16 := Z16.out; have y17 := Z17.out; have y18 := Z18.out; omega)) (fun e => by have h1 := LD.out; have h2 := LP.out _ e; have y1 := Z1.out; have y2 := Z2.out; have y3 := Z3.out; have y4 := Z4.out; have y5 := Z5.out; have y6 := Z6.out; have y7 := Z7.out; have y8 := Z8.out; have y9 := Z9.out; have y10 := Z10.out; have y11 := Z11.out; have y12 := Z12.out; have y13 := Z13.out; have y14 := Z14.out; have y15 := Z15.out; have y16 := Z16.out; have y17 := Z17.out; have y18 := Z18.out; omega) (by have h1 := LD.out; have y1 := Z1.out; have y2 := Z2.out; have y3 := Z3.out; have y4 := Z4.out; have y5 := Z5.out; have y6 := Z6.out; have y7 := Z7.out; have y8 := Z8.out; have y9 := Z9.out; have y10 := Z10.out; have y11 := Z11.out; have y12 := Z12.out; have y13 := Z13.out; have y14 := Z14.out; have y15 := Z15.out; have y16 := Z16.out; have y17 := Z17.out; have y18 := Z18.out; omega)) (fun e => by have h1 := LD.out; have h2 := LQ.out _ e; have y1 := Z1.out; have y2 := Z2.out; have y3 := Z3.out; have y4 := Z4.out; have y5 := Z5.out; have y6 := Z6.out; have y7 := Z7.out; have y8 := Z8.out; have y9 := Z9.out; have y10 := Z10.out; have y11 := Z11.out; have y12 := Z12.out; have y13 := Z13.out; have y14 := Z14.out; have y15 := Z15.out; have y16 := Z16.out; have y17 := Z17.out; have y18 := Z18.out; omega) (by have h1 := LD.out; have y1 := Z1.out; have y2 := Z2.out; have y3 := Z3.out; have y4 := Z4.out; have y5 := Z5.out; have y6 := Z6.out; have y7 := Z7.out; have y8 := Z8.out; have y9 := Z9.out; have y10 := Z10.out; have y11 := Z11.out; have y12 := Z12.out; have y13 := Z13.out; have y14 := Z14.out; have y15 := Z15.out; have y16 := Z16.out; have y17 := Z17.out; have y18 := Z18.out; omega)) (fun e => by have h1 := LD.out; have h2 := LR.out _ e; have y1 := Z1.out; have y2 := Z2.out; have y3 := Z3.out; have y4 := Z4.out; have y5 := Z5.out; have y6 := Z6.out; have y7 := Z7.out; have y8 := Z8.out; have y9 := Z9.out; have y10 := Z10.out; have y11 := Z11.out; have y12 := Z12.out; have y13 := Z13.out; have y14 := Z14.out; have y15 := Z15.out; have y16 := Z16.out; have y17 := Z17.out; have y18 := Z18.out; omega) (by have h1 := LD.out; have y1 := Z1.out; have y2 := Z2.out; have y3 := Z3.out; have y4 := Z4.out; have y5 := Z5.out; have y6 := Z6.out; have y7 := Z7.out; have y8 := Z8.out; have y9 := Z9.out; have y10 := Z10.out; have y11 := Z11.out; have y12 := Z12.out; have y13 := Z13.out; have y14 := Z14.out; have y15 := Z15.out; have y16 := Z16.out; have y17 := Z17.out; have y18 := Z18.out; omega)) (fun e => by have h1 := LD.out; have h2 := LZ.out _ e; have y1 := Z1.out; have y2 := Z2.out; have y3 := Z3.out; have y4 := Z4.out; have y5 := Z5.out; have y6 := Z6.out; have y7 := Z7.out; have y8 := Z8.out; have y9 := Z9.out; have y10 := Z10.out; have y11 := Z11.out; have y12 := Z12.out; have y13 := Z13.out; have y14 := Z14.out; have y15 := Z15.out; have y16 := Z16.out; have y17 := Z17.out; have y18 := Z18.out; omega) (by have h1 := LD.out; have y1 := Z1.out; have y2 := Z2.out; have y3 := Z3.out; have y4 := Z4.out; have y5 := Z5.out; have y6 := Z6.out; have y7 := Z7.out; have y8 := Z8.out; have y9 := Z9.out; have y10 := Z10.out; have y11 := Z11.out; have y12 := Z12.out; have y13 := Z13.out; have y14 := Z14.out; have y15 := Z15.out; have y16 := Z16.out; have y17 := Z17.out; have y18 := Z18.out; omega)) ht
  go_wp2
  go_ret
  exact ⟨rfl, HBb.out, _, HKb.out, (IK.out.fr.wr HWa.out LC.out.1 IK.out.below.size).wr HWb.out (by have h1 := LD.out; have y1 := Z1.out; omega) (Nat.le_trans IK.out.below.size HWa.out.size)⟩
end Go.Proofs.YtmbajngbiefilaaGreatDoor
