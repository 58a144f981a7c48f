/-
  plumblaw7.pairs, by its contract: Sum, Diff and Product are the document's.
-/
import Derived.Test.YtjlmpgbadgkgmaaGreatDoorPart27
import Derived.Test.YtjlmpgbadgkgmaaGreatDoorPart28
namespace Go.Proofs.YtjlmpgbadgkgmaaGreatDoor
open Go Go.RowKit Go.Proofs.YtjlmpgbadgkgmaaGreatDoor.M
set_option linter.unusedSimpArgs false
set_option linter.unusedVariables false

set_option maxRecDepth 100000 in
set_option maxHeartbeats 4000000 in
theorem pairs_ok {k n ec m fc : Nat} {eo fo : Option Addr} {d f : Nat → Int} {S : Nat → Prop} (w0 w : World) (hb0 : Below w0.heap.size w0 w) (H : Hold4 w0) (he : Row w0 eo n ec d) (hf : Row w0 fo m fc f) (hr : ∀ i, i < n → rng (d i)) (hrf : ∀ i, i < m → rng (f i)) (hn : n ≤ 120) (hm : m ≤ 120) (hnm : n * m ≤ 400) (hk : KeptE w0.heap.size w k S) (hv : xval d n = true) (hu : xval f m = true) :
    Calls Tryz.prog 8 #[.pointer (some ⟨k, 0, none⟩), .slice eo n ec, .slice fo m fc] w fun e w' => e = .returned (.bool true) ∧ Below w0.heap.size w0 w' ∧ ∃ S', KeptE w0.heap.size w' k S' := by
  have HE : Hid (Row w0 eo n ec d) := he
  have HF : Hid (Row w0 fo m fc f) := hf
  have HH : Hid (Hold4 w0) := H
  have HK : Hid (KeptE w0.heap.size w k (fun g => g < w.heap.size)) := hk.old
  have HB0 : Hid (Below w0.heap.size w0 w) := hb0
  have hle := he.le
  have hmx := he.max
  have hlf := hf.le
  have hmf := hf.max
  have CL : Hid (∀ W, Row W eo n ec d → Calls Tryz.prog 13 #[.slice eo n ec] W fun e w' => ∃ v, e = .returned v ∧ LentA W w' v n d) := fun W h => lent_any eo n ec d W h (by omega)
  have CM : Hid (∀ W, Row W fo m fc f → Calls Tryz.prog 13 #[.slice fo m fc] W fun e w' => ∃ v, e = .returned v ∧ LentA W w' v m f) := fun W h => lent_any fo m fc f W h (by omega)
  have CV : Hid (∀ W, Row W eo n ec d → Calls Tryz.prog 14 #[.slice eo n ec] W fun e w' => e = .returned (.bool (xval d n)) ∧ Below W.heap.size W w') := fun W h => r7valid_any W h hr (by omega)
  have CU : Hid (∀ W, Row W fo m fc f → Calls Tryz.prog 14 #[.slice fo m fc] W fun e w' => e = .returned (.bool (xval f m)) ∧ Below W.heap.size W w') := fun W h => r7valid_any W h hrf (by omega)
  rw [hv] at CV
  rw [hu] at CU
  have hfin : ∀ i, i < n → rng (d i) ∧ pok (d i) = true := fun i hi => ⟨hr i hi, xval_fin hv i hi⟩
  have hffin : ∀ i, i < m → rng (f i) ∧ pok (f i) = true := fun i hi => ⟨hrf i hi, xval_fin hu i hi⟩
  have hprn : (prS d n f m).n ≤ 4000 := Nat.le_trans (prS_le d n f m) (by rw [Nat.mul_assoc]; omega)
  have CS : Hid (∀ W eo ec fo fc, Row W eo n ec d → Row W fo m fc f → Hold4 W → Calls Tryz.prog 22 #[.slice eo n ec, .slice fo m fc] W fun r w' => ∃ lo lc, r = .returned (.tuple #[.slice lo (lsX (gaX ⟨n, d⟩ f m) (gaS ⟨n, d⟩ f m)).n lc, .int .i64 (erX (gaX ⟨n, d⟩ f m))]) ∧ OutE W.heap.size w' (.slice lo (lsX (gaX ⟨n, d⟩ f m) (gaS ⟨n, d⟩ f m)).n lc) (lsX (gaX ⟨n, d⟩ f m) (gaS ⟨n, d⟩ f m)).n (lsX (gaX ⟨n, d⟩ f m) (gaS ⟨n, d⟩ f m)).d ∧ Below W.heap.size W w') := fun W eo ec fo fc hR hRf hW => (xSum W hR hRf hr hrf hv hu (by omega) hW).mono fun _ _ hx => hx.uni
  have RS : Hid (∀ W, Row W eo n ec d → Row W fo m fc f → Calls Tryz.prog 25 #[.slice eo n ec, .slice fo m fc] W fun r w' => ∃ po pc, r = .returned (.tuple #[.slice po (lsX (gaX ⟨n, d⟩ f m) (gaS ⟨n, d⟩ f m)).n pc, .int .i64 (erX (gaX ⟨n, d⟩ f m))]) ∧ Out W.heap.size w' (.slice po (lsX (gaX ⟨n, d⟩ f m) (gaS ⟨n, d⟩ f m)).n pc) (lsX (gaX ⟨n, d⟩ f m) (gaS ⟨n, d⟩ f m)).n (lsX (gaX ⟨n, d⟩ f m) (gaS ⟨n, d⟩ f m)).d ∧ Below W.heap.size W w') := fun W hR hRf => r7Sum_any W hR hRf hfin hffin (by omega)
  have hnS : (lsX (gaX ⟨n, d⟩ f m) (gaS ⟨n, d⟩ f m)).n ≤ 100000 := by
    have := gaS_le ⟨n, d⟩ f m
    have : (gaS ⟨n, d⟩ f m).n ≤ n + m := this
    unfold lsX
    split <;> simp <;> omega
  generalize lsX (gaX ⟨n, d⟩ f m) (gaS ⟨n, d⟩ f m) = LS at *
  generalize erX (gaX ⟨n, d⟩ f m) = eS at *
  have CD : Hid (∀ W eo ec fo fc, Row W eo n ec d → Row W fo m fc f → Hold4 W → Calls Tryz.prog 23 #[.slice eo n ec, .slice fo m fc] W fun r w' => ∃ lo lc, r = .returned (.tuple #[.slice lo (lsX (gaX ⟨n, d⟩ (fun i => neg (f i)) m) (gaS ⟨n, d⟩ (fun i => neg (f i)) m)).n lc, .int .i64 (erX (gaX ⟨n, d⟩ (fun i => neg (f i)) m))]) ∧ OutE W.heap.size w' (.slice lo (lsX (gaX ⟨n, d⟩ (fun i => neg (f i)) m) (gaS ⟨n, d⟩ (fun i => neg (f i)) m)).n lc) (lsX (gaX ⟨n, d⟩ (fun i => neg (f i)) m) (gaS ⟨n, d⟩ (fun i => neg (f i)) m)).n (lsX (gaX ⟨n, d⟩ (fun i => neg (f i)) m) (gaS ⟨n, d⟩ (fun i => neg (f i)) m)).d ∧ Below W.heap.size W w') := fun W eo ec fo fc hR hRf hW => (xDiff W hR hRf hr hrf hv hu (by omega) hW).mono fun _ _ hx => hx.uni
  have RD : Hid (∀ W, Row W eo n ec d → Row W fo m fc f → Calls Tryz.prog 26 #[.slice eo n ec, .slice fo m fc] W fun r w' => ∃ po pc, r = .returned (.tuple #[.slice po (lsX (gaX ⟨n, d⟩ (fun i => neg (f i)) m) (gaS ⟨n, d⟩ (fun i => neg (f i)) m)).n pc, .int .i64 (erX (gaX ⟨n, d⟩ (fun i => neg (f i)) m))]) ∧ Out W.heap.size w' (.slice po (lsX (gaX ⟨n, d⟩ (fun i => neg (f i)) m) (gaS ⟨n, d⟩ (fun i => neg (f i)) m)).n pc) (lsX (gaX ⟨n, d⟩ (fun i => neg (f i)) m) (gaS ⟨n, d⟩ (fun i => neg (f i)) m)).n (lsX (gaX ⟨n, d⟩ (fun i => neg (f i)) m) (gaS ⟨n, d⟩ (fun i => neg (f i)) m)).d ∧ Below W.heap.size W w') := fun W hR hRf => r7Diff_any W hR hRf hfin hffin (by omega)
  have hnD : (lsX (gaX ⟨n, d⟩ (fun i => neg (f i)) m) (gaS ⟨n, d⟩ (fun i => neg (f i)) m)).n ≤ 100000 := by
    have := gaS_le ⟨n, d⟩ (fun i => neg (f i)) m
    have : (gaS ⟨n, d⟩ (fun i => neg (f i)) m).n ≤ n + m := this
    unfold lsX
    split <;> simp <;> omega
  generalize lsX (gaX ⟨n, d⟩ (fun i => neg (f i)) m) (gaS ⟨n, d⟩ (fun i => neg (f i)) m) = LD at *
  generalize erX (gaX ⟨n, d⟩ (fun i => neg (f i)) m) = eD at *
  have CP : Hid (∀ W eo ec fo fc, Row W eo n ec d → Row W fo m fc f → Hold4 W → Calls Tryz.prog 24 #[.slice eo n ec, .slice fo m fc] W fun r w' => ∃ lo lc, r = .returned (.tuple #[.slice lo (lsX (prX d n f m) (prS d n f m)).n lc, .int .i64 (erX (prX d n f m))]) ∧ OutE W.heap.size w' (.slice lo (lsX (prX d n f m) (prS d n f m)).n lc) (lsX (prX d n f m) (prS d n f m)).n (lsX (prX d n f m) (prS d n f m)).d ∧ Below W.heap.size W w') := fun W eo ec fo fc hR hRf hW => (xProduct W hR hRf hr hrf hv hu (by omega) (by omega) hW).mono fun _ _ hx => hx.uni
  have RP : Hid (∀ W, Row W eo n ec d → Row W fo m fc f → Calls Tryz.prog 27 #[.slice eo n ec, .slice fo m fc] W fun r w' => ∃ po pc, r = .returned (.tuple #[.slice po (lsX (prX d n f m) (prS d n f m)).n pc, .int .i64 (erX (prX d n f m))]) ∧ Out W.heap.size w' (.slice po (lsX (prX d n f m) (prS d n f m)).n pc) (lsX (prX d n f m) (prS d n f m)).n (lsX (prX d n f m) (prS d n f m)).d ∧ Below W.heap.size W w') := fun W hR hRf => r7Product_any W hR hRf hfin hffin (by omega) (by omega) hprn
  have hnP : (lsX (prX d n f m) (prS d n f m)).n ≤ 100000 := by
    have := hprn
    unfold lsX
    split <;> simp <;> omega
  generalize lsX (prX d n f m) (prS d n f m) = LP at *
  generalize erX (prX d n f m) = eP at *
  clear hfin hffin hprn
  clear hk he hf H hb0 hr hrf
  have HB0w : Hid (Below w0.heap.size w0 w) := HB0
  have s00 := HB0.out.size
  go_enter Tryz.func8, Tryz.ntmps8
  go_wp2_with fail
  refine (CL.out _ (HE.out.keeps HB0w.out)).mono ?_
  rintro _ w1 ⟨v1, rfl, hLA⟩
  have hb1 := hLA.below
  obtain ⟨gA, cA, rfl, hLO⟩ := hLA.parts
  obtain ⟨hclA, hcmA⟩ := lent_cap hLO
  have HLOA : Hid (Out w.heap.size w1 (.slice (some ⟨gA, 0, none⟩) (n + 3) cA) (n + 3) (lentD d n)) := hLO
  have HB1 : Hid (Below w.heap.size w w1) := hb1
  have HB01 : Hid (Below w0.heap.size w0 w1) := HB0w.out.trans (hb1.mono HB0w.out.size)
  have sw_1 := hb1.size
  have hgA := hLO.ge (g := gA) rfl
  clear hLA hLO hb1
  go_wp2_with fail
  refine (CM.out _ (HF.out.keeps HB01.out)).mono ?_
  rintro _ w2 ⟨v2, rfl, hLA⟩
  have hb2 := hLA.below
  obtain ⟨gB, cB, rfl, hLO⟩ := hLA.parts
  obtain ⟨hclB, hcmB⟩ := lent_cap hLO
  have HLOB : Hid (Out w1.heap.size w2 (.slice (some ⟨gB, 0, none⟩) (m + 3) cB) (m + 3) (lentD f m)) := hLO
  have HB2 : Hid (Below w1.heap.size w1 w2) := hb2
  have HB02 : Hid (Below w0.heap.size w0 w2) := HB01.out.trans (hb2.mono HB01.out.size)
  have s1_2 := hb2.size
  have hgB := hLO.ge (g := gB) rfl
  clear hLA hLO hb2
  go_wp2_with fail
  have HRa2 : Hid (Row w2 (some ⟨gA, 0, none⟩) n cA d) := (lent_row HLOA.out).keeps HB2.out
  have HRb2 : Hid (Row w2 (some ⟨gB, 0, none⟩) m cB f) := lent_row HLOB.out
  have in0 : (0 : Int) ≤ (n : Int) := by omega
  have im0 : (0 : Int) ≤ (m : Int) := by omega
  have inA : (n : Int) ≤ (cA : Int) := by omega
  have imB : (m : Int) ≤ (cB : Int) := by omega
  go_region_held3 (fun _ => True) (first | trivial | fail)
    (first | (go_at_call 22; refine (CS.out _ _ _ _ _ (HRa2.out.keeps (bel_refl _).drew) (HRb2.out.keeps (bel_refl _).drew) (HH.out.keeps HB02.out.drew)).mono ?_; rintro _ w3 ⟨xSo, xSc, rfl, hO3, hb3'⟩))
  have hb3 := bel_trans (bel_refl w2).drew hb3'
  clear hb3'
  have HOS : Hid (OutE w2.heap.size w3 (.slice xSo LS.n xSc) LS.n LS.d) := hO3
  have HGS : Hid (∀ g, ownE (.slice xSo LS.n xSc) = some g → w2.heap.size ≤ g ∧ g < w3.heap.size) := fun g hg => hO3.ge hg
  clear hO3
  have HB3 : Hid (Below w2.heap.size w2 w3) := hb3
  have HB03 : Hid (Below w0.heap.size w0 w3) := HB02.out.trans (hb3.mono HB02.out.size)
  have s2_3 := hb3.size
  have HRa3 : Hid (Row w3 (some ⟨gA, 0, none⟩) n cA d) := HRa2.out.keeps hb3
  have HRb3 : Hid (Row w3 (some ⟨gB, 0, none⟩) m cB f) := HRb2.out.keeps hb3
  clear hb3
  go_wp2_with fail
  go_region_held3 (fun _ => True) (first | trivial | fail)
    (first | (go_at_call 23; refine (CD.out _ _ _ _ _ (HRa3.out.keeps (bel_refl _).drew) (HRb3.out.keeps (bel_refl _).drew) (HH.out.keeps HB03.out.drew)).mono ?_; rintro _ w4 ⟨xDo, xDc, rfl, hO4, hb4'⟩))
  have hb4 := bel_trans (bel_refl w3).drew hb4'
  clear hb4'
  have HOD : Hid (OutE w3.heap.size w4 (.slice xDo LD.n xDc) LD.n LD.d) := hO4
  have HGD : Hid (∀ g, ownE (.slice xDo LD.n xDc) = some g → w3.heap.size ≤ g ∧ g < w4.heap.size) := fun g hg => hO4.ge hg
  clear hO4
  have HB4 : Hid (Below w3.heap.size w3 w4) := hb4
  have HB04 : Hid (Below w0.heap.size w0 w4) := HB03.out.trans (hb4.mono HB03.out.size)
  have s3_4 := hb4.size
  have HRa4 : Hid (Row w4 (some ⟨gA, 0, none⟩) n cA d) := HRa3.out.keeps hb4
  have HRb4 : Hid (Row w4 (some ⟨gB, 0, none⟩) m cB f) := HRb3.out.keeps hb4
  clear hb4
  go_wp2_with fail
  go_region_held3 (fun _ => True) (first | trivial | fail)
    (first | (go_at_call 24; refine (CP.out _ _ _ _ _ (HRa4.out.keeps (bel_refl _).drew) (HRb4.out.keeps (bel_refl _).drew) (HH.out.keeps HB04.out.drew)).mono ?_; rintro _ w5 ⟨xPo, xPc, rfl, hO5, hb5'⟩))
  have hb5 := bel_trans (bel_refl w4).drew hb5'
  clear hb5'
  have HOP : Hid (OutE w4.heap.size w5 (.slice xPo LP.n xPc) LP.n LP.d) := hO5
  have HGP : Hid (∀ g, ownE (.slice xPo LP.n xPc) = some g → w4.heap.size ≤ g ∧ g < w5.heap.size) := fun g hg => hO5.ge hg
  clear hO5
  have HB5 : Hid (Below w4.heap.size w4 w5) := hb5
  have HB05 : Hid (Below w0.heap.size w0 w5) := HB04.out.trans (hb5.mono HB04.out.size)
  have s4_5 := hb5.size
  have HRa5 : Hid (Row w5 (some ⟨gA, 0, none⟩) n cA d) := HRa4.out.keeps hb5
  have HRb5 : Hid (Row w5 (some ⟨gB, 0, none⟩) m cB f) := HRb4.out.keeps hb5
  clear hb5
  go_wp2_with fail
  have HB15 : Hid (Below w1.heap.size w1 w5) := bel_trans (bel_trans (bel_trans HB2.out HB3.out) HB4.out) HB5.out
  have HB25 : Hid (Below w2.heap.size w2 w5) := bel_trans (bel_trans HB3.out HB4.out) HB5.out
  have CB := back_any (HLOA.out.stays HB15.out) (RowX.of0 HE.out HB05.out (by omega)) (HE.out.keeps HB05.out) (show n ≤ 100000 by omega)
  refine CB.mono ?_
  rintro _ w6 ⟨rfl, hW6⟩
  have HW6 : Hid (Wr gA w5 w6) := hW6
  have s5_6 := hW6.size
  have HB06 : Hid (Below w0.heap.size w0 w6) := hW6.below HB05.out HB05.out.size (by omega)
  have HK6 : Hid (KeptE w0.heap.size w6 k (fun g => g < w.heap.size)) := by
    obtain ⟨cur, z, hc⟩ := (HLOA.out.stays HB15.out).typed (g := gA) rfl
    exact (HK.out.keeps (HB1.out.trans (HB15.out.mono (by omega)))).wr hW6 (by omega) hc
  have HLB6 : Hid (Out w1.heap.size w6 (.slice (some ⟨gB, 0, none⟩) (m + 3) cB) (m + 3) (lentD f m)) := (HLOB.out.stays HB25.out).of_block fun g hg => hW6.block g ((HLOB.out.stays HB25.out).ge hg).2 (by have := ((HLOB.out.stays HB25.out).ge hg).1; omega)
  clear hW6 CB HK
  have CB := back_any HLB6.out (RowX.of0 HF.out HB06.out (by omega)) (HF.out.keeps HB06.out) (show m ≤ 100000 by omega)
  go_wp2_with fail
  refine CB.mono ?_
  rintro _ w7 ⟨rfl, hW7⟩
  have HW7 : Hid (Wr gB w6 w7) := hW7
  have s6_7 := hW7.size
  have HB07 : Hid (Below w0.heap.size w0 w7) := hW7.below HB06.out HB06.out.size (by omega)
  have HK7 : Hid (KeptE w0.heap.size w7 k (fun g => g < w.heap.size)) := by
    obtain ⟨cur, z, hc⟩ := HLB6.out.typed (g := gB) rfl
    exact HK6.out.wr hW7 (by omega) hc
  clear hW7 CB HK6
  go_wp2_with fail
  refine (CV.out _ (HE.out.keeps HB07.out)).mono ?_
  rintro _ w8 ⟨rfl, hb8⟩
  have HB8 : Hid (Below w7.heap.size w7 w8) := hb8
  have HB08 : Hid (Below w0.heap.size w0 w8) := HB07.out.trans (hb8.mono HB07.out.size)
  have s7_8 := hb8.size
  clear hb8
  go_wp2_with fail
  refine (CU.out _ (HF.out.keeps HB08.out)).mono ?_
  rintro _ w9 ⟨rfl, hb9⟩
  have HB9 : Hid (Below w8.heap.size w8 w9) := hb9
  have HB09 : Hid (Below w0.heap.size w0 w9) := HB08.out.trans (hb9.mono HB08.out.size)
  have s8_9 := hb9.size
  clear hb9
  go_wp2_with fail
  refine (RS.out _ (HE.out.keeps HB09.out) (HF.out.keeps HB09.out)).mono ?_
  rintro _ w10 ⟨pSo, pSc, rfl, hp10, hb10⟩
  have HPS : Hid (Out w9.heap.size w10 (.slice pSo LS.n pSc) LS.n LS.d) := hp10
  have HB10 : Hid (Below w9.heap.size w9 w10) := hb10
  have HB010 : Hid (Below w0.heap.size w0 w10) := HB09.out.trans (hb10.mono HB09.out.size)
  have s9_10 := hb10.size
  clear hp10 hb10
  go_wp2_with fail
  refine (RD.out _ (HE.out.keeps HB010.out) (HF.out.keeps HB010.out)).mono ?_
  rintro _ w11 ⟨pDo, pDc, rfl, hp11, hb11⟩
  have HPD : Hid (Out w10.heap.size w11 (.slice pDo LD.n pDc) LD.n LD.d) := hp11
  have HB11 : Hid (Below w10.heap.size w10 w11) := hb11
  have HB011 : Hid (Below w0.heap.size w0 w11) := HB010.out.trans (hb11.mono HB010.out.size)
  have s10_11 := hb11.size
  clear hp11 hb11
  go_wp2_with fail
  refine (RP.out _ (HE.out.keeps HB011.out) (HF.out.keeps HB011.out)).mono ?_
  rintro _ w12 ⟨pPo, pPc, rfl, hp12, hb12⟩
  have HPP : Hid (Out w11.heap.size w12 (.slice pPo LP.n pPc) LP.n LP.d) := hp12
  have HB12 : Hid (Below w11.heap.size w11 w12) := hb12
  have HB012 : Hid (Below w0.heap.size w0 w12) := HB011.out.trans (hb12.mono HB011.out.size)
  have s11_12 := hb12.size
  clear hp12 hb12
  go_wp2_with fail
  have HB79 : Hid (Below w7.heap.size w7 w12) := bel_trans (bel_trans (bel_trans (bel_trans HB8.out HB9.out) HB10.out) HB11.out) HB12.out
  have HKL : Hid (KeptE w0.heap.size w12 k (fun g => g < w.heap.size)) := HK7.out.keeps HB79.out
  have HOSL : Hid (OutE w0.heap.size w12 (.slice xSo LS.n xSc) LS.n LS.d) := ((((((HOS.out.stays HB4.out).stays HB5.out).wr HW6.out (by omega)).wr HW7.out (by omega)).stays HB79.out).lower (by omega))
  have HODL : Hid (OutE w0.heap.size w12 (.slice xDo LD.n xDc) LD.n LD.d) := (((((HOD.out.stays HB5.out).wr HW6.out (by omega)).wr HW7.out (by omega)).stays HB79.out).lower (by omega))
  have HOPL : Hid (OutE w0.heap.size w12 (.slice xPo LP.n xPc) LP.n LP.d) := ((((HOP.out.wr HW6.out (by omega)).wr HW7.out (by omega)).stays HB79.out).lower (by omega))
  have HPSL : Hid (Rd w0.heap.size w12 pSo LS.n pSc LS.d) := (((HPS.out.stays HB11.out).stays HB12.out).lower (by omega)).rd
  have HPDL : Hid (Rd w0.heap.size w12 pDo LD.n pDc LD.d) := ((HPD.out.stays HB12.out).lower (by omega)).rd
  have HPPL : Hid (Rd w0.heap.size w12 pPo LP.n pPc LP.d) := (HPP.out.lower (by omega)).rd
  refine (is7_add (er := eS) (ld := LS.d) HKL.out HOSL.out HPSL.out hnS (by omega) (fun g hg => by have := HGS.out g hg; omega)).mono ?_
  rintro _ w13 ⟨rfl, hI13, hK13⟩
  have s12_13 := hI13.below.size
  have HI13 : Hid (Ik w0.heap.size w12 w13) := hI13
  have HK13 : Hid (KeptE w0.heap.size w13 k (S2E (fun g => g < w.heap.size) (.slice xSo LS.n xSc) w12.heap.size)) := hK13
  clear hI13 hK13
  go_wp2_with fail
  refine (is7_add (er := eD) (ld := LD.d) HK13.out (HODL.out.ik HI13.out) (HPDL.out.ik HI13.out) hnD (by omega) (fun g hg => by
    have h1 := HGD.out g hg
    exact S2E.not (by omega) (fun h => by have := HGS.out g h; omega) (by omega))).mono ?_
  rintro _ w14 ⟨rfl, hI14, hK14⟩
  have s13_14 := hI14.below.size
  have HI14 : Hid (Ik w0.heap.size w13 w14) := hI14
  have HK14 : Hid (KeptE w0.heap.size w14 k (S2E (S2E (fun g => g < w.heap.size) (.slice xSo LS.n xSc) w12.heap.size) (.slice xDo LD.n xDc) w13.heap.size)) := hK14
  clear hI14 hK14
  go_wp2_with fail
  refine (is7_add (er := eP) (ld := LP.d) HK14.out ((HOPL.out.ik HI13.out).ik HI14.out) ((HPPL.out.ik HI13.out).ik HI14.out) hnP (by omega) (fun g hg => by
    have h1 := HGP.out g hg
    exact S2E.not (S2E.not (by omega) (fun h => by have := HGS.out g h; omega) (by omega)) (fun h => by have := HGD.out g h; omega) (by omega))).mono ?_
  rintro _ w15 ⟨rfl, hI15, hK15⟩
  have HFI : Below w0.heap.size w0 w15 := ((HB012.out.trans HI13.out.below).trans HI14.out.below).trans hI15.below
  go_wp2
  go_ret
  exact ⟨rfl, HFI, _, hK15⟩
set_option maxRecDepth 100000 in
set_option maxHeartbeats 4000000 in
theorem pairs_badA {k n ec m fc : Nat} {eo fo : Option Addr} {d f : Nat → Int} {S : Nat → Prop} (w0 w : World) (hb0 : Below w0.heap.size w0 w) (H : Hold4 w0) (he : Row w0 eo n ec d) (hf : Row w0 fo m fc f) (hr : ∀ i, i < n → rng (d i)) (hrf : ∀ i, i < m → rng (f i)) (hn : n ≤ 120) (hm : m ≤ 120) (hnm : n * m ≤ 400) (hk : KeptE w0.heap.size w k S) (hv : xval d n = false) :
    Calls Tryz.prog 8 #[.pointer (some ⟨k, 0, none⟩), .slice eo n ec, .slice fo m fc] w fun e w' => e = .returned (.bool true) ∧ Below w0.heap.size w0 w' ∧ ∃ S', KeptE w0.heap.size w' k S' := by
  have HE : Hid (Row w0 eo n ec d) := he
  have HF : Hid (Row w0 fo m fc f) := hf
  have HH : Hid (Hold4 w0) := H
  have HK : Hid (KeptE w0.heap.size w k (fun g => g < w.heap.size)) := hk.old
  have HB0 : Hid (Below w0.heap.size w0 w) := hb0
  have hle := he.le
  have hmx := he.max
  have hlf := hf.le
  have hmf := hf.max
  have CL : Hid (∀ W, Row W eo n ec d → Calls Tryz.prog 13 #[.slice eo n ec] W fun e w' => ∃ v, e = .returned v ∧ LentA W w' v n d) := fun W h => lent_any eo n ec d W h (by omega)
  have CM : Hid (∀ W, Row W fo m fc f → Calls Tryz.prog 13 #[.slice fo m fc] W fun e w' => ∃ v, e = .returned v ∧ LentA W w' v m f) := fun W h => lent_any fo m fc f W h (by omega)
  have CV : Hid (∀ W, Row W eo n ec d → Calls Tryz.prog 14 #[.slice eo n ec] W fun e w' => e = .returned (.bool (xval d n)) ∧ Below W.heap.size W w') := fun W h => r7valid_any W h hr (by omega)
  have CU : Hid (∀ W, Row W fo m fc f → Calls Tryz.prog 14 #[.slice fo m fc] W fun e w' => e = .returned (.bool (xval f m)) ∧ Below W.heap.size W w') := fun W h => r7valid_any W h hrf (by omega)
  rw [hv] at CV
  have CS : Hid (∀ W eo ec fo fc, Row W eo n ec d → Row W fo m fc f → Hold4 W → Calls Tryz.prog 22 #[.slice eo n ec, .slice fo m fc] W fun r w' => r = .returned (.tuple #[.slice none 0 0, .int .i64 1]) ∧ Below W.heap.size W w') := fun W eo ec fo fc hR hRf hW => xSum_badA W hR hRf hv hW
  have CD : Hid (∀ W eo ec fo fc, Row W eo n ec d → Row W fo m fc f → Hold4 W → Calls Tryz.prog 23 #[.slice eo n ec, .slice fo m fc] W fun r w' => r = .returned (.tuple #[.slice none 0 0, .int .i64 1]) ∧ Below W.heap.size W w') := fun W eo ec fo fc hR hRf hW => xDiff_badA W hR hRf hv hW
  have CP : Hid (∀ W eo ec fo fc, Row W eo n ec d → Row W fo m fc f → Hold4 W → Calls Tryz.prog 24 #[.slice eo n ec, .slice fo m fc] W fun r w' => r = .returned (.tuple #[.slice none 0 0, .int .i64 1]) ∧ Below W.heap.size W w') := fun W eo ec fo fc hR hRf hW => xProduct_badA W hR hRf hv hW
  clear hk he hf H hb0 hr hrf
  have HB0w : Hid (Below w0.heap.size w0 w) := HB0
  have s00 := HB0.out.size
  go_enter Tryz.func8, Tryz.ntmps8
  go_wp2_with fail
  refine (CL.out _ (HE.out.keeps HB0w.out)).mono ?_
  rintro _ w1 ⟨v1, rfl, hLA⟩
  have hb1 := hLA.below
  obtain ⟨gA, cA, rfl, hLO⟩ := hLA.parts
  obtain ⟨hclA, hcmA⟩ := lent_cap hLO
  have HLOA : Hid (Out w.heap.size w1 (.slice (some ⟨gA, 0, none⟩) (n + 3) cA) (n + 3) (lentD d n)) := hLO
  have HB1 : Hid (Below w.heap.size w w1) := hb1
  have HB01 : Hid (Below w0.heap.size w0 w1) := HB0w.out.trans (hb1.mono HB0w.out.size)
  have sw_1 := hb1.size
  have hgA := hLO.ge (g := gA) rfl
  clear hLA hLO hb1
  go_wp2_with fail
  refine (CM.out _ (HF.out.keeps HB01.out)).mono ?_
  rintro _ w2 ⟨v2, rfl, hLA⟩
  have hb2 := hLA.below
  obtain ⟨gB, cB, rfl, hLO⟩ := hLA.parts
  obtain ⟨hclB, hcmB⟩ := lent_cap hLO
  have HLOB : Hid (Out w1.heap.size w2 (.slice (some ⟨gB, 0, none⟩) (m + 3) cB) (m + 3) (lentD f m)) := hLO
  have HB2 : Hid (Below w1.heap.size w1 w2) := hb2
  have HB02 : Hid (Below w0.heap.size w0 w2) := HB01.out.trans (hb2.mono HB01.out.size)
  have s1_2 := hb2.size
  have hgB := hLO.ge (g := gB) rfl
  clear hLA hLO hb2
  go_wp2_with fail
  have HRa2 : Hid (Row w2 (some ⟨gA, 0, none⟩) n cA d) := (lent_row HLOA.out).keeps HB2.out
  have HRb2 : Hid (Row w2 (some ⟨gB, 0, none⟩) m cB f) := lent_row HLOB.out
  have in0 : (0 : Int) ≤ (n : Int) := by omega
  have im0 : (0 : Int) ≤ (m : Int) := by omega
  have inA : (n : Int) ≤ (cA : Int) := by omega
  have imB : (m : Int) ≤ (cB : Int) := by omega
  go_region_held3 (fun _ => True) (first | trivial | fail)
    (first | (go_at_call 22; refine (CS.out _ _ _ _ _ (HRa2.out.keeps (bel_refl _).drew) (HRb2.out.keeps (bel_refl _).drew) (HH.out.keeps HB02.out.drew)).mono ?_; rintro _ w3 ⟨rfl, hb3'⟩))
  have hb3 := bel_trans (bel_refl w2).drew hb3'
  clear hb3'
  have HB3 : Hid (Below w2.heap.size w2 w3) := hb3
  have HB03 : Hid (Below w0.heap.size w0 w3) := HB02.out.trans (hb3.mono HB02.out.size)
  have s2_3 := hb3.size
  have HRa3 : Hid (Row w3 (some ⟨gA, 0, none⟩) n cA d) := HRa2.out.keeps hb3
  have HRb3 : Hid (Row w3 (some ⟨gB, 0, none⟩) m cB f) := HRb2.out.keeps hb3
  clear hb3
  go_wp2_with fail
  go_region_held3 (fun _ => True) (first | trivial | fail)
    (first | (go_at_call 23; refine (CD.out _ _ _ _ _ (HRa3.out.keeps (bel_refl _).drew) (HRb3.out.keeps (bel_refl _).drew) (HH.out.keeps HB03.out.drew)).mono ?_; rintro _ w4 ⟨rfl, hb4'⟩))
  have hb4 := bel_trans (bel_refl w3).drew hb4'
  clear hb4'
  have HB4 : Hid (Below w3.heap.size w3 w4) := hb4
  have HB04 : Hid (Below w0.heap.size w0 w4) := HB03.out.trans (hb4.mono HB03.out.size)
  have s3_4 := hb4.size
  have HRa4 : Hid (Row w4 (some ⟨gA, 0, none⟩) n cA d) := HRa3.out.keeps hb4
  have HRb4 : Hid (Row w4 (some ⟨gB, 0, none⟩) m cB f) := HRb3.out.keeps hb4
  clear hb4
  go_wp2_with fail
  go_region_held3 (fun _ => True) (first | trivial | fail)
    (first | (go_at_call 24; refine (CP.out _ _ _ _ _ (HRa4.out.keeps (bel_refl _).drew) (HRb4.out.keeps (bel_refl _).drew) (HH.out.keeps HB04.out.drew)).mono ?_; rintro _ w5 ⟨rfl, hb5'⟩))
  have hb5 := bel_trans (bel_refl w4).drew hb5'
  clear hb5'
  have HB5 : Hid (Below w4.heap.size w4 w5) := hb5
  have HB05 : Hid (Below w0.heap.size w0 w5) := HB04.out.trans (hb5.mono HB04.out.size)
  have s4_5 := hb5.size
  have HRa5 : Hid (Row w5 (some ⟨gA, 0, none⟩) n cA d) := HRa4.out.keeps hb5
  have HRb5 : Hid (Row w5 (some ⟨gB, 0, none⟩) m cB f) := HRb4.out.keeps hb5
  clear hb5
  go_wp2_with fail
  have HB15 : Hid (Below w1.heap.size w1 w5) := bel_trans (bel_trans (bel_trans HB2.out HB3.out) HB4.out) HB5.out
  have HB25 : Hid (Below w2.heap.size w2 w5) := bel_trans (bel_trans HB3.out HB4.out) HB5.out
  have CB := back_any (HLOA.out.stays HB15.out) (RowX.of0 HE.out HB05.out (by omega)) (HE.out.keeps HB05.out) (show n ≤ 100000 by omega)
  refine CB.mono ?_
  rintro _ w6 ⟨rfl, hW6⟩
  have HW6 : Hid (Wr gA w5 w6) := hW6
  have s5_6 := hW6.size
  have HB06 : Hid (Below w0.heap.size w0 w6) := hW6.below HB05.out HB05.out.size (by omega)
  have HK6 : Hid (KeptE w0.heap.size w6 k (fun g => g < w.heap.size)) := by
    obtain ⟨cur, z, hc⟩ := (HLOA.out.stays HB15.out).typed (g := gA) rfl
    exact (HK.out.keeps (HB1.out.trans (HB15.out.mono (by omega)))).wr hW6 (by omega) hc
  have HLB6 : Hid (Out w1.heap.size w6 (.slice (some ⟨gB, 0, none⟩) (m + 3) cB) (m + 3) (lentD f m)) := (HLOB.out.stays HB25.out).of_block fun g hg => hW6.block g ((HLOB.out.stays HB25.out).ge hg).2 (by have := ((HLOB.out.stays HB25.out).ge hg).1; omega)
  clear hW6 CB HK
  have CB := back_any HLB6.out (RowX.of0 HF.out HB06.out (by omega)) (HF.out.keeps HB06.out) (show m ≤ 100000 by omega)
  go_wp2_with fail
  refine CB.mono ?_
  rintro _ w7 ⟨rfl, hW7⟩
  have HW7 : Hid (Wr gB w6 w7) := hW7
  have s6_7 := hW7.size
  have HB07 : Hid (Below w0.heap.size w0 w7) := hW7.below HB06.out HB06.out.size (by omega)
  have HK7 : Hid (KeptE w0.heap.size w7 k (fun g => g < w.heap.size)) := by
    obtain ⟨cur, z, hc⟩ := HLB6.out.typed (g := gB) rfl
    exact HK6.out.wr hW7 (by omega) hc
  clear hW7 CB HK6
  go_wp2_with fail
  refine (CV.out _ (HE.out.keeps HB07.out)).mono ?_
  rintro _ w8 ⟨rfl, hb8⟩
  have HB8 : Hid (Below w7.heap.size w7 w8) := hb8
  have HB08 : Hid (Below w0.heap.size w0 w8) := HB07.out.trans (hb8.mono HB07.out.size)
  have s7_8 := hb8.size
  clear hb8
  go_wp2_with fail
  have HKL : Hid (KeptE w0.heap.size w8 k (fun g => g < w.heap.size)) := HK7.out.keeps HB8.out
  refine (is7_err _ (by decide)).mono ?_
  rintro _ wz ⟨rfl, hw⟩
  replace hw := hw.symm
  subst hw
  go_wp2_with (go_at_call 21; refine (is7_err _ (by decide)).mono ?_; rintro _ wz ⟨rfl, hw⟩; replace hw := hw.symm; subst hw)
  all_goals go_ret
  all_goals exact ⟨rfl, HB08.out, _, HKL.out⟩
set_option maxRecDepth 100000 in
set_option maxHeartbeats 4000000 in
theorem pairs_badB {k n ec m fc : Nat} {eo fo : Option Addr} {d f : Nat → Int} {S : Nat → Prop} (w0 w : World) (hb0 : Below w0.heap.size w0 w) (H : Hold4 w0) (he : Row w0 eo n ec d) (hf : Row w0 fo m fc f) (hr : ∀ i, i < n → rng (d i)) (hrf : ∀ i, i < m → rng (f i)) (hn : n ≤ 120) (hm : m ≤ 120) (hnm : n * m ≤ 400) (hk : KeptE w0.heap.size w k S) (hv : xval d n = true) (hu : xval f m = false) :
    Calls Tryz.prog 8 #[.pointer (some ⟨k, 0, none⟩), .slice eo n ec, .slice fo m fc] w fun e w' => e = .returned (.bool true) ∧ Below w0.heap.size w0 w' ∧ ∃ S', KeptE w0.heap.size w' k S' := by
  have HE : Hid (Row w0 eo n ec d) := he
  have HF : Hid (Row w0 fo m fc f) := hf
  have HH : Hid (Hold4 w0) := H
  have HK : Hid (KeptE w0.heap.size w k (fun g => g < w.heap.size)) := hk.old
  have HB0 : Hid (Below w0.heap.size w0 w) := hb0
  have hle := he.le
  have hmx := he.max
  have hlf := hf.le
  have hmf := hf.max
  have CL : Hid (∀ W, Row W eo n ec d → Calls Tryz.prog 13 #[.slice eo n ec] W fun e w' => ∃ v, e = .returned v ∧ LentA W w' v n d) := fun W h => lent_any eo n ec d W h (by omega)
  have CM : Hid (∀ W, Row W fo m fc f → Calls Tryz.prog 13 #[.slice fo m fc] W fun e w' => ∃ v, e = .returned v ∧ LentA W w' v m f) := fun W h => lent_any fo m fc f W h (by omega)
  have CV : Hid (∀ W, Row W eo n ec d → Calls Tryz.prog 14 #[.slice eo n ec] W fun e w' => e = .returned (.bool (xval d n)) ∧ Below W.heap.size W w') := fun W h => r7valid_any W h hr (by omega)
  have CU : Hid (∀ W, Row W fo m fc f → Calls Tryz.prog 14 #[.slice fo m fc] W fun e w' => e = .returned (.bool (xval f m)) ∧ Below W.heap.size W w') := fun W h => r7valid_any W h hrf (by omega)
  rw [hv] at CV
  rw [hu] at CU
  have CS : Hid (∀ W eo ec fo fc, Row W eo n ec d → Row W fo m fc f → Hold4 W → Calls Tryz.prog 22 #[.slice eo n ec, .slice fo m fc] W fun r w' => r = .returned (.tuple #[.slice none 0 0, .int .i64 1]) ∧ Below W.heap.size W w') := fun W eo ec fo fc hR hRf hW => xSum_badB W hR hRf hv hu hW
  have CD : Hid (∀ W eo ec fo fc, Row W eo n ec d → Row W fo m fc f → Hold4 W → Calls Tryz.prog 23 #[.slice eo n ec, .slice fo m fc] W fun r w' => r = .returned (.tuple #[.slice none 0 0, .int .i64 1]) ∧ Below W.heap.size W w') := fun W eo ec fo fc hR hRf hW => xDiff_badB W hR hRf hv hu hW
  have CP : Hid (∀ W eo ec fo fc, Row W eo n ec d → Row W fo m fc f → Hold4 W → Calls Tryz.prog 24 #[.slice eo n ec, .slice fo m fc] W fun r w' => r = .returned (.tuple #[.slice none 0 0, .int .i64 1]) ∧ Below W.heap.size W w') := fun W eo ec fo fc hR hRf hW => xProduct_badB W hR hRf hv hu hW
  clear hk he hf H hb0 hr hrf
  have HB0w : Hid (Below w0.heap.size w0 w) := HB0
  have s00 := HB0.out.size
  go_enter Tryz.func8, Tryz.ntmps8
  go_wp2_with fail
  refine (CL.out _ (HE.out.keeps HB0w.out)).mono ?_
  rintro _ w1 ⟨v1, rfl, hLA⟩
  have hb1 := hLA.below
  obtain ⟨gA, cA, rfl, hLO⟩ := hLA.parts
  obtain ⟨hclA, hcmA⟩ := lent_cap hLO
  have HLOA : Hid (Out w.heap.size w1 (.slice (some ⟨gA, 0, none⟩) (n + 3) cA) (n + 3) (lentD d n)) := hLO
  have HB1 : Hid (Below w.heap.size w w1) := hb1
  have HB01 : Hid (Below w0.heap.size w0 w1) := HB0w.out.trans (hb1.mono HB0w.out.size)
  have sw_1 := hb1.size
  have hgA := hLO.ge (g := gA) rfl
  clear hLA hLO hb1
  go_wp2_with fail
  refine (CM.out _ (HF.out.keeps HB01.out)).mono ?_
  rintro _ w2 ⟨v2, rfl, hLA⟩
  have hb2 := hLA.below
  obtain ⟨gB, cB, rfl, hLO⟩ := hLA.parts
  obtain ⟨hclB, hcmB⟩ := lent_cap hLO
  have HLOB : Hid (Out w1.heap.size w2 (.slice (some ⟨gB, 0, none⟩) (m + 3) cB) (m + 3) (lentD f m)) := hLO
  have HB2 : Hid (Below w1.heap.size w1 w2) := hb2
  have HB02 : Hid (Below w0.heap.size w0 w2) := HB01.out.trans (hb2.mono HB01.out.size)
  have s1_2 := hb2.size
  have hgB := hLO.ge (g := gB) rfl
  clear hLA hLO hb2
  go_wp2_with fail
  have HRa2 : Hid (Row w2 (some ⟨gA, 0, none⟩) n cA d) := (lent_row HLOA.out).keeps HB2.out
  have HRb2 : Hid (Row w2 (some ⟨gB, 0, none⟩) m cB f) := lent_row HLOB.out
  have in0 : (0 : Int) ≤ (n : Int) := by omega
  have im0 : (0 : Int) ≤ (m : Int) := by omega
  have inA : (n : Int) ≤ (cA : Int) := by omega
  have imB : (m : Int) ≤ (cB : Int) := by omega
  go_region_held3 (fun _ => True) (first | trivial | fail)
    (first | (go_at_call 22; refine (CS.out _ _ _ _ _ (HRa2.out.keeps (bel_refl _).drew) (HRb2.out.keeps (bel_refl _).drew) (HH.out.keeps HB02.out.drew)).mono ?_; rintro _ w3 ⟨rfl, hb3'⟩))
  have hb3 := bel_trans (bel_refl w2).drew hb3'
  clear hb3'
  have HB3 : Hid (Below w2.heap.size w2 w3) := hb3
  have HB03 : Hid (Below w0.heap.size w0 w3) := HB02.out.trans (hb3.mono HB02.out.size)
  have s2_3 := hb3.size
  have HRa3 : Hid (Row w3 (some ⟨gA, 0, none⟩) n cA d) := HRa2.out.keeps hb3
  have HRb3 : Hid (Row w3 (some ⟨gB, 0, none⟩) m cB f) := HRb2.out.keeps hb3
  clear hb3
  go_wp2_with fail
  go_region_held3 (fun _ => True) (first | trivial | fail)
    (first | (go_at_call 23; refine (CD.out _ _ _ _ _ (HRa3.out.keeps (bel_refl _).drew) (HRb3.out.keeps (bel_refl _).drew) (HH.out.keeps HB03.out.drew)).mono ?_; rintro _ w4 ⟨rfl, hb4'⟩))
  have hb4 := bel_trans (bel_refl w3).drew hb4'
  clear hb4'
  have HB4 : Hid (Below w3.heap.size w3 w4) := hb4
  have HB04 : Hid (Below w0.heap.size w0 w4) := HB03.out.trans (hb4.mono HB03.out.size)
  have s3_4 := hb4.size
  have HRa4 : Hid (Row w4 (some ⟨gA, 0, none⟩) n cA d) := HRa3.out.keeps hb4
  have HRb4 : Hid (Row w4 (some ⟨gB, 0, none⟩) m cB f) := HRb3.out.keeps hb4
  clear hb4
  go_wp2_with fail
  go_region_held3 (fun _ => True) (first | trivial | fail)
    (first | (go_at_call 24; refine (CP.out _ _ _ _ _ (HRa4.out.keeps (bel_refl _).drew) (HRb4.out.keeps (bel_refl _).drew) (HH.out.keeps HB04.out.drew)).mono ?_; rintro _ w5 ⟨rfl, hb5'⟩))
  have hb5 := bel_trans (bel_refl w4).drew hb5'
  clear hb5'
  have HB5 : Hid (Below w4.heap.size w4 w5) := hb5
  have HB05 : Hid (Below w0.heap.size w0 w5) := HB04.out.trans (hb5.mono HB04.out.size)
  have s4_5 := hb5.size
  have HRa5 : Hid (Row w5 (some ⟨gA, 0, none⟩) n cA d) := HRa4.out.keeps hb5
  have HRb5 : Hid (Row w5 (some ⟨gB, 0, none⟩) m cB f) := HRb4.out.keeps hb5
  clear hb5
  go_wp2_with fail
  have HB15 : Hid (Below w1.heap.size w1 w5) := bel_trans (bel_trans (bel_trans HB2.out HB3.out) HB4.out) HB5.out
  have HB25 : Hid (Below w2.heap.size w2 w5) := bel_trans (bel_trans HB3.out HB4.out) HB5.out
  have CB := back_any (HLOA.out.stays HB15.out) (RowX.of0 HE.out HB05.out (by omega)) (HE.out.keeps HB05.out) (show n ≤ 100000 by omega)
  refine CB.mono ?_
  rintro _ w6 ⟨rfl, hW6⟩
  have HW6 : Hid (Wr gA w5 w6) := hW6
  have s5_6 := hW6.size
  have HB06 : Hid (Below w0.heap.size w0 w6) := hW6.below HB05.out HB05.out.size (by omega)
  have HK6 : Hid (KeptE w0.heap.size w6 k (fun g => g < w.heap.size)) := by
    obtain ⟨cur, z, hc⟩ := (HLOA.out.stays HB15.out).typed (g := gA) rfl
    exact (HK.out.keeps (HB1.out.trans (HB15.out.mono (by omega)))).wr hW6 (by omega) hc
  have HLB6 : Hid (Out w1.heap.size w6 (.slice (some ⟨gB, 0, none⟩) (m + 3) cB) (m + 3) (lentD f m)) := (HLOB.out.stays HB25.out).of_block fun g hg => hW6.block g ((HLOB.out.stays HB25.out).ge hg).2 (by have := ((HLOB.out.stays HB25.out).ge hg).1; omega)
  clear hW6 CB HK
  have CB := back_any HLB6.out (RowX.of0 HF.out HB06.out (by omega)) (HF.out.keeps HB06.out) (show m ≤ 100000 by omega)
  go_wp2_with fail
  refine CB.mono ?_
  rintro _ w7 ⟨rfl, hW7⟩
  have HW7 : Hid (Wr gB w6 w7) := hW7
  have s6_7 := hW7.size
  have HB07 : Hid (Below w0.heap.size w0 w7) := hW7.below HB06.out HB06.out.size (by omega)
  have HK7 : Hid (KeptE w0.heap.size w7 k (fun g => g < w.heap.size)) := by
    obtain ⟨cur, z, hc⟩ := HLB6.out.typed (g := gB) rfl
    exact HK6.out.wr hW7 (by omega) hc
  clear hW7 CB HK6
  go_wp2_with fail
  refine (CV.out _ (HE.out.keeps HB07.out)).mono ?_
  rintro _ w8 ⟨rfl, hb8⟩
  have HB8 : Hid (Below w7.heap.size w7 w8) := hb8
  have HB08 : Hid (Below w0.heap.size w0 w8) := HB07.out.trans (hb8.mono HB07.out.size)
  have s7_8 := hb8.size
  clear hb8
  go_wp2_with fail
  refine (CU.out _ (HF.out.keeps HB08.out)).mono ?_
  rintro _ w9 ⟨rfl, hb9⟩
  have HB9 : Hid (Below w8.heap.size w8 w9) := hb9
  have HB09 : Hid (Below w0.heap.size w0 w9) := HB08.out.trans (hb9.mono HB08.out.size)
  have s8_9 := hb9.size
  clear hb9
  go_wp2_with fail
  have HKL : Hid (KeptE w0.heap.size w9 k (fun g => g < w.heap.size)) := HK7.out.keeps (bel_trans HB8.out HB9.out)
  refine (is7_err _ (by decide)).mono ?_
  rintro _ wz ⟨rfl, hw⟩
  replace hw := hw.symm
  subst hw
  go_wp2_with (go_at_call 21; refine (is7_err _ (by decide)).mono ?_; rintro _ wz ⟨rfl, hw⟩; replace hw := hw.symm; subst hw)
  all_goals go_ret
  all_goals exact ⟨rfl, HB09.out, _, HKL.out⟩
theorem pairs_any {k n ec m fc : Nat} {eo fo : Option Addr} {d f : Nat → Int} {S : Nat → Prop} (w0 w : World) (hb0 : Below w0.heap.size w0 w) (H : Hold4 w0) (he : Row w0 eo n ec d) (hf : Row w0 fo m fc f) (hr : ∀ i, i < n → rng (d i)) (hrf : ∀ i, i < m → rng (f i)) (hn : n ≤ 120) (hm : m ≤ 120) (hnm : n * m ≤ 400) (hk : KeptE w0.heap.size w k S) :
    Calls Tryz.prog 8 #[.pointer (some ⟨k, 0, none⟩), .slice eo n ec, .slice fo m fc] w fun e w' => e = .returned (.bool true) ∧ Below w0.heap.size w0 w' ∧ ∃ S', KeptE w0.heap.size w' k S' := by
  cases hv : xval d n
  · exact pairs_badA w0 w hb0 H he hf hr hrf hn hm hnm hk hv
  · cases hu : xval f m
    · exact pairs_badB w0 w hb0 H he hf hr hrf hn hm hnm hk hv hu
    · exact pairs_ok w0 w hb0 H he hf hr hrf hn hm hnm hk hv hu
end Go.Proofs.YtjlmpgbadgkgmaaGreatDoor
