/-
  plumblaw7.floats, by its contract: Of, Grow and Scale are the document's.
-/
import Derived.Test.YtjlmpgbadgkgmaaGreatDoorPart17
import Derived.Test.YtjlmpgbadgkgmaaGreatDoorPart30
import Derived.Test.YtjlmpgbadgkgmaaGreatDoorPart31
import Derived.Test.YtjlmpgbadgkgmaaGreatDoorPart8
import Derived.Test.YtjlmpgbadgkgmaaGreatDoorPart28
namespace Go.Proofs.YtjlmpgbadgkgmaaGreatDoor
open Go Go.RowKit Go.Proofs.YtjlmpgbadgkgmaaGreatDoor.M
set_option linter.unusedSimpArgs false
set_option linter.unusedVariables false

theorem OutE.wr {B gc : Nat} {w w' : World} {v : Value} {n : Nat} {d : Nat → Int} (h : OutE B w v n d) (hw : Wr gc w w') (hg : gc < B) : OutE B w' v n d :=
  h.of_block fun g hg' => hw.block g (h.ge hg').2 (by have := (h.ge hg').1; omega)
/-- What is told of an expansion that was reckoned, in one form. -/
theorem XA.uni {w w' : World} {ok : Bool} {s : Ls} {r : Ending} (h : XA w ok s r w') : ∃ lo lc, r = .returned (.tuple #[.slice lo (lsX ok s).n lc, .int .i64 (erX ok)]) ∧ OutE w.heap.size w' (.slice lo (lsX ok s).n lc) (lsX ok s).n (lsX ok s).d ∧ Below w.heap.size w w' := by
  obtain ⟨(⟨rfl, v, h1, h2⟩ | ⟨rfl, h1⟩), hb⟩ := h
  · have hE := h2.outE
    obtain ⟨lo, lc, rfl, _⟩ := hE.row
    exact ⟨lo, lc, h1, hE, hb⟩
  · exact ⟨none, 0, h1, OutE.nil _ _ _, hb⟩
theorem OutE.at_ {B : Nat} {w : World} {v : Value} {n m : Nat} {d : Nat → Int} (h : OutE B w v n d) (e : n = m) : OutE B w v m d := e ▸ h
theorem XA.uniT {w w' : World} {s : Ls} {r : Ending} (h : XA w true s r w') : ∃ lo lc, r = .returned (.tuple #[.slice lo s.n lc, .int .i64 0]) ∧ OutE w.heap.size w' (.slice lo s.n lc) s.n s.d ∧ Below w.heap.size w w' := h.uni
/-- A list of one float. -/
theorem out_one (w : World) (b : Int) {B : Nat} (hB : B ≤ w.heap.size) (f : Nat → Int) (hf : f 0 = b) : Out B (w.alloc (.cells #[.int .i64 b] 3)) (.slice (some ⟨w.heap.size, 0, none⟩) 1 1) 1 f :=
  ⟨by rw [vals_length], .inr ⟨w.heap.size, 1, #[.int .i64 b], rfl, hB, heap_alloc_new w _, Nat.le_refl _, by decide, rfl, by
    simp [vals, hf]⟩⟩
theorem Rd.nil (B : Nat) (w : World) (d : Nat → Int) : Rd B w none 0 0 d := fun w' _ => Row.nil w' d
theorem add_zero_ls {b : Int} (h : rg b = 0) : (⟨0, fun _ => 0⟩ : Ls).add b = ⟨0, fun _ => 0⟩ := by unfold Ls.add; rw [if_pos h]
theorem add_one_ls {b : Int} (h : rg b ≠ 0) : (⟨0, fun _ => 0⟩ : Ls).add b = ⟨1, upd (fun _ => 0) 0 b⟩ := by unfold Ls.add; rw [if_neg h]
theorem S2E.not {S : Nat → Prop} {l : Value} {s g : Nat} (h1 : ¬ S g) (h2 : ownE l ≠ some g) (h3 : g < s) : ¬ S2E S l s g := by
  rintro (h | h | h)
  · exact h1 h
  · exact h2 h
  · omega
set_option maxRecDepth 100000 in
set_option maxHeartbeats 4000000 in
theorem floats_ok {k n ec : Nat} {eo : Option Addr} {d : Nat → Int} {b : Int} {S : Nat → Prop} (w0 w : World) (hb0 : Below w0.heap.size w0 w) (H : Hold4 w0) (he : Row w0 eo n ec d) (hr : ∀ i, i < n → rng (d i)) (hb : rng b) (hn : n ≤ 500) (hk : KeptE w0.heap.size w k S) (hv : xval d n = true) (pb : pok b = true) :
    Calls Tryz.prog 6 #[.pointer (some ⟨k, 0, none⟩), .slice eo n ec, .int .i64 b] w fun e w' => e = .returned (.bool true) ∧ Below w0.heap.size w0 w' ∧ ∃ S', KeptE w0.heap.size w' k S' := by
  have HE : Hid (Row w0 eo n ec d) := he
  have HH : Hid (Hold4 w0) := H
  have HK : Hid (KeptE w0.heap.size w k (fun g => g < w.heap.size)) := hk.old
  have HB0 : Hid (Below w0.heap.size w0 w) := hb0
  have hle := he.le
  have hmx := he.max
  have CL : Hid (∀ W, Row W eo n ec d → Calls Tryz.prog 13 #[.slice eo n ec] W fun e w' => ∃ v, e = .returned v ∧ LentA W w' v n d) := fun W h => lent_any eo n ec d W h (by omega)
  have CV : Hid (∀ W, Row W eo n ec d → Calls Tryz.prog 14 #[.slice eo n ec] W fun e w' => e = .returned (.bool (xval d n)) ∧ Below W.heap.size W w') := fun W h => r7valid_any W h hr (by omega)
  have CF : Hid (∀ W, Calls Tryz.prog 15 #[.int .i64 b] W fun x w' => x = .returned (.bool (pok b)) ∧ w' = W) := fun W => rfinite_any b W hb
  have CC : Hid (∀ W, Calls Tryz.prog 20 #[.int .i64 b] W fun e w' => e = .returned (.int .i64 (cls b)) ∧ w' = W) := fun W => refClass b W hb
  have hcz := cls_nought hb
  have hc0 : 0 ≤ cls b := (cls_le b).1
  rw [hv] at CV
  rw [pb] at CF
  have hfin : ∀ i, i < n → rng (d i) ∧ pok (d i) = true := fun i hi => ⟨hr i hi, xval_fin hv i hi⟩
  have CO : Hid (∀ W, Hold4 W → Calls Tryz.prog 16 #[.int .i64 b] W fun r w' => ∃ lo lc, r = .returned (.tuple #[.slice lo ((⟨0, fun _ => 0⟩ : Ls).add b).n lc, .int .i64 0]) ∧ OutE W.heap.size w' (.slice lo ((⟨0, fun _ => 0⟩ : Ls).add b).n lc) ((⟨0, fun _ => 0⟩ : Ls).add b).n ((⟨0, fun _ => 0⟩ : Ls).add b).d ∧ Below W.heap.size W w') := fun W h => (xOf_ok W hb pb h).mono fun _ _ hx => hx.uniT
  have hnO : ((⟨0, fun _ => 0⟩ : Ls).add b).n ≤ 1 := (Ls.add_le _ _).2
  have HZ0 : Hid (rg b = 0 → (⟨0, fun _ => 0⟩ : Ls).add b = ⟨0, fun _ => 0⟩) := add_zero_ls
  have HZ1 : Hid (rg b ≠ 0 → (⟨0, fun _ => 0⟩ : Ls).add b = ⟨1, upd (fun _ => 0) 0 b⟩) := add_one_ls
  generalize (⟨0, fun _ => 0⟩ : Ls).add b = LO at *
  have CG : Hid (∀ W eo ec, Row W eo n ec d → Hold4 W → Calls Tryz.prog 9 #[.slice eo n ec, .int .i64 b] W fun r w' => ∃ lo lc, r = .returned (.tuple #[.slice lo (lsX (gx d b n) (grw n d b)).n lc, .int .i64 (erX (gx d b n))]) ∧ OutE W.heap.size w' (.slice lo (lsX (gx d b n) (grw n d b)).n lc) (lsX (gx d b n) (grw n d b)).n (lsX (gx d b n) (grw n d b)).d ∧ Below W.heap.size W w') := fun W eo ec hR hW => (xGrow W hR hr hv hb pb (by omega) hW).mono fun _ _ hx => hx.uni
  have RG : Hid (∀ W, Row W eo n ec d → Calls Tryz.prog 18 #[.slice eo n ec, .int .i64 b] W fun r w' => ∃ po pc, r = .returned (.tuple #[.slice po (lsX (gx d b n) (grw n d b)).n pc, .int .i64 (erX (gx d b n))]) ∧ Out W.heap.size w' (.slice po (lsX (gx d b n) (grw n d b)).n pc) (lsX (gx d b n) (grw n d b)).n (lsX (gx d b n) (grw n d b)).d ∧ Below W.heap.size W w') := fun W hR => r7Grow_any W hR hfin hb pb (by omega)
  have hnG : (lsX (gx d b n) (grw n d b)).n ≤ 100000 := by
    have := grw_le n d b
    unfold lsX
    split <;> simp <;> omega
  generalize lsX (gx d b n) (grw n d b) = LG at *
  generalize erX (gx d b n) = eG at *
  have CS : Hid (∀ W eo ec, Row W eo n ec d → Hold4 W → Calls Tryz.prog 10 #[.slice eo n ec, .int .i64 b] W fun r w' => ∃ lo lc, r = .returned (.tuple #[.slice lo (lsX (sxN d b n) (sclN d b n)).n lc, .int .i64 (erX (sxN d b n))]) ∧ OutE W.heap.size w' (.slice lo (lsX (sxN d b n) (sclN d b n)).n lc) (lsX (sxN d b n) (sclN d b n)).n (lsX (sxN d b n) (sclN d b n)).d ∧ Below W.heap.size W w') := fun W eo ec hR hW => (xScale W hR hr hv hb pb (by omega) hW).mono fun _ _ hx => hx.uni
  have RS : Hid (∀ W, Row W eo n ec d → Calls Tryz.prog 19 #[.slice eo n ec, .int .i64 b] W fun r w' => ∃ po pc, r = .returned (.tuple #[.slice po (lsX (sxN d b n) (sclN d b n)).n pc, .int .i64 (erX (sxN d b n))]) ∧ Out W.heap.size w' (.slice po (lsX (sxN d b n) (sclN d b n)).n pc) (lsX (sxN d b n) (sclN d b n)).n (lsX (sxN d b n) (sclN d b n)).d ∧ Below W.heap.size W w') := fun W hR => r7Scale_any W hR hfin hb pb (by omega)
  have hnS : (lsX (sxN d b n) (sclN d b n)).n ≤ 100000 := by
    have := sclN_le d b n
    unfold lsX
    split <;> simp <;> omega
  generalize lsX (sxN d b n) (sclN d b n) = LS at *
  generalize erX (sxN d b n) = eS at *
  clear hfin
  clear hk he H hb0 hr
  go_enter Tryz.func6, Tryz.ntmps6
  go_wp2_with fail
  refine (CL.out _ (HE.out.keeps HB0.out)).mono ?_
  rintro _ w1 ⟨v1, rfl, hLA⟩
  have hb1 := hLA.below
  obtain ⟨gc, cc, rfl, hLO⟩ := hLA.parts
  obtain ⟨hcl, hcm⟩ := lent_cap hLO
  have HLO : Hid (Out w.heap.size w1 (.slice (some ⟨gc, 0, none⟩) (n + 3) cc) (n + 3) (lentD d n)) := hLO
  have HB1 : Hid (Below w0.heap.size w0 w1) := HB0.out.trans (hb1.mono HB0.out.size)
  have HB1' : Hid (Below w.heap.size w w1) := hb1
  have s01 := hb1.size
  have s00 := HB0.out.size
  have hgc := hLO.ge (g := gc) rfl
  clear hLA hLO hb1
  go_wp2_with fail
  refine (CV.out _ (HE.out.keeps HB1.out)).mono ?_
  rintro _ w2 ⟨rfl, hb2⟩
  have HB2 : Hid (Below w1.heap.size w1 w2) := hb2
  have s12 := hb2.size
  clear hb2
  go_wp2_with fail
  refine (CF.out _).mono ?_
  rintro _ wz ⟨rfl, hw⟩
  replace hw := hw.symm
  subst hw
  go_wp2_with fail
  have HB02 : Hid (Below w0.heap.size w0 w2) := HB1.out.trans (HB2.out.mono HB1.out.size)
  refine (CO.out _ (HH.out.keeps HB02.out)).mono ?_
  rintro _ w3 ⟨oo, oc, rfl, hO3, hb3⟩
  have HO3 : Hid (OutE w2.heap.size w3 (.slice oo LO.n oc) LO.n LO.d) := hO3
  have HGO : Hid (∀ g, ownE (.slice oo LO.n oc) = some g → w2.heap.size ≤ g ∧ g < w3.heap.size) := fun g hg => hO3.ge hg
  clear hO3
  have HB3 : Hid (Below w2.heap.size w2 w3) := hb3
  have HB03 : Hid (Below w0.heap.size w0 w3) := HB02.out.trans (hb3.mono HB02.out.size)
  have HR3 : Hid (Row w3 (some ⟨gc, 0, none⟩) n cc d) := ((lent_row HLO.out).keeps HB2.out).keeps hb3
  have s23 := hb3.size
  clear hb3
  go_wp2_with fail
  refine (CG.out _ _ _ HR3.out (HH.out.keeps HB03.out)).mono ?_
  rintro _ w4 ⟨xGo, xGc, rfl, hO4, hb4⟩
  have HO4 : Hid (OutE w3.heap.size w4 (.slice xGo LG.n xGc) LG.n LG.d) := hO4
  have HGG : Hid (∀ g, ownE (.slice xGo LG.n xGc) = some g → w3.heap.size ≤ g ∧ g < w4.heap.size) := fun g hg => hO4.ge hg
  clear hO4
  have HB4 : Hid (Below w3.heap.size w3 w4) := hb4
  have HB04 : Hid (Below w0.heap.size w0 w4) := HB03.out.trans (hb4.mono HB03.out.size)
  have s34 := hb4.size
  clear hb4
  go_wp2_with fail
  refine (CS.out _ _ _ (HR3.out.keeps HB4.out) (HH.out.keeps HB04.out)).mono ?_
  rintro _ w5 ⟨xSo, xSc, rfl, hO5, hb5⟩
  have HO5 : Hid (OutE w4.heap.size w5 (.slice xSo LS.n xSc) LS.n LS.d) := hO5
  have HGS : Hid (∀ g, ownE (.slice xSo LS.n xSc) = some g → w4.heap.size ≤ g ∧ g < w5.heap.size) := fun g hg => hO5.ge hg
  clear hO5
  have HB5 : Hid (Below w4.heap.size w4 w5) := hb5
  have HB05 : Hid (Below w0.heap.size w0 w5) := HB04.out.trans (hb5.mono HB04.out.size)
  have s45 := hb5.size
  clear hb5
  have HB15 : Hid (Below w1.heap.size w1 w5) := bel_trans (bel_trans (bel_trans HB2.out HB3.out) HB4.out) HB5.out
  have CB := back_any (HLO.out.stays HB15.out) (RowX.of0 HE.out HB05.out (by omega)) (HE.out.keeps HB05.out) (show n ≤ 100000 by omega)
  go_wp2_with fail
  refine CB.mono ?_
  rintro _ w6 ⟨rfl, hW6⟩
  have HW6 : Hid (Wr gc w5 w6) := hW6
  have s56 := hW6.size
  have HB06 : Hid (Below w0.heap.size w0 w6) := hW6.below HB05.out HB05.out.size (by omega)
  have HK6 : Hid (KeptE w0.heap.size w6 k (fun g => g < w.heap.size)) := by
    obtain ⟨cur, z, hc⟩ := (HLO.out.stays HB15.out).typed (g := gc) rfl
    exact (HK.out.keeps (HB1'.out.trans (HB15.out.mono s01))).wr hW6 (by omega) hc
  clear hW6 CB HK
  go_wp2_with fail
  refine (RG.out _ (HE.out.keeps HB06.out)).mono ?_
  rintro _ w7 ⟨pGo, pGc, rfl, hp7, hb7⟩
  have HP7 : Hid (Out w6.heap.size w7 (.slice pGo LG.n pGc) LG.n LG.d) := hp7
  have HB7 : Hid (Below w6.heap.size w6 w7) := hb7
  have HB07 : Hid (Below w0.heap.size w0 w7) := HB06.out.trans (hb7.mono HB06.out.size)
  have s67 := hb7.size
  clear hp7 hb7
  go_wp2_with fail
  refine (RS.out _ (HE.out.keeps HB07.out)).mono ?_
  rintro _ w8 ⟨pSo, pSc, rfl, hp8, hb8⟩
  have HP8 : Hid (Out w7.heap.size w8 (.slice pSo LS.n pSc) LS.n LS.d) := hp8
  have HB8 : Hid (Below w7.heap.size w7 w8) := hb8
  have HB08 : Hid (Below w0.heap.size w0 w8) := HB07.out.trans (hb8.mono HB07.out.size)
  have s78 := hb8.size
  clear hp8 hb8
  go_wp2_with fail
  refine (CC.out _).mono ?_
  rintro _ wz ⟨rfl, hw⟩
  replace hw := hw.symm
  subst hw
  have HB6L : Hid (Below w6.heap.size w6 w8) := bel_trans HB7.out HB8.out
  have HKL : Hid (KeptE w0.heap.size w8 k (fun g => g < w.heap.size)) := HK6.out.keeps HB6L.out
  have HOL : Hid (OutE w0.heap.size w8 (.slice oo LO.n oc) LO.n LO.d) := (((((HO3.out.stays HB4.out).stays HB5.out).wr HW6.out (by omega)).stays HB6L.out).lower (by omega))
  have HLG : Hid (OutE w0.heap.size w8 (.slice xGo LG.n xGc) LG.n LG.d) := ((((HO4.out.stays HB5.out).wr HW6.out (by omega)).stays HB6L.out).lower (by omega))
  have HLS : Hid (OutE w0.heap.size w8 (.slice xSo LS.n xSc) LS.n LS.d) := (((HO5.out.wr HW6.out (by omega)).stays HB6L.out).lower (by omega))
  have HPG : Hid (Rd w0.heap.size w8 pGo LG.n pGc LG.d) := ((HP7.out.stays HB8.out).lower (by omega)).rd
  have HPS : Hid (Rd w0.heap.size w8 pSo LS.n pSc LS.d) := (HP8.out.lower (by omega)).rd
  by_cases hz : rg b = 0
  · have hba := bel_refl w8
    have HQW : Hid (Rd w0.heap.size w8 none 0 0 LO.d) := Rd.nil _ _ _
    have hA1 : LO.n = 0 := by rw [HZ0.out hz]
    have hcb : ¬ 0 < cls b := by have := hcz.2 hz; omega
    have HKW : Hid (KeptE w0.heap.size w8 k (fun g => g < w.heap.size)) := HKL.out.keeps hba
    have HOW : Hid (OutE w0.heap.size w8 (.slice oo LO.n oc) 0 LO.d) := (HOL.out.stays hba).at_ hA1
    have HGW : Hid (OutE w0.heap.size w8 (.slice xGo LG.n xGc) LG.n LG.d) := HLG.out.stays hba
    have HSW : Hid (OutE w0.heap.size w8 (.slice xSo LS.n xSc) LS.n LS.d) := HLS.out.stays hba
    have HPGW : Hid (Rd w0.heap.size w8 pGo LG.n pGc LG.d) := HPG.out.ik (Ik.of hba (by omega))
    have HPSW : Hid (Rd w0.heap.size w8 pSo LS.n pSc LS.d) := HPS.out.ik (Ik.of hba (by omega))
    have HB0W : Hid (Below w0.heap.size w0 w8) := HB08.out.trans (hba.mono (by omega))
    have sW := hba.size
    clear hba hcz hA1
    go_wp2_with fail
    refine (is7_add (er := 0) (ld := LO.d) HKW.out HOW.out HQW.out (by omega) (by omega) (fun g hg => by have := HGO.out g hg; omega)).mono ?_
    rintro _ w9 ⟨rfl, hI9, hK9⟩
    have s89 := hI9.below.size
    have HI9 : Hid (Ik w0.heap.size w8 w9) := hI9
    have HK9 : Hid (KeptE w0.heap.size w9 k (S2E (fun g => g < w.heap.size) (.slice oo LO.n oc) w8.heap.size)) := hK9
    clear hI9 hK9
    go_wp2_with fail
    refine (is7_add (er := eG) (ld := LG.d) HK9.out (HGW.out.ik HI9.out) (HPGW.out.ik HI9.out) hnG (by omega) (fun g hg => by
      have h1 := HGG.out g hg
      exact S2E.not (by omega) (fun h => by have := HGO.out g h; omega) (by omega))).mono ?_
    rintro _ w10 ⟨rfl, hI10, hK10⟩
    have s910 := hI10.below.size
    have HI10 : Hid (Ik w0.heap.size w9 w10) := hI10
    have HK10 : Hid (KeptE w0.heap.size w10 k (S2E (S2E (fun g => g < w.heap.size) (.slice oo LO.n oc) w8.heap.size) (.slice xGo LG.n xGc) w9.heap.size)) := hK10
    clear hI10 hK10
    go_wp2_with fail
    refine (is7_add (er := eS) (ld := LS.d) HK10.out ((HSW.out.ik HI9.out).ik HI10.out) ((HPSW.out.ik HI9.out).ik HI10.out) hnS (by omega) (fun g hg => by
      have h1 := HGS.out g hg
      exact S2E.not (S2E.not (by omega) (fun h => by have := HGO.out g h; omega) (by omega)) (fun h => by have := HGG.out g h; omega) (by omega))).mono ?_
    rintro _ w11 ⟨rfl, hI11, hK11⟩
    have HF : Below w0.heap.size w0 w11 := ((HB0W.out.trans HI9.out.below).trans HI10.out.below).trans hI11.below
    go_wp2
    go_ret
    exact ⟨rfl, HF, _, hK11⟩
  · have hba := bel_alloc w8 (.cells #[.int .i64 b] 3)
    have HQW : Hid (Rd w0.heap.size (w8.alloc (.cells #[.int .i64 b] 3)) (some ⟨w8.heap.size, 0, none⟩) 1 1 LO.d) := by
      rw [HZ1.out hz]
      exact (out_one w8 b (by omega) _ (upd_same _ _ _)).rd
    have hA1 : LO.n = 1 := by rw [HZ1.out hz]
    have hcb : 0 < cls b := by have : cls b ≠ 0 := fun q => hz (hcz.1 q); omega
    have HKW : Hid (KeptE w0.heap.size (w8.alloc (.cells #[.int .i64 b] 3)) k (fun g => g < w.heap.size)) := HKL.out.keeps hba
    have HOW : Hid (OutE w0.heap.size (w8.alloc (.cells #[.int .i64 b] 3)) (.slice oo LO.n oc) 1 LO.d) := (HOL.out.stays hba).at_ hA1
    have HGW : Hid (OutE w0.heap.size (w8.alloc (.cells #[.int .i64 b] 3)) (.slice xGo LG.n xGc) LG.n LG.d) := HLG.out.stays hba
    have HSW : Hid (OutE w0.heap.size (w8.alloc (.cells #[.int .i64 b] 3)) (.slice xSo LS.n xSc) LS.n LS.d) := HLS.out.stays hba
    have HPGW : Hid (Rd w0.heap.size (w8.alloc (.cells #[.int .i64 b] 3)) pGo LG.n pGc LG.d) := HPG.out.ik (Ik.of hba (by omega))
    have HPSW : Hid (Rd w0.heap.size (w8.alloc (.cells #[.int .i64 b] 3)) pSo LS.n pSc LS.d) := HPS.out.ik (Ik.of hba (by omega))
    have HB0W : Hid (Below w0.heap.size w0 (w8.alloc (.cells #[.int .i64 b] 3))) := HB08.out.trans (hba.mono (by omega))
    have sW := hba.size
    clear hba hcz hA1
    go_wp2_with fail
    generalize hWW : w8.alloc (.cells #[.int .i64 b] 3) = WW at HQW HKW HOW HGW HSW HPGW HPSW HB0W sW ⊢
    refine (is7_add (er := 0) (ld := LO.d) HKW.out HOW.out HQW.out (by omega) (by omega) (fun g hg => by have := HGO.out g hg; omega)).mono ?_
    rintro _ w9 ⟨rfl, hI9, hK9⟩
    have s89 := hI9.below.size
    have HI9 : Hid (Ik w0.heap.size WW w9) := hI9
    have HK9 : Hid (KeptE w0.heap.size w9 k (S2E (fun g => g < w.heap.size) (.slice oo LO.n oc) WW.heap.size)) := hK9
    clear hI9 hK9
    go_wp2_with fail
    refine (is7_add (er := eG) (ld := LG.d) HK9.out (HGW.out.ik HI9.out) (HPGW.out.ik HI9.out) hnG (by omega) (fun g hg => by
      have h1 := HGG.out g hg
      exact S2E.not (by omega) (fun h => by have := HGO.out g h; omega) (by omega))).mono ?_
    rintro _ w10 ⟨rfl, hI10, hK10⟩
    have s910 := hI10.below.size
    have HI10 : Hid (Ik w0.heap.size w9 w10) := hI10
    have HK10 : Hid (KeptE w0.heap.size w10 k (S2E (S2E (fun g => g < w.heap.size) (.slice oo LO.n oc) WW.heap.size) (.slice xGo LG.n xGc) w9.heap.size)) := hK10
    clear hI10 hK10
    go_wp2_with fail
    refine (is7_add (er := eS) (ld := LS.d) HK10.out ((HSW.out.ik HI9.out).ik HI10.out) ((HPSW.out.ik HI9.out).ik HI10.out) hnS (by omega) (fun g hg => by
      have h1 := HGS.out g hg
      exact S2E.not (S2E.not (by omega) (fun h => by have := HGO.out g h; omega) (by omega)) (fun h => by have := HGG.out g h; omega) (by omega))).mono ?_
    rintro _ w11 ⟨rfl, hI11, hK11⟩
    have HF : Below w0.heap.size w0 w11 := ((HB0W.out.trans HI9.out.below).trans HI10.out.below).trans hI11.below
    go_wp2
    go_ret
    exact ⟨rfl, HF, _, hK11⟩
set_option maxRecDepth 100000 in
set_option maxHeartbeats 4000000 in
theorem floats_bad {k n ec : Nat} {eo : Option Addr} {d : Nat → Int} {b : Int} {S : Nat → Prop} (w0 w : World) (hb0 : Below w0.heap.size w0 w) (H : Hold4 w0) (he : Row w0 eo n ec d) (hr : ∀ i, i < n → rng (d i)) (hb : rng b) (hn : n ≤ 500) (hk : KeptE w0.heap.size w k S) (hv : xval d n = false) (pb : pok b = true) :
    Calls Tryz.prog 6 #[.pointer (some ⟨k, 0, none⟩), .slice eo n ec, .int .i64 b] w fun e w' => e = .returned (.bool true) ∧ Below w0.heap.size w0 w' ∧ ∃ S', KeptE w0.heap.size w' k S' := by
  have HE : Hid (Row w0 eo n ec d) := he
  have HH : Hid (Hold4 w0) := H
  have HK : Hid (KeptE w0.heap.size w k (fun g => g < w.heap.size)) := hk.old
  have HB0 : Hid (Below w0.heap.size w0 w) := hb0
  have hle := he.le
  have hmx := he.max
  have CL : Hid (∀ W, Row W eo n ec d → Calls Tryz.prog 13 #[.slice eo n ec] W fun e w' => ∃ v, e = .returned v ∧ LentA W w' v n d) := fun W h => lent_any eo n ec d W h (by omega)
  have CV : Hid (∀ W, Row W eo n ec d → Calls Tryz.prog 14 #[.slice eo n ec] W fun e w' => e = .returned (.bool (xval d n)) ∧ Below W.heap.size W w') := fun W h => r7valid_any W h hr (by omega)
  have CF : Hid (∀ W, Calls Tryz.prog 15 #[.int .i64 b] W fun x w' => x = .returned (.bool (pok b)) ∧ w' = W) := fun W => rfinite_any b W hb
  have CC : Hid (∀ W, Calls Tryz.prog 20 #[.int .i64 b] W fun e w' => e = .returned (.int .i64 (cls b)) ∧ w' = W) := fun W => refClass b W hb
  have hcz := cls_nought hb
  have hc0 : 0 ≤ cls b := (cls_le b).1
  rw [hv] at CV
  rw [pb] at CF
  have CO : Hid (∀ W, Hold4 W → Calls Tryz.prog 16 #[.int .i64 b] W fun r w' => ∃ lo lc, r = .returned (.tuple #[.slice lo ((⟨0, fun _ => 0⟩ : Ls).add b).n lc, .int .i64 0]) ∧ OutE W.heap.size w' (.slice lo ((⟨0, fun _ => 0⟩ : Ls).add b).n lc) ((⟨0, fun _ => 0⟩ : Ls).add b).n ((⟨0, fun _ => 0⟩ : Ls).add b).d ∧ Below W.heap.size W w') := fun W h => (xOf_ok W hb pb h).mono fun _ _ hx => hx.uniT
  have hnO : ((⟨0, fun _ => 0⟩ : Ls).add b).n ≤ 1 := (Ls.add_le _ _).2
  have HZ0 : Hid (rg b = 0 → (⟨0, fun _ => 0⟩ : Ls).add b = ⟨0, fun _ => 0⟩) := add_zero_ls
  have HZ1 : Hid (rg b ≠ 0 → (⟨0, fun _ => 0⟩ : Ls).add b = ⟨1, upd (fun _ => 0) 0 b⟩) := add_one_ls
  generalize (⟨0, fun _ => 0⟩ : Ls).add b = LO at *
  have CG : Hid (∀ W eo ec, Row W eo n ec d → Hold4 W → Calls Tryz.prog 9 #[.slice eo n ec, .int .i64 b] W fun r w' => r = .returned (.tuple #[.slice none 0 0, .int .i64 1]) ∧ Below W.heap.size W w') := fun W eo ec hR hW => xGrow_bad W hR hv hW
  have CS : Hid (∀ W eo ec, Row W eo n ec d → Hold4 W → Calls Tryz.prog 10 #[.slice eo n ec, .int .i64 b] W fun r w' => r = .returned (.tuple #[.slice none 0 0, .int .i64 1]) ∧ Below W.heap.size W w') := fun W eo ec hR hW => xScale_bad W hR hv hW
  clear hk he H hb0 hr
  go_enter Tryz.func6, Tryz.ntmps6
  go_wp2_with fail
  refine (CL.out _ (HE.out.keeps HB0.out)).mono ?_
  rintro _ w1 ⟨v1, rfl, hLA⟩
  have hb1 := hLA.below
  obtain ⟨gc, cc, rfl, hLO⟩ := hLA.parts
  obtain ⟨hcl, hcm⟩ := lent_cap hLO
  have HLO : Hid (Out w.heap.size w1 (.slice (some ⟨gc, 0, none⟩) (n + 3) cc) (n + 3) (lentD d n)) := hLO
  have HB1 : Hid (Below w0.heap.size w0 w1) := HB0.out.trans (hb1.mono HB0.out.size)
  have HB1' : Hid (Below w.heap.size w w1) := hb1
  have s01 := hb1.size
  have s00 := HB0.out.size
  have hgc := hLO.ge (g := gc) rfl
  clear hLA hLO hb1
  go_wp2_with fail
  refine (CV.out _ (HE.out.keeps HB1.out)).mono ?_
  rintro _ w2 ⟨rfl, hb2⟩
  have HB2 : Hid (Below w1.heap.size w1 w2) := hb2
  have s12 := hb2.size
  clear hb2
  go_wp2_with fail
  refine (CF.out _).mono ?_
  rintro _ wz ⟨rfl, hw⟩
  replace hw := hw.symm
  subst hw
  go_wp2_with fail
  have HB02 : Hid (Below w0.heap.size w0 w2) := HB1.out.trans (HB2.out.mono HB1.out.size)
  refine (CO.out _ (HH.out.keeps HB02.out)).mono ?_
  rintro _ w3 ⟨oo, oc, rfl, hO3, hb3⟩
  have HO3 : Hid (OutE w2.heap.size w3 (.slice oo LO.n oc) LO.n LO.d) := hO3
  have HGO : Hid (∀ g, ownE (.slice oo LO.n oc) = some g → w2.heap.size ≤ g ∧ g < w3.heap.size) := fun g hg => hO3.ge hg
  clear hO3
  have HB3 : Hid (Below w2.heap.size w2 w3) := hb3
  have HB03 : Hid (Below w0.heap.size w0 w3) := HB02.out.trans (hb3.mono HB02.out.size)
  have HR3 : Hid (Row w3 (some ⟨gc, 0, none⟩) n cc d) := ((lent_row HLO.out).keeps HB2.out).keeps hb3
  have s23 := hb3.size
  clear hb3
  go_wp2_with fail
  refine (CG.out _ _ _ HR3.out (HH.out.keeps HB03.out)).mono ?_
  rintro _ w4 ⟨rfl, hb4⟩
  have HB4 : Hid (Below w3.heap.size w3 w4) := hb4
  have HB04 : Hid (Below w0.heap.size w0 w4) := HB03.out.trans (hb4.mono HB03.out.size)
  have s34 := hb4.size
  clear hb4
  go_wp2_with fail
  refine (CS.out _ _ _ (HR3.out.keeps HB4.out) (HH.out.keeps HB04.out)).mono ?_
  rintro _ w5 ⟨rfl, hb5⟩
  have HB5 : Hid (Below w4.heap.size w4 w5) := hb5
  have HB05 : Hid (Below w0.heap.size w0 w5) := HB04.out.trans (hb5.mono HB04.out.size)
  have s45 := hb5.size
  clear hb5
  have HB15 : Hid (Below w1.heap.size w1 w5) := bel_trans (bel_trans (bel_trans HB2.out HB3.out) HB4.out) HB5.out
  have CB := back_any (HLO.out.stays HB15.out) (RowX.of0 HE.out HB05.out (by omega)) (HE.out.keeps HB05.out) (show n ≤ 100000 by omega)
  go_wp2_with fail
  refine CB.mono ?_
  rintro _ w6 ⟨rfl, hW6⟩
  have HW6 : Hid (Wr gc w5 w6) := hW6
  have s56 := hW6.size
  have HB06 : Hid (Below w0.heap.size w0 w6) := hW6.below HB05.out HB05.out.size (by omega)
  have HK6 : Hid (KeptE w0.heap.size w6 k (fun g => g < w.heap.size)) := by
    obtain ⟨cur, z, hc⟩ := (HLO.out.stays HB15.out).typed (g := gc) rfl
    exact (HK.out.keeps (HB1'.out.trans (HB15.out.mono s01))).wr hW6 (by omega) hc
  clear hW6 CB HK
  go_wp2_with fail
  refine (CC.out _).mono ?_
  rintro _ wz ⟨rfl, hw⟩
  replace hw := hw.symm
  subst hw
  have HB6L : Hid (Below w6.heap.size w6 w6) := bel_refl _
  have HKL : Hid (KeptE w0.heap.size w6 k (fun g => g < w.heap.size)) := HK6.out.keeps HB6L.out
  have HOL : Hid (OutE w0.heap.size w6 (.slice oo LO.n oc) LO.n LO.d) := (((((HO3.out.stays HB4.out).stays HB5.out).wr HW6.out (by omega)).stays HB6L.out).lower (by omega))
  by_cases hz : rg b = 0
  · have hba := bel_refl w6
    have HQW : Hid (Rd w0.heap.size w6 none 0 0 LO.d) := Rd.nil _ _ _
    have hA1 : LO.n = 0 := by rw [HZ0.out hz]
    have hcb : ¬ 0 < cls b := by have := hcz.2 hz; omega
    have HKW : Hid (KeptE w0.heap.size w6 k (fun g => g < w.heap.size)) := HKL.out.keeps hba
    have HOW : Hid (OutE w0.heap.size w6 (.slice oo LO.n oc) 0 LO.d) := (HOL.out.stays hba).at_ hA1
    have HB0W : Hid (Below w0.heap.size w0 w6) := HB06.out.trans (hba.mono (by omega))
    have sW := hba.size
    clear hba hcz hA1
    go_wp2_with fail
    refine (is7_add (er := 0) (ld := LO.d) HKW.out HOW.out HQW.out (by omega) (by omega) (fun g hg => by have := HGO.out g hg; omega)).mono ?_
    rintro _ w9 ⟨rfl, hI9, hK9⟩
    have HI9 : Hid (Ik w0.heap.size w6 w9) := hI9
    have HK9 : Hid (KeptE w0.heap.size w9 k (S2E (fun g => g < w.heap.size) (.slice oo LO.n oc) w6.heap.size)) := hK9
    clear hI9 hK9
    go_wp2_with (go_at_call 21; refine (is7_err _ (by decide)).mono ?_; rintro _ wz ⟨rfl, hw⟩; replace hw := hw.symm; subst hw)
    go_ret
    exact ⟨rfl, HB0W.out.trans HI9.out.below, _, HK9.out⟩
  · have hba := bel_alloc w6 (.cells #[.int .i64 b] 3)
    have HQW : Hid (Rd w0.heap.size (w6.alloc (.cells #[.int .i64 b] 3)) (some ⟨w6.heap.size, 0, none⟩) 1 1 LO.d) := by
      rw [HZ1.out hz]
      exact (out_one w6 b (by omega) _ (upd_same _ _ _)).rd
    have hA1 : LO.n = 1 := by rw [HZ1.out hz]
    have hcb : 0 < cls b := by have : cls b ≠ 0 := fun q => hz (hcz.1 q); omega
    have HKW : Hid (KeptE w0.heap.size (w6.alloc (.cells #[.int .i64 b] 3)) k (fun g => g < w.heap.size)) := HKL.out.keeps hba
    have HOW : Hid (OutE w0.heap.size (w6.alloc (.cells #[.int .i64 b] 3)) (.slice oo LO.n oc) 1 LO.d) := (HOL.out.stays hba).at_ hA1
    have HB0W : Hid (Below w0.heap.size w0 (w6.alloc (.cells #[.int .i64 b] 3))) := HB06.out.trans (hba.mono (by omega))
    have sW := hba.size
    clear hba hcz hA1
    go_wp2_with fail
    generalize hWW : w6.alloc (.cells #[.int .i64 b] 3) = WW at HQW HKW HOW HB0W sW ⊢
    refine (is7_add (er := 0) (ld := LO.d) HKW.out HOW.out HQW.out (by omega) (by omega) (fun g hg => by have := HGO.out g hg; omega)).mono ?_
    rintro _ w9 ⟨rfl, hI9, hK9⟩
    have HI9 : Hid (Ik w0.heap.size WW w9) := hI9
    have HK9 : Hid (KeptE w0.heap.size w9 k (S2E (fun g => g < w.heap.size) (.slice oo LO.n oc) WW.heap.size)) := hK9
    clear hI9 hK9
    go_wp2_with (go_at_call 21; refine (is7_err _ (by decide)).mono ?_; rintro _ wz ⟨rfl, hw⟩; replace hw := hw.symm; subst hw)
    go_ret
    exact ⟨rfl, HB0W.out.trans HI9.out.below, _, HK9.out⟩
set_option maxRecDepth 100000 in
set_option maxHeartbeats 4000000 in
theorem floats_badinf {k n ec : Nat} {eo : Option Addr} {d : Nat → Int} {b : Int} {S : Nat → Prop} (w0 w : World) (hb0 : Below w0.heap.size w0 w) (H : Hold4 w0) (he : Row w0 eo n ec d) (hr : ∀ i, i < n → rng (d i)) (hb : rng b) (hn : n ≤ 500) (hk : KeptE w0.heap.size w k S) (hv : xval d n = false) (pb : pok b = false) :
    Calls Tryz.prog 6 #[.pointer (some ⟨k, 0, none⟩), .slice eo n ec, .int .i64 b] w fun e w' => e = .returned (.bool true) ∧ Below w0.heap.size w0 w' ∧ ∃ S', KeptE w0.heap.size w' k S' := by
  have HE : Hid (Row w0 eo n ec d) := he
  have HH : Hid (Hold4 w0) := H
  have HK : Hid (KeptE w0.heap.size w k (fun g => g < w.heap.size)) := hk.old
  have HB0 : Hid (Below w0.heap.size w0 w) := hb0
  have hle := he.le
  have hmx := he.max
  have CL : Hid (∀ W, Row W eo n ec d → Calls Tryz.prog 13 #[.slice eo n ec] W fun e w' => ∃ v, e = .returned v ∧ LentA W w' v n d) := fun W h => lent_any eo n ec d W h (by omega)
  have CV : Hid (∀ W, Row W eo n ec d → Calls Tryz.prog 14 #[.slice eo n ec] W fun e w' => e = .returned (.bool (xval d n)) ∧ Below W.heap.size W w') := fun W h => r7valid_any W h hr (by omega)
  have CF : Hid (∀ W, Calls Tryz.prog 15 #[.int .i64 b] W fun x w' => x = .returned (.bool (pok b)) ∧ w' = W) := fun W => rfinite_any b W hb
  have CC : Hid (∀ W, Calls Tryz.prog 20 #[.int .i64 b] W fun e w' => e = .returned (.int .i64 (cls b)) ∧ w' = W) := fun W => refClass b W hb
  have hcz := cls_nought hb
  have hc0 : 0 ≤ cls b := (cls_le b).1
  rw [hv] at CV
  rw [pb] at CF
  have CO : Hid (∀ W, Hold4 W → Calls Tryz.prog 16 #[.int .i64 b] W fun r w' => r = .returned (.tuple #[.slice none 0 0, .int .i64 10]) ∧ Below W.heap.size W w') := fun W h => xOf_inf W pb h
  have CG : Hid (∀ W eo ec, Row W eo n ec d → Hold4 W → Calls Tryz.prog 9 #[.slice eo n ec, .int .i64 b] W fun r w' => r = .returned (.tuple #[.slice none 0 0, .int .i64 1]) ∧ Below W.heap.size W w') := fun W eo ec hR hW => xGrow_bad W hR hv hW
  have CS : Hid (∀ W eo ec, Row W eo n ec d → Hold4 W → Calls Tryz.prog 10 #[.slice eo n ec, .int .i64 b] W fun r w' => r = .returned (.tuple #[.slice none 0 0, .int .i64 1]) ∧ Below W.heap.size W w') := fun W eo ec hR hW => xScale_bad W hR hv hW
  clear hk he H hb0 hr
  go_enter Tryz.func6, Tryz.ntmps6
  go_wp2_with fail
  refine (CL.out _ (HE.out.keeps HB0.out)).mono ?_
  rintro _ w1 ⟨v1, rfl, hLA⟩
  have hb1 := hLA.below
  obtain ⟨gc, cc, rfl, hLO⟩ := hLA.parts
  obtain ⟨hcl, hcm⟩ := lent_cap hLO
  have HLO : Hid (Out w.heap.size w1 (.slice (some ⟨gc, 0, none⟩) (n + 3) cc) (n + 3) (lentD d n)) := hLO
  have HB1 : Hid (Below w0.heap.size w0 w1) := HB0.out.trans (hb1.mono HB0.out.size)
  have HB1' : Hid (Below w.heap.size w w1) := hb1
  have s01 := hb1.size
  have s00 := HB0.out.size
  have hgc := hLO.ge (g := gc) rfl
  clear hLA hLO hb1
  go_wp2_with fail
  refine (CV.out _ (HE.out.keeps HB1.out)).mono ?_
  rintro _ w2 ⟨rfl, hb2⟩
  have HB2 : Hid (Below w1.heap.size w1 w2) := hb2
  have s12 := hb2.size
  clear hb2
  go_wp2_with fail
  refine (CF.out _).mono ?_
  rintro _ wz ⟨rfl, hw⟩
  replace hw := hw.symm
  subst hw
  go_wp2_with fail
  have HB02 : Hid (Below w0.heap.size w0 w2) := HB1.out.trans (HB2.out.mono HB1.out.size)
  refine (CO.out _ (HH.out.keeps HB02.out)).mono ?_
  rintro _ w3 ⟨rfl, hb3⟩
  have HB3 : Hid (Below w2.heap.size w2 w3) := hb3
  have HB03 : Hid (Below w0.heap.size w0 w3) := HB02.out.trans (hb3.mono HB02.out.size)
  have HR3 : Hid (Row w3 (some ⟨gc, 0, none⟩) n cc d) := ((lent_row HLO.out).keeps HB2.out).keeps hb3
  have s23 := hb3.size
  clear hb3
  go_wp2_with fail
  refine (CG.out _ _ _ HR3.out (HH.out.keeps HB03.out)).mono ?_
  rintro _ w4 ⟨rfl, hb4⟩
  have HB4 : Hid (Below w3.heap.size w3 w4) := hb4
  have HB04 : Hid (Below w0.heap.size w0 w4) := HB03.out.trans (hb4.mono HB03.out.size)
  have s34 := hb4.size
  clear hb4
  go_wp2_with fail
  refine (CS.out _ _ _ (HR3.out.keeps HB4.out) (HH.out.keeps HB04.out)).mono ?_
  rintro _ w5 ⟨rfl, hb5⟩
  have HB5 : Hid (Below w4.heap.size w4 w5) := hb5
  have HB05 : Hid (Below w0.heap.size w0 w5) := HB04.out.trans (hb5.mono HB04.out.size)
  have s45 := hb5.size
  clear hb5
  have HB15 : Hid (Below w1.heap.size w1 w5) := bel_trans (bel_trans (bel_trans HB2.out HB3.out) HB4.out) HB5.out
  have CB := back_any (HLO.out.stays HB15.out) (RowX.of0 HE.out HB05.out (by omega)) (HE.out.keeps HB05.out) (show n ≤ 100000 by omega)
  go_wp2_with fail
  refine CB.mono ?_
  rintro _ w6 ⟨rfl, hW6⟩
  have HW6 : Hid (Wr gc w5 w6) := hW6
  have s56 := hW6.size
  have HB06 : Hid (Below w0.heap.size w0 w6) := hW6.below HB05.out HB05.out.size (by omega)
  have HK6 : Hid (KeptE w0.heap.size w6 k (fun g => g < w.heap.size)) := by
    obtain ⟨cur, z, hc⟩ := (HLO.out.stays HB15.out).typed (g := gc) rfl
    exact (HK.out.keeps (HB1'.out.trans (HB15.out.mono s01))).wr hW6 (by omega) hc
  clear hW6 CB HK
  go_wp2_with fail
  refine (CC.out _).mono ?_
  rintro _ wz ⟨rfl, hw⟩
  replace hw := hw.symm
  subst hw
  have HB6L : Hid (Below w6.heap.size w6 w6) := bel_refl _
  have HKL : Hid (KeptE w0.heap.size w6 k (fun g => g < w.heap.size)) := HK6.out.keeps HB6L.out
  have hcb : 0 < cls b := by
    have : ¬ cls b = 0 := fun q => by
      have h1 : rg b = 0 := hcz.1 q
      have h2 := (cls_not (b := b) (by rw [pb]; simp)).1
      omega
    omega
  have hba := bel_alloc w6 (.cells #[.int .i64 b] 3)
  have HKW : Hid (KeptE w0.heap.size (w6.alloc (.cells #[.int .i64 b] 3)) k (fun g => g < w.heap.size)) := HKL.out.keeps hba
  have HB0W : Hid (Below w0.heap.size w0 (w6.alloc (.cells #[.int .i64 b] 3))) := HB06.out.trans (hba.mono (by omega))
  clear hba hcz
  go_wp2_with (go_at_call 21; refine (is7_err _ (by decide)).mono ?_; rintro _ wz ⟨rfl, hw⟩; replace hw := hw.symm; subst hw)
  go_ret
  exact ⟨rfl, HB0W.out, _, HKW.out⟩
set_option maxRecDepth 100000 in
set_option maxHeartbeats 4000000 in
theorem floats_inf {k n ec : Nat} {eo : Option Addr} {d : Nat → Int} {b : Int} {S : Nat → Prop} (w0 w : World) (hb0 : Below w0.heap.size w0 w) (H : Hold4 w0) (he : Row w0 eo n ec d) (hr : ∀ i, i < n → rng (d i)) (hb : rng b) (hn : n ≤ 500) (hk : KeptE w0.heap.size w k S) (hv : xval d n = true) (pb : pok b = false) :
    Calls Tryz.prog 6 #[.pointer (some ⟨k, 0, none⟩), .slice eo n ec, .int .i64 b] w fun e w' => e = .returned (.bool true) ∧ Below w0.heap.size w0 w' ∧ ∃ S', KeptE w0.heap.size w' k S' := by
  have HE : Hid (Row w0 eo n ec d) := he
  have HH : Hid (Hold4 w0) := H
  have HK : Hid (KeptE w0.heap.size w k (fun g => g < w.heap.size)) := hk.old
  have HB0 : Hid (Below w0.heap.size w0 w) := hb0
  have hle := he.le
  have hmx := he.max
  have CL : Hid (∀ W, Row W eo n ec d → Calls Tryz.prog 13 #[.slice eo n ec] W fun e w' => ∃ v, e = .returned v ∧ LentA W w' v n d) := fun W h => lent_any eo n ec d W h (by omega)
  have CV : Hid (∀ W, Row W eo n ec d → Calls Tryz.prog 14 #[.slice eo n ec] W fun e w' => e = .returned (.bool (xval d n)) ∧ Below W.heap.size W w') := fun W h => r7valid_any W h hr (by omega)
  have CF : Hid (∀ W, Calls Tryz.prog 15 #[.int .i64 b] W fun x w' => x = .returned (.bool (pok b)) ∧ w' = W) := fun W => rfinite_any b W hb
  have CC : Hid (∀ W, Calls Tryz.prog 20 #[.int .i64 b] W fun e w' => e = .returned (.int .i64 (cls b)) ∧ w' = W) := fun W => refClass b W hb
  have hcz := cls_nought hb
  have hc0 : 0 ≤ cls b := (cls_le b).1
  rw [hv] at CV
  rw [pb] at CF
  have CO : Hid (∀ W, Hold4 W → Calls Tryz.prog 16 #[.int .i64 b] W fun r w' => r = .returned (.tuple #[.slice none 0 0, .int .i64 10]) ∧ Below W.heap.size W w') := fun W h => xOf_inf W pb h
  have CG : Hid (∀ W eo ec, Row W eo n ec d → Hold4 W → Calls Tryz.prog 9 #[.slice eo n ec, .int .i64 b] W fun r w' => r = .returned (.tuple #[.slice none 0 0, .int .i64 10]) ∧ Below W.heap.size W w') := fun W eo ec hR hW => xGrow_inf W hR hv pb hW
  have CS : Hid (∀ W eo ec, Row W eo n ec d → Hold4 W → Calls Tryz.prog 10 #[.slice eo n ec, .int .i64 b] W fun r w' => r = .returned (.tuple #[.slice none 0 0, .int .i64 10]) ∧ Below W.heap.size W w') := fun W eo ec hR hW => xScale_inf W hR hv pb hW
  clear hk he H hb0 hr
  go_enter Tryz.func6, Tryz.ntmps6
  go_wp2_with fail
  refine (CL.out _ (HE.out.keeps HB0.out)).mono ?_
  rintro _ w1 ⟨v1, rfl, hLA⟩
  have hb1 := hLA.below
  obtain ⟨gc, cc, rfl, hLO⟩ := hLA.parts
  obtain ⟨hcl, hcm⟩ := lent_cap hLO
  have HLO : Hid (Out w.heap.size w1 (.slice (some ⟨gc, 0, none⟩) (n + 3) cc) (n + 3) (lentD d n)) := hLO
  have HB1 : Hid (Below w0.heap.size w0 w1) := HB0.out.trans (hb1.mono HB0.out.size)
  have HB1' : Hid (Below w.heap.size w w1) := hb1
  have s01 := hb1.size
  have s00 := HB0.out.size
  have hgc := hLO.ge (g := gc) rfl
  clear hLA hLO hb1
  go_wp2_with fail
  refine (CV.out _ (HE.out.keeps HB1.out)).mono ?_
  rintro _ w2 ⟨rfl, hb2⟩
  have HB2 : Hid (Below w1.heap.size w1 w2) := hb2
  have s12 := hb2.size
  clear hb2
  go_wp2_with fail
  refine (CF.out _).mono ?_
  rintro _ wz ⟨rfl, hw⟩
  replace hw := hw.symm
  subst hw
  go_wp2_with fail
  have HB02 : Hid (Below w0.heap.size w0 w2) := HB1.out.trans (HB2.out.mono HB1.out.size)
  refine (CO.out _ (HH.out.keeps HB02.out)).mono ?_
  rintro _ w3 ⟨rfl, hb3⟩
  have HB3 : Hid (Below w2.heap.size w2 w3) := hb3
  have HB03 : Hid (Below w0.heap.size w0 w3) := HB02.out.trans (hb3.mono HB02.out.size)
  have HR3 : Hid (Row w3 (some ⟨gc, 0, none⟩) n cc d) := ((lent_row HLO.out).keeps HB2.out).keeps hb3
  have s23 := hb3.size
  clear hb3
  go_wp2_with fail
  refine (CG.out _ _ _ HR3.out (HH.out.keeps HB03.out)).mono ?_
  rintro _ w4 ⟨rfl, hb4⟩
  have HB4 : Hid (Below w3.heap.size w3 w4) := hb4
  have HB04 : Hid (Below w0.heap.size w0 w4) := HB03.out.trans (hb4.mono HB03.out.size)
  have s34 := hb4.size
  clear hb4
  go_wp2_with fail
  refine (CS.out _ _ _ (HR3.out.keeps HB4.out) (HH.out.keeps HB04.out)).mono ?_
  rintro _ w5 ⟨rfl, hb5⟩
  have HB5 : Hid (Below w4.heap.size w4 w5) := hb5
  have HB05 : Hid (Below w0.heap.size w0 w5) := HB04.out.trans (hb5.mono HB04.out.size)
  have s45 := hb5.size
  clear hb5
  have HB15 : Hid (Below w1.heap.size w1 w5) := bel_trans (bel_trans (bel_trans HB2.out HB3.out) HB4.out) HB5.out
  have CB := back_any (HLO.out.stays HB15.out) (RowX.of0 HE.out HB05.out (by omega)) (HE.out.keeps HB05.out) (show n ≤ 100000 by omega)
  go_wp2_with fail
  refine CB.mono ?_
  rintro _ w6 ⟨rfl, hW6⟩
  have HW6 : Hid (Wr gc w5 w6) := hW6
  have s56 := hW6.size
  have HB06 : Hid (Below w0.heap.size w0 w6) := hW6.below HB05.out HB05.out.size (by omega)
  have HK6 : Hid (KeptE w0.heap.size w6 k (fun g => g < w.heap.size)) := by
    obtain ⟨cur, z, hc⟩ := (HLO.out.stays HB15.out).typed (g := gc) rfl
    exact (HK.out.keeps (HB1'.out.trans (HB15.out.mono s01))).wr hW6 (by omega) hc
  clear hW6 CB HK
  go_wp2_with fail
  refine (CC.out _).mono ?_
  rintro _ wz ⟨rfl, hw⟩
  replace hw := hw.symm
  subst hw
  have HB6L : Hid (Below w6.heap.size w6 w6) := bel_refl _
  have HKL : Hid (KeptE w0.heap.size w6 k (fun g => g < w.heap.size)) := HK6.out.keeps HB6L.out
  have hcb : 0 < cls b := by
    have : ¬ cls b = 0 := fun q => by
      have h1 : rg b = 0 := hcz.1 q
      have h2 := (cls_not (b := b) (by rw [pb]; simp)).1
      omega
    omega
  have hba := bel_alloc w6 (.cells #[.int .i64 b] 3)
  have HKW : Hid (KeptE w0.heap.size (w6.alloc (.cells #[.int .i64 b] 3)) k (fun g => g < w.heap.size)) := HKL.out.keeps hba
  have HB0W : Hid (Below w0.heap.size w0 (w6.alloc (.cells #[.int .i64 b] 3))) := HB06.out.trans (hba.mono (by omega))
  clear hba hcz
  go_wp2_with (go_at_call 21; refine (is7_err _ (by decide)).mono ?_; rintro _ wz ⟨rfl, hw⟩; replace hw := hw.symm; subst hw)
  go_ret
  exact ⟨rfl, HB0W.out, _, HKW.out⟩
theorem floats_any {k n ec : Nat} {eo : Option Addr} {d : Nat → Int} {b : Int} {S : Nat → Prop} (w0 w : World) (hb0 : Below w0.heap.size w0 w) (H : Hold4 w0) (he : Row w0 eo n ec d) (hr : ∀ i, i < n → rng (d i)) (hb : rng b) (hn : n ≤ 500) (hk : KeptE w0.heap.size w k S) :
    Calls Tryz.prog 6 #[.pointer (some ⟨k, 0, none⟩), .slice eo n ec, .int .i64 b] w fun e w' => e = .returned (.bool true) ∧ Below w0.heap.size w0 w' ∧ ∃ S', KeptE w0.heap.size w' k S' := by
  cases hv : xval d n <;> cases pb : pok b
  · exact floats_badinf w0 w hb0 H he hr hb hn hk hv pb
  · exact floats_bad w0 w hb0 H he hr hb hn hk hv pb
  · exact floats_inf w0 w hb0 H he hr hb hn hk hv pb
  · exact floats_ok w0 w hb0 H he hr hb hn hk hv pb
end Go.Proofs.YtjlmpgbadgkgmaaGreatDoor
