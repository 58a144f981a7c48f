/-
  ExpansionProducts: for any two lists the law returns true: floats from the middle of all, grown one by one: the product of two such expansions, and of one and a float, is an expansion of just the product. As a card: the library's tables and the layout of package bits start as the program's text lays them.
-/
import Derived.Test.YtmgndnabaemgkaaDoorPart15
import Derived.Test.YtmgndnabaemgkaaDoorPart12
import Derived.Test.YtmgndnabaemgkaaDoorPart6
import Derived.Test.YtmgndnabaemgkaaDoorPart10
import Derived.Test.YtmgndnabaemgkaaDoorCards
import Derived.Test.YtmgndnabaemgkaaDoorTie
namespace Go.Proofs.YtmgndnabaemgkaaDoor.expansionProducts
open Go Go.ChangeShapes Go.WideShapes Go.ChangeAt Go.RowKit Go.Proofs.YtmgndnabaemgkaaDoor Go.Proofs.YtmgndnabaemgkaaDoor.M
set_option linter.unusedSimpArgs false
set_option linter.unusedVariables false

theorem bd_of {d : Nat → Int} {n : Nat} (h : XV d n) (hn : n ≤ 1000) : Bd 5000 (psm d n) := (psm_bd (fun i hi => (h.fin i hi).2.1) hn).up (by omega) (by omega)
theorem psm_of {d : Nat → Int} {n : Nat} (h : XV d n) : psm d n = lsm d n * pw (-1074) := psm_lsm fun i hi => ⟨(h.fin i hi).1, (h.fin i hi).2.1⟩
theorem prS_len (d : Nat → Int) (n : Nat) (f : Nat → Int) (k : Nat) (hn : n ≤ 6) (hk : k ≤ 6) : (prS d n f k).n ≤ 72 := Nat.le_trans (prS_le d n f k) (by
  have : 2 * n * k ≤ 2 * 6 * 6 := Nat.mul_le_mul (by omega) (by omega)
  omega)
set_option maxRecDepth 100000 in
set_option maxHeartbeats 8000000 in
theorem walk_some (a0 : Option Addr) (l0 c0 : Nat) (z0 : Nat → Int) (a1 : Option Addr) (l1 c1 : Nat) (z1 : Nat → Int) (w : World) (R0 : Row w a0 l0 c0 z0) (R1 : Row w a1 l1 c1 z1) (H : Hold4 w) (hF : 0 < (mdT z1 l1).n) :
    Calls Tryd.prog 3 #[.slice a0 l0 c0, .slice a1 l1 c1] w fun e w' => e = .returned (.bool true) ∧ Below w.heap.size w w' := by
  have CM0 : Hid (∀ W, Row W a0 l0 c0 z0 → Hold4 W → Calls Tryd.prog 4 #[.slice a0 l0 c0, .int .i64 6] W fun r w' => ∃ eo ec, r = .returned (.tuple #[.slice eo (mdT z0 l0).n ec, .bool true]) ∧ Row w' eo (mdT z0 l0).n ec (mdT z0 l0).d ∧ Below W.heap.size W w') := fun W h hH => made6_any W h hH
  have CM1 : Hid (∀ W, Row W a1 l1 c1 z1 → Hold4 W → Calls Tryd.prog 4 #[.slice a1 l1 c1, .int .i64 6] W fun r w' => ∃ eo ec, r = .returned (.tuple #[.slice eo (mdT z1 l1).n ec, .bool true]) ∧ Row w' eo (mdT z1 l1).n ec (mdT z1 l1).d ∧ Below W.heap.size W w') := fun W h hH => made6_any W h hH
  have ME := mt_of z0 l0
  have MF := mt_of z1 l1
  generalize mdT z0 l0 = E at *
  generalize mdT z1 l1 = F at *
  have hE6 := ME.le
  have hF6 := MF.le
  obtain ⟨P1, P2, P3, P4⟩ := pr_all ME.xv ME.mid hE6 MF.mid hF6 F.n (Nat.le_refl _)
  have hPl := prS_len E.d E.n F.d F.n hE6 hF6
  have CVE : Hid (∀ W eo ec, Row W eo E.n ec E.d → Hold4 W → Calls Tryd.prog 6 #[.slice eo E.n ec] W fun r w' => ∃ v, r = .returned (.tuple #[v, .bool true]) ∧ DAns W w' (psm E.d E.n) v) := fun W eo ec h hH => value_ok h ME.xv (by omega) hH
  have CVF : Hid (∀ W eo ec, Row W eo F.n ec F.d → Hold4 W → Calls Tryd.prog 6 #[.slice eo F.n ec] W fun r w' => ∃ v, r = .returned (.tuple #[v, .bool true]) ∧ DAns W w' (psm F.d F.n) v) := fun W eo ec h hH => value_ok h MF.xv (by omega) hH
  have CPR : Hid (∀ W eo ec fo fc, Row W eo E.n ec E.d → Row W fo F.n fc F.d → Hold4 W → Calls Tryd.prog 7 #[.slice eo E.n ec, .slice fo F.n fc] W fun r w' => ∃ ao cap, r = .returned (.tuple #[.slice ao (prS E.d E.n F.d F.n).n cap, .int .i64 0]) ∧ Row w' ao (prS E.d E.n F.d F.n).n cap (prS E.d E.n F.d F.n).d ∧ Below W.heap.size W w') := fun W eo ec fo fc h hf hH => (xProduct W h hf (fun i hi => (ME.xv.fn i hi).1) (fun i hi => (MF.xv.fn i hi).1) (xval_of ME.xv) (xval_of MF.xv) (by omega) (by omega) hH).mono fun _ _ hx => hx.yes P1
  have hpE := psm_of ME.xv
  have hpF := psm_of MF.xv
  have hpS := psm_of P2
  have bE : Bd 5000 (psm E.d E.n) := bd_of ME.xv (by omega)
  have bF : Bd 5000 (psm F.d F.n) := bd_of MF.xv (by omega)
  have hPr : psm (prS E.d E.n F.d F.n).d (prS E.d E.n F.d F.n).n * 2 ^ 4194304 = psm E.d E.n * psm F.d F.n := by
    rw [hpS, hpE, hpF]
    exact k_scale P4
  have CVS : Hid (∀ W eo ec, Row W eo (prS E.d E.n F.d F.n).n ec (prS E.d E.n F.d F.n).d → Hold4 W → Calls Tryd.prog 6 #[.slice eo (prS E.d E.n F.d F.n).n ec] W fun r w' => ∃ v, r = .returned (.tuple #[v, .bool true]) ∧ DAns W w' (psm (prS E.d E.n F.d F.n).d (prS E.d E.n F.d F.n).n) v) := fun W eo ec h hH => value_ok h P2 (by omega) hH
  have oS : Dok (psm (prS E.d E.n F.d F.n).d (prS E.d E.n F.d F.n).n) := (bd_of P2 (by omega)).ok (by omega)
  have CMU : Hid (∀ W x y, DNum W x (psm E.d E.n) → DNum W y (psm F.d F.n) → Hold4 W → Calls Tryd.prog 8 #[x, y] W fun r w' => ∃ v, r = .returned (.tuple #[v, .int .i64 0]) ∧ DAns W w' (psm (prS E.d E.n F.d F.n).d (prS E.d E.n F.d F.n).n) v) := fun W x y hx hy hH => (mul_B hx hy bE bF (by omega) hH.tab).mono fun _ _ ⟨v, C, h1, h2, h3, _⟩ => by
    rw [← hPr] at h3
    rw [scale_inj h3] at h2
    exact ⟨v, h1, h2⟩
  have CS1 : Hid (∀ W x y, DNum W x (psm (prS E.d E.n F.d F.n).d (prS E.d E.n F.d F.n).n) → DNum W y (psm (prS E.d E.n F.d F.n).d (prS E.d E.n F.d F.n).n) → Calls Tryd.prog 9 #[x, y] W fun r w' => r = .returned (.bool true) ∧ Below W.heap.size W w') := fun W x y hx hy => by
    have := same7_any hx hy oS oS
    rw [ord_eq rfl] at this
    exact this
  obtain ⟨Q1, Q2, Q3, Q4⟩ := sclN_mid ME.xv ME.mid (MF.mid 0 hF)
  have hQl := sclN_le E.d (F.d 0) E.n
  have m0 := MF.mid 0 hF
  have CSC : Hid (∀ W eo ec, Row W eo E.n ec E.d → Hold4 W → Calls Tryd.prog 10 #[.slice eo E.n ec, .int .i64 (F.d 0)] W fun r w' => ∃ ao cap, r = .returned (.tuple #[.slice ao (sclN E.d (F.d 0) E.n).n cap, .int .i64 0]) ∧ Row w' ao (sclN E.d (F.d 0) E.n).n cap (sclN E.d (F.d 0) E.n).d ∧ Below W.heap.size W w') := fun W eo ec h hH => (xScale W h (fun i hi => (ME.xv.fn i hi).1) (xval_of ME.xv) m0.1 m0.2.1 (by omega) hH).mono fun _ _ hx => hx.yes Q1
  have hpT := psm_of Q2
  have bZ : Bd 5000 (patV (F.d 0)) := (patV_bd m0.2.1).up (by omega) (by omega)
  have hPz : psm (sclN E.d (F.d 0) E.n).d (sclN E.d (F.d 0) E.n).n * 2 ^ 4194304 = psm E.d E.n * patV (F.d 0) := by
    rw [hpT, hpE, patV_iV m0.1 m0.2.1]
    exact k_scale Q4
  have CVT : Hid (∀ W eo ec, Row W eo (sclN E.d (F.d 0) E.n).n ec (sclN E.d (F.d 0) E.n).d → Hold4 W → Calls Tryd.prog 6 #[.slice eo (sclN E.d (F.d 0) E.n).n ec] W fun r w' => ∃ v, r = .returned (.tuple #[v, .bool true]) ∧ DAns W w' (psm (sclN E.d (F.d 0) E.n).d (sclN E.d (F.d 0) E.n).n) v) := fun W eo ec h hH => value_ok h Q2 (by omega) hH
  have oT : Dok (psm (sclN E.d (F.d 0) E.n).d (sclN E.d (F.d 0) E.n).n) := (bd_of Q2 (by omega)).ok (by omega)
  have COF : Hid (∀ W, Hold4 W → Calls Tryd.prog 11 #[.int .i64 (F.d 0)] W fun r w' => ∃ v, r = .returned (.tuple #[v, .int .i64 0]) ∧ DAns W w' (patV (F.d 0)) v) := fun W hW => of_ok m0.2.1 hW
  have CMZ : Hid (∀ W x y, DNum W x (psm E.d E.n) → DNum W y (patV (F.d 0)) → Hold4 W → Calls Tryd.prog 8 #[x, y] W fun r w' => ∃ v, r = .returned (.tuple #[v, .int .i64 0]) ∧ DAns W w' (psm (sclN E.d (F.d 0) E.n).d (sclN E.d (F.d 0) E.n).n) v) := fun W x y hx hy hH => (mul_B hx hy bE bZ (by omega) hH.tab).mono fun _ _ ⟨v, C, h1, h2, h3, _⟩ => by
    rw [← hPz] at h3
    rw [scale_inj h3] at h2
    exact ⟨v, h1, h2⟩
  have CS2 : Hid (∀ W x y, DNum W x (psm (sclN E.d (F.d 0) E.n).d (sclN E.d (F.d 0) E.n).n) → DNum W y (psm (sclN E.d (F.d 0) E.n).d (sclN E.d (F.d 0) E.n).n) → Calls Tryd.prog 9 #[x, y] W fun r w' => r = .returned (.bool true) ∧ Below W.heap.size W w') := fun W x y hx hy => by
    have := same7_any hx hy oT oT
    rw [ord_eq rfl] at this
    exact this
  clear hpT bZ hPz oT Q1 Q2 Q3 Q4 m0
  generalize psm (sclN E.d (F.d 0) E.n).d (sclN E.d (F.d 0) E.n).n = VT at *
  generalize sclN E.d (F.d 0) E.n = ST at *
  have hFi : ((F.n : Int) == 0) = false := by simp; omega
  clear ME MF P1 P2 P3 P4 hpE hpF hpS hPr oS bE bF
  generalize psm (prS E.d E.n F.d F.n).d (prS E.d E.n F.d F.n).n = VS at *
  generalize prS E.d E.n F.d F.n = SP at *
  generalize psm E.d E.n = VE at *
  generalize psm F.d F.n = VF at *
  have lx0 := R0.max
  have lx1 := R1.max
  have ly0 := R0.le
  have ly1 := R1.le
  have hb0 := bel_refl w
  go_enter Tryd.func3, Tryd.ntmps3
  go_wp2_with fail
  refine (CM0.out _ R0 H).mono ?_
  rintro _ y1 ⟨e_o, e_c, rfl, RE, hw1⟩
  have H := H.keeps hw1
  have R0 := R0.keeps hw1
  have R1 := R1.keeps hw1
  have hb1 := bel_trans hb0 hw1
  go_wp2_with fail
  refine (CM1.out _ R1 H).mono ?_
  rintro _ y2 ⟨f_o, f_c, rfl, RF, hw2⟩
  have H := H.keeps hw2
  have R0 := R0.keeps hw2
  have R1 := R1.keeps hw2
  have RE := RE.keeps hw2
  have hb2 := bel_trans hb1 hw2
  obtain ⟨fb, ff, rfl, _, _⟩ := RF.spot hF
  have hcf := RF.max
  have hcl := RF.le
  go_wp2_with fail
  refine (alive7 _ H).mono ?_
  rintro _ y3 ⟨rfl, hw3⟩
  have H := H.keeps hw3
  have R0 := R0.keeps hw3
  have R1 := R1.keeps hw3
  have RE := RE.keeps hw3
  have RF := RF.keeps hw3
  have hb3 := bel_trans hb2 hw3
  go_wp2_with fail
  refine (CVE.out _ _ _ RE H).mono ?_
  rintro _ y4 ⟨v, rfl, h4⟩
  obtain ⟨x_g, x_o, x_n, x_c, x_e, rfl⟩ := dans_shape h4
  have hw4 := h4.below
  have x_D := h4.num
  have H := H.keeps hw4
  have R0 := R0.keeps hw4
  have R1 := R1.keeps hw4
  have RE := RE.keeps hw4
  have RF := RF.keeps hw4
  have hb4 := bel_trans hb3 hw4
  have x_k := heap_a1 y4 (.cells #[.bool x_g, .slice x_o x_n x_c, .int .i64 x_e] 27)
  have x_D := x_D.keeps (bel_alloc y4 (.cells #[.bool x_g, .slice x_o x_n x_c, .int .i64 x_e] 27))
  have H := H.keeps (bel_alloc y4 (.cells #[.bool x_g, .slice x_o x_n x_c, .int .i64 x_e] 27))
  have R0 := R0.keeps (bel_alloc y4 (.cells #[.bool x_g, .slice x_o x_n x_c, .int .i64 x_e] 27))
  have R1 := R1.keeps (bel_alloc y4 (.cells #[.bool x_g, .slice x_o x_n x_c, .int .i64 x_e] 27))
  have RE := RE.keeps (bel_alloc y4 (.cells #[.bool x_g, .slice x_o x_n x_c, .int .i64 x_e] 27))
  have RF := RF.keeps (bel_alloc y4 (.cells #[.bool x_g, .slice x_o x_n x_c, .int .i64 x_e] 27))
  have hb5' := bel_trans hb4 (bel_alloc y4 (.cells #[.bool x_g, .slice x_o x_n x_c, .int .i64 x_e] 27))
  go_wp2_with fail
  generalize y4.alloc (.cells #[.bool x_g, .slice x_o x_n x_c, .int .i64 x_e] 27) = x5 at x_k x_D H R0 R1 RE RF hb5' ⊢
  refine (CVF.out _ _ _ RF H).mono ?_
  rintro _ y5 ⟨v, rfl, h5⟩
  obtain ⟨y_g, y_o, y_n, y_c, y_e, rfl⟩ := dans_shape h5
  have hw5 := h5.below
  have y_D := h5.num
  have H := H.keeps hw5
  have R0 := R0.keeps hw5
  have R1 := R1.keeps hw5
  have RE := RE.keeps hw5
  have RF := RF.keeps hw5
  have x_k := (hw5.block _ (Array.getElem?_eq_some_iff.1 x_k).1).trans x_k
  have x_D := x_D.keeps hw5
  have hb5 := bel_trans hb5' hw5
  have x_k := heap_past (.cells #[.bool y_g, .slice y_o y_n y_c, .int .i64 y_e] 27) x_k
  have y_k := heap_a1 y5 (.cells #[.bool y_g, .slice y_o y_n y_c, .int .i64 y_e] 27)
  have x_D := x_D.keeps (bel_alloc y5 (.cells #[.bool y_g, .slice y_o y_n y_c, .int .i64 y_e] 27))
  have y_D := y_D.keeps (bel_alloc y5 (.cells #[.bool y_g, .slice y_o y_n y_c, .int .i64 y_e] 27))
  have H := H.keeps (bel_alloc y5 (.cells #[.bool y_g, .slice y_o y_n y_c, .int .i64 y_e] 27))
  have R0 := R0.keeps (bel_alloc y5 (.cells #[.bool y_g, .slice y_o y_n y_c, .int .i64 y_e] 27))
  have R1 := R1.keeps (bel_alloc y5 (.cells #[.bool y_g, .slice y_o y_n y_c, .int .i64 y_e] 27))
  have RE := RE.keeps (bel_alloc y5 (.cells #[.bool y_g, .slice y_o y_n y_c, .int .i64 y_e] 27))
  have RF := RF.keeps (bel_alloc y5 (.cells #[.bool y_g, .slice y_o y_n y_c, .int .i64 y_e] 27))
  have hb6' := bel_trans hb5 (bel_alloc y5 (.cells #[.bool y_g, .slice y_o y_n y_c, .int .i64 y_e] 27))
  go_wp2_with fail
  generalize y5.alloc (.cells #[.bool y_g, .slice y_o y_n y_c, .int .i64 y_e] 27) = x6 at x_k y_k x_D y_D H R0 R1 RE RF hb6' ⊢
  refine (CPR.out _ _ _ _ _ RE RF H).mono ?_
  rintro _ y6 ⟨s_o, s_c, rfl, RS, hw6⟩
  have H := H.keeps hw6
  have R0 := R0.keeps hw6
  have R1 := R1.keeps hw6
  have RE := RE.keeps hw6
  have RF := RF.keeps hw6
  have x_k := (hw6.block _ (Array.getElem?_eq_some_iff.1 x_k).1).trans x_k
  have x_D := x_D.keeps hw6
  have y_k := (hw6.block _ (Array.getElem?_eq_some_iff.1 y_k).1).trans y_k
  have y_D := y_D.keeps hw6
  have hb6 := bel_trans hb6' hw6
  go_wp2_with fail
  refine (CVS.out _ _ _ RS H).mono ?_
  rintro _ y7 ⟨v, rfl, h7⟩
  obtain ⟨u_g, u_o, u_n, u_c, u_e, rfl⟩ := dans_shape h7
  have hw7 := h7.below
  have u_D := h7.num
  have H := H.keeps hw7
  have R0 := R0.keeps hw7
  have R1 := R1.keeps hw7
  have RE := RE.keeps hw7
  have RF := RF.keeps hw7
  have RS := RS.keeps hw7
  have x_k := (hw7.block _ (Array.getElem?_eq_some_iff.1 x_k).1).trans x_k
  have x_D := x_D.keeps hw7
  have y_k := (hw7.block _ (Array.getElem?_eq_some_iff.1 y_k).1).trans y_k
  have y_D := y_D.keeps hw7
  have hb7 := bel_trans hb6 hw7
  have x_k := heap_past (.cells #[.bool u_g, .slice u_o u_n u_c, .int .i64 u_e] 27) x_k
  have y_k := heap_past (.cells #[.bool u_g, .slice u_o u_n u_c, .int .i64 u_e] 27) y_k
  have u_k := heap_a1 y7 (.cells #[.bool u_g, .slice u_o u_n u_c, .int .i64 u_e] 27)
  have x_D := x_D.keeps (bel_alloc y7 (.cells #[.bool u_g, .slice u_o u_n u_c, .int .i64 u_e] 27))
  have y_D := y_D.keeps (bel_alloc y7 (.cells #[.bool u_g, .slice u_o u_n u_c, .int .i64 u_e] 27))
  have u_D := u_D.keeps (bel_alloc y7 (.cells #[.bool u_g, .slice u_o u_n u_c, .int .i64 u_e] 27))
  have H := H.keeps (bel_alloc y7 (.cells #[.bool u_g, .slice u_o u_n u_c, .int .i64 u_e] 27))
  have R0 := R0.keeps (bel_alloc y7 (.cells #[.bool u_g, .slice u_o u_n u_c, .int .i64 u_e] 27))
  have R1 := R1.keeps (bel_alloc y7 (.cells #[.bool u_g, .slice u_o u_n u_c, .int .i64 u_e] 27))
  have RE := RE.keeps (bel_alloc y7 (.cells #[.bool u_g, .slice u_o u_n u_c, .int .i64 u_e] 27))
  have RF := RF.keeps (bel_alloc y7 (.cells #[.bool u_g, .slice u_o u_n u_c, .int .i64 u_e] 27))
  have RS := RS.keeps (bel_alloc y7 (.cells #[.bool u_g, .slice u_o u_n u_c, .int .i64 u_e] 27))
  have hb8' := bel_trans hb7 (bel_alloc y7 (.cells #[.bool u_g, .slice u_o u_n u_c, .int .i64 u_e] 27))
  have f_x0 := blkC x_k 0 rfl
  have f_x1 := blkC x_k 1 rfl
  have f_x2 := blkC x_k 2 rfl
  have f_y0 := blkC y_k 0 rfl
  have f_y1 := blkC y_k 1 rfl
  have f_y2 := blkC y_k 2 rfl
  go_wp2_with fail
  clear f_x0 f_x1 f_x2 f_y0 f_y1 f_y2
  generalize y7.alloc (.cells #[.bool u_g, .slice u_o u_n u_c, .int .i64 u_e] 27) = x8 at x_k y_k u_k x_D y_D u_D H R0 R1 RE RF RS hb8' ⊢
  refine (CMU.out _ _ _ x_D y_D H).mono ?_
  rintro _ y8 ⟨v, rfl, h8⟩
  obtain ⟨p_g, p_o, p_n, p_c, p_e, rfl⟩ := dans_shape h8
  have hw8 := h8.below
  have p_D := h8.num
  have H := H.keeps hw8
  have R0 := R0.keeps hw8
  have R1 := R1.keeps hw8
  have RE := RE.keeps hw8
  have RF := RF.keeps hw8
  have RS := RS.keeps hw8
  have x_k := (hw8.block _ (Array.getElem?_eq_some_iff.1 x_k).1).trans x_k
  have x_D := x_D.keeps hw8
  have y_k := (hw8.block _ (Array.getElem?_eq_some_iff.1 y_k).1).trans y_k
  have y_D := y_D.keeps hw8
  have u_k := (hw8.block _ (Array.getElem?_eq_some_iff.1 u_k).1).trans u_k
  have u_D := u_D.keeps hw8
  have hb8 := bel_trans hb8' hw8
  have x_k := heap_past (.cells #[.bool p_g, .slice p_o p_n p_c, .int .i64 p_e] 27) x_k
  have y_k := heap_past (.cells #[.bool p_g, .slice p_o p_n p_c, .int .i64 p_e] 27) y_k
  have u_k := heap_past (.cells #[.bool p_g, .slice p_o p_n p_c, .int .i64 p_e] 27) u_k
  have p_k := heap_a1 y8 (.cells #[.bool p_g, .slice p_o p_n p_c, .int .i64 p_e] 27)
  have x_D := x_D.keeps (bel_alloc y8 (.cells #[.bool p_g, .slice p_o p_n p_c, .int .i64 p_e] 27))
  have y_D := y_D.keeps (bel_alloc y8 (.cells #[.bool p_g, .slice p_o p_n p_c, .int .i64 p_e] 27))
  have u_D := u_D.keeps (bel_alloc y8 (.cells #[.bool p_g, .slice p_o p_n p_c, .int .i64 p_e] 27))
  have p_D := p_D.keeps (bel_alloc y8 (.cells #[.bool p_g, .slice p_o p_n p_c, .int .i64 p_e] 27))
  have H := H.keeps (bel_alloc y8 (.cells #[.bool p_g, .slice p_o p_n p_c, .int .i64 p_e] 27))
  have R0 := R0.keeps (bel_alloc y8 (.cells #[.bool p_g, .slice p_o p_n p_c, .int .i64 p_e] 27))
  have R1 := R1.keeps (bel_alloc y8 (.cells #[.bool p_g, .slice p_o p_n p_c, .int .i64 p_e] 27))
  have RE := RE.keeps (bel_alloc y8 (.cells #[.bool p_g, .slice p_o p_n p_c, .int .i64 p_e] 27))
  have RF := RF.keeps (bel_alloc y8 (.cells #[.bool p_g, .slice p_o p_n p_c, .int .i64 p_e] 27))
  have RS := RS.keeps (bel_alloc y8 (.cells #[.bool p_g, .slice p_o p_n p_c, .int .i64 p_e] 27))
  have hb9' := bel_trans hb8 (bel_alloc y8 (.cells #[.bool p_g, .slice p_o p_n p_c, .int .i64 p_e] 27))
  have f_u0 := blkC u_k 0 rfl
  have f_u1 := blkC u_k 1 rfl
  have f_u2 := blkC u_k 2 rfl
  go_wp2_with fail
  clear f_u0 f_u1 f_u2
  generalize y8.alloc (.cells #[.bool p_g, .slice p_o p_n p_c, .int .i64 p_e] 27) = x9 at x_k y_k u_k p_k x_D y_D u_D p_D H R0 R1 RE RF RS hb9' ⊢
  refine (CS1.out _ _ _ u_D p_D).mono ?_
  rintro _ y9 ⟨rfl, hw9⟩
  have H := H.keeps hw9
  have R0 := R0.keeps hw9
  have R1 := R1.keeps hw9
  have RE := RE.keeps hw9
  have RF := RF.keeps hw9
  have RS := RS.keeps hw9
  have x_k := (hw9.block _ (Array.getElem?_eq_some_iff.1 x_k).1).trans x_k
  have x_D := x_D.keeps hw9
  have y_k := (hw9.block _ (Array.getElem?_eq_some_iff.1 y_k).1).trans y_k
  have y_D := y_D.keeps hw9
  have u_k := (hw9.block _ (Array.getElem?_eq_some_iff.1 u_k).1).trans u_k
  have u_D := u_D.keeps hw9
  have p_k := (hw9.block _ (Array.getElem?_eq_some_iff.1 p_k).1).trans p_k
  have p_D := p_D.keeps hw9
  have hb9 := bel_trans hb9' hw9
  have cf := RF.cell0 hF
  go_wp2_with fail
  clear cf
  refine (CSC.out _ _ _ RE H).mono ?_
  rintro _ y10 ⟨t_o, t_c, rfl, RT, hw10⟩
  have H := H.keeps hw10
  have R0 := R0.keeps hw10
  have R1 := R1.keeps hw10
  have RE := RE.keeps hw10
  have RF := RF.keeps hw10
  have RS := RS.keeps hw10
  have x_k := (hw10.block _ (Array.getElem?_eq_some_iff.1 x_k).1).trans x_k
  have x_D := x_D.keeps hw10
  have y_k := (hw10.block _ (Array.getElem?_eq_some_iff.1 y_k).1).trans y_k
  have y_D := y_D.keeps hw10
  have u_k := (hw10.block _ (Array.getElem?_eq_some_iff.1 u_k).1).trans u_k
  have u_D := u_D.keeps hw10
  have p_k := (hw10.block _ (Array.getElem?_eq_some_iff.1 p_k).1).trans p_k
  have p_D := p_D.keeps hw10
  have hb10 := bel_trans hb9 hw10
  go_wp2_with fail
  refine (CVT.out _ _ _ RT H).mono ?_
  rintro _ y11 ⟨v, rfl, h11⟩
  obtain ⟨v_g, v_o, v_n, v_c, v_e, rfl⟩ := dans_shape h11
  have hw11 := h11.below
  have v_D := h11.num
  have H := H.keeps hw11
  have R0 := R0.keeps hw11
  have R1 := R1.keeps hw11
  have RE := RE.keeps hw11
  have RF := RF.keeps hw11
  have RS := RS.keeps hw11
  have RT := RT.keeps hw11
  have x_k := (hw11.block _ (Array.getElem?_eq_some_iff.1 x_k).1).trans x_k
  have x_D := x_D.keeps hw11
  have y_k := (hw11.block _ (Array.getElem?_eq_some_iff.1 y_k).1).trans y_k
  have y_D := y_D.keeps hw11
  have u_k := (hw11.block _ (Array.getElem?_eq_some_iff.1 u_k).1).trans u_k
  have u_D := u_D.keeps hw11
  have p_k := (hw11.block _ (Array.getElem?_eq_some_iff.1 p_k).1).trans p_k
  have p_D := p_D.keeps hw11
  have hb11 := bel_trans hb10 hw11
  have x_k := heap_past (.cells #[.bool v_g, .slice v_o v_n v_c, .int .i64 v_e] 27) x_k
  have y_k := heap_past (.cells #[.bool v_g, .slice v_o v_n v_c, .int .i64 v_e] 27) y_k
  have u_k := heap_past (.cells #[.bool v_g, .slice v_o v_n v_c, .int .i64 v_e] 27) u_k
  have p_k := heap_past (.cells #[.bool v_g, .slice v_o v_n v_c, .int .i64 v_e] 27) p_k
  have v_k := heap_a1 y11 (.cells #[.bool v_g, .slice v_o v_n v_c, .int .i64 v_e] 27)
  have x_D := x_D.keeps (bel_alloc y11 (.cells #[.bool v_g, .slice v_o v_n v_c, .int .i64 v_e] 27))
  have y_D := y_D.keeps (bel_alloc y11 (.cells #[.bool v_g, .slice v_o v_n v_c, .int .i64 v_e] 27))
  have u_D := u_D.keeps (bel_alloc y11 (.cells #[.bool v_g, .slice v_o v_n v_c, .int .i64 v_e] 27))
  have p_D := p_D.keeps (bel_alloc y11 (.cells #[.bool v_g, .slice v_o v_n v_c, .int .i64 v_e] 27))
  have v_D := v_D.keeps (bel_alloc y11 (.cells #[.bool v_g, .slice v_o v_n v_c, .int .i64 v_e] 27))
  have H := H.keeps (bel_alloc y11 (.cells #[.bool v_g, .slice v_o v_n v_c, .int .i64 v_e] 27))
  have R0 := R0.keeps (bel_alloc y11 (.cells #[.bool v_g, .slice v_o v_n v_c, .int .i64 v_e] 27))
  have R1 := R1.keeps (bel_alloc y11 (.cells #[.bool v_g, .slice v_o v_n v_c, .int .i64 v_e] 27))
  have RE := RE.keeps (bel_alloc y11 (.cells #[.bool v_g, .slice v_o v_n v_c, .int .i64 v_e] 27))
  have RF := RF.keeps (bel_alloc y11 (.cells #[.bool v_g, .slice v_o v_n v_c, .int .i64 v_e] 27))
  have RS := RS.keeps (bel_alloc y11 (.cells #[.bool v_g, .slice v_o v_n v_c, .int .i64 v_e] 27))
  have RT := RT.keeps (bel_alloc y11 (.cells #[.bool v_g, .slice v_o v_n v_c, .int .i64 v_e] 27))
  have hb12' := bel_trans hb11 (bel_alloc y11 (.cells #[.bool v_g, .slice v_o v_n v_c, .int .i64 v_e] 27))
  have cf := RF.cell0 hF
  go_wp2_with fail
  clear cf
  generalize y11.alloc (.cells #[.bool v_g, .slice v_o v_n v_c, .int .i64 v_e] 27) = x12 at x_k y_k u_k p_k v_k x_D y_D u_D p_D v_D H R0 R1 RE RF RS RT hb12' ⊢
  refine (COF.out _ H).mono ?_
  rintro _ y12 ⟨v, rfl, h12⟩
  obtain ⟨z_g, z_o, z_n, z_c, z_e, rfl⟩ := dans_shape h12
  have hw12 := h12.below
  have z_D := h12.num
  have H := H.keeps hw12
  have R0 := R0.keeps hw12
  have R1 := R1.keeps hw12
  have RE := RE.keeps hw12
  have RF := RF.keeps hw12
  have RS := RS.keeps hw12
  have RT := RT.keeps hw12
  have x_k := (hw12.block _ (Array.getElem?_eq_some_iff.1 x_k).1).trans x_k
  have x_D := x_D.keeps hw12
  have y_k := (hw12.block _ (Array.getElem?_eq_some_iff.1 y_k).1).trans y_k
  have y_D := y_D.keeps hw12
  have u_k := (hw12.block _ (Array.getElem?_eq_some_iff.1 u_k).1).trans u_k
  have u_D := u_D.keeps hw12
  have p_k := (hw12.block _ (Array.getElem?_eq_some_iff.1 p_k).1).trans p_k
  have p_D := p_D.keeps hw12
  have v_k := (hw12.block _ (Array.getElem?_eq_some_iff.1 v_k).1).trans v_k
  have v_D := v_D.keeps hw12
  have hb12 := bel_trans hb12' hw12
  have x_k := heap_past (.cells #[.bool z_g, .slice z_o z_n z_c, .int .i64 z_e] 27) x_k
  have y_k := heap_past (.cells #[.bool z_g, .slice z_o z_n z_c, .int .i64 z_e] 27) y_k
  have u_k := heap_past (.cells #[.bool z_g, .slice z_o z_n z_c, .int .i64 z_e] 27) u_k
  have p_k := heap_past (.cells #[.bool z_g, .slice z_o z_n z_c, .int .i64 z_e] 27) p_k
  have v_k := heap_past (.cells #[.bool z_g, .slice z_o z_n z_c, .int .i64 z_e] 27) v_k
  have z_k := heap_a1 y12 (.cells #[.bool z_g, .slice z_o z_n z_c, .int .i64 z_e] 27)
  have x_D := x_D.keeps (bel_alloc y12 (.cells #[.bool z_g, .slice z_o z_n z_c, .int .i64 z_e] 27))
  have y_D := y_D.keeps (bel_alloc y12 (.cells #[.bool z_g, .slice z_o z_n z_c, .int .i64 z_e] 27))
  have u_D := u_D.keeps (bel_alloc y12 (.cells #[.bool z_g, .slice z_o z_n z_c, .int .i64 z_e] 27))
  have p_D := p_D.keeps (bel_alloc y12 (.cells #[.bool z_g, .slice z_o z_n z_c, .int .i64 z_e] 27))
  have v_D := v_D.keeps (bel_alloc y12 (.cells #[.bool z_g, .slice z_o z_n z_c, .int .i64 z_e] 27))
  have z_D := z_D.keeps (bel_alloc y12 (.cells #[.bool z_g, .slice z_o z_n z_c, .int .i64 z_e] 27))
  have H := H.keeps (bel_alloc y12 (.cells #[.bool z_g, .slice z_o z_n z_c, .int .i64 z_e] 27))
  have R0 := R0.keeps (bel_alloc y12 (.cells #[.bool z_g, .slice z_o z_n z_c, .int .i64 z_e] 27))
  have R1 := R1.keeps (bel_alloc y12 (.cells #[.bool z_g, .slice z_o z_n z_c, .int .i64 z_e] 27))
  have RE := RE.keeps (bel_alloc y12 (.cells #[.bool z_g, .slice z_o z_n z_c, .int .i64 z_e] 27))
  have RF := RF.keeps (bel_alloc y12 (.cells #[.bool z_g, .slice z_o z_n z_c, .int .i64 z_e] 27))
  have RS := RS.keeps (bel_alloc y12 (.cells #[.bool z_g, .slice z_o z_n z_c, .int .i64 z_e] 27))
  have RT := RT.keeps (bel_alloc y12 (.cells #[.bool z_g, .slice z_o z_n z_c, .int .i64 z_e] 27))
  have hb13' := bel_trans hb12 (bel_alloc y12 (.cells #[.bool z_g, .slice z_o z_n z_c, .int .i64 z_e] 27))
  have f_x0 := blkC x_k 0 rfl
  have f_x1 := blkC x_k 1 rfl
  have f_x2 := blkC x_k 2 rfl
  go_wp2_with fail
  clear f_x0 f_x1 f_x2
  generalize y12.alloc (.cells #[.bool z_g, .slice z_o z_n z_c, .int .i64 z_e] 27) = x13 at x_k y_k u_k p_k v_k z_k x_D y_D u_D p_D v_D z_D H R0 R1 RE RF RS RT hb13' ⊢
  refine (CMZ.out _ _ _ x_D z_D H).mono ?_
  rintro _ y13 ⟨v, rfl, h13⟩
  obtain ⟨q_g, q_o, q_n, q_c, q_e, rfl⟩ := dans_shape h13
  have hw13 := h13.below
  have q_D := h13.num
  have H := H.keeps hw13
  have R0 := R0.keeps hw13
  have R1 := R1.keeps hw13
  have RE := RE.keeps hw13
  have RF := RF.keeps hw13
  have RS := RS.keeps hw13
  have RT := RT.keeps hw13
  have x_k := (hw13.block _ (Array.getElem?_eq_some_iff.1 x_k).1).trans x_k
  have x_D := x_D.keeps hw13
  have y_k := (hw13.block _ (Array.getElem?_eq_some_iff.1 y_k).1).trans y_k
  have y_D := y_D.keeps hw13
  have u_k := (hw13.block _ (Array.getElem?_eq_some_iff.1 u_k).1).trans u_k
  have u_D := u_D.keeps hw13
  have p_k := (hw13.block _ (Array.getElem?_eq_some_iff.1 p_k).1).trans p_k
  have p_D := p_D.keeps hw13
  have v_k := (hw13.block _ (Array.getElem?_eq_some_iff.1 v_k).1).trans v_k
  have v_D := v_D.keeps hw13
  have z_k := (hw13.block _ (Array.getElem?_eq_some_iff.1 z_k).1).trans z_k
  have z_D := z_D.keeps hw13
  have hb13 := bel_trans hb13' hw13
  have x_k := heap_past (.cells #[.bool q_g, .slice q_o q_n q_c, .int .i64 q_e] 27) x_k
  have y_k := heap_past (.cells #[.bool q_g, .slice q_o q_n q_c, .int .i64 q_e] 27) y_k
  have u_k := heap_past (.cells #[.bool q_g, .slice q_o q_n q_c, .int .i64 q_e] 27) u_k
  have p_k := heap_past (.cells #[.bool q_g, .slice q_o q_n q_c, .int .i64 q_e] 27) p_k
  have v_k := heap_past (.cells #[.bool q_g, .slice q_o q_n q_c, .int .i64 q_e] 27) v_k
  have z_k := heap_past (.cells #[.bool q_g, .slice q_o q_n q_c, .int .i64 q_e] 27) z_k
  have q_k := heap_a1 y13 (.cells #[.bool q_g, .slice q_o q_n q_c, .int .i64 q_e] 27)
  have x_D := x_D.keeps (bel_alloc y13 (.cells #[.bool q_g, .slice q_o q_n q_c, .int .i64 q_e] 27))
  have y_D := y_D.keeps (bel_alloc y13 (.cells #[.bool q_g, .slice q_o q_n q_c, .int .i64 q_e] 27))
  have u_D := u_D.keeps (bel_alloc y13 (.cells #[.bool q_g, .slice q_o q_n q_c, .int .i64 q_e] 27))
  have p_D := p_D.keeps (bel_alloc y13 (.cells #[.bool q_g, .slice q_o q_n q_c, .int .i64 q_e] 27))
  have v_D := v_D.keeps (bel_alloc y13 (.cells #[.bool q_g, .slice q_o q_n q_c, .int .i64 q_e] 27))
  have z_D := z_D.keeps (bel_alloc y13 (.cells #[.bool q_g, .slice q_o q_n q_c, .int .i64 q_e] 27))
  have q_D := q_D.keeps (bel_alloc y13 (.cells #[.bool q_g, .slice q_o q_n q_c, .int .i64 q_e] 27))
  have H := H.keeps (bel_alloc y13 (.cells #[.bool q_g, .slice q_o q_n q_c, .int .i64 q_e] 27))
  have R0 := R0.keeps (bel_alloc y13 (.cells #[.bool q_g, .slice q_o q_n q_c, .int .i64 q_e] 27))
  have R1 := R1.keeps (bel_alloc y13 (.cells #[.bool q_g, .slice q_o q_n q_c, .int .i64 q_e] 27))
  have RE := RE.keeps (bel_alloc y13 (.cells #[.bool q_g, .slice q_o q_n q_c, .int .i64 q_e] 27))
  have RF := RF.keeps (bel_alloc y13 (.cells #[.bool q_g, .slice q_o q_n q_c, .int .i64 q_e] 27))
  have RS := RS.keeps (bel_alloc y13 (.cells #[.bool q_g, .slice q_o q_n q_c, .int .i64 q_e] 27))
  have RT := RT.keeps (bel_alloc y13 (.cells #[.bool q_g, .slice q_o q_n q_c, .int .i64 q_e] 27))
  have hb14' := bel_trans hb13 (bel_alloc y13 (.cells #[.bool q_g, .slice q_o q_n q_c, .int .i64 q_e] 27))
  have f_v0 := blkC v_k 0 rfl
  have f_v1 := blkC v_k 1 rfl
  have f_v2 := blkC v_k 2 rfl
  go_wp2_with fail
  clear f_v0 f_v1 f_v2
  generalize y13.alloc (.cells #[.bool q_g, .slice q_o q_n q_c, .int .i64 q_e] 27) = x14 at x_k y_k u_k p_k v_k z_k q_k x_D y_D u_D p_D v_D z_D q_D H R0 R1 RE RF RS RT hb14' ⊢
  refine (CS2.out _ _ _ v_D q_D).mono ?_
  rintro _ y14 ⟨rfl, hw14⟩
  have H := H.keeps hw14
  have R0 := R0.keeps hw14
  have R1 := R1.keeps hw14
  have RE := RE.keeps hw14
  have RF := RF.keeps hw14
  have RS := RS.keeps hw14
  have RT := RT.keeps hw14
  have x_k := (hw14.block _ (Array.getElem?_eq_some_iff.1 x_k).1).trans x_k
  have x_D := x_D.keeps hw14
  have y_k := (hw14.block _ (Array.getElem?_eq_some_iff.1 y_k).1).trans y_k
  have y_D := y_D.keeps hw14
  have u_k := (hw14.block _ (Array.getElem?_eq_some_iff.1 u_k).1).trans u_k
  have u_D := u_D.keeps hw14
  have p_k := (hw14.block _ (Array.getElem?_eq_some_iff.1 p_k).1).trans p_k
  have p_D := p_D.keeps hw14
  have v_k := (hw14.block _ (Array.getElem?_eq_some_iff.1 v_k).1).trans v_k
  have v_D := v_D.keeps hw14
  have z_k := (hw14.block _ (Array.getElem?_eq_some_iff.1 z_k).1).trans z_k
  have z_D := z_D.keeps hw14
  have q_k := (hw14.block _ (Array.getElem?_eq_some_iff.1 q_k).1).trans q_k
  have q_D := q_D.keeps hw14
  have hb14 := bel_trans hb14' hw14
  go_wp2
  all_goals go_ret
  all_goals exact ⟨rfl, by first | exact hb14 | exact hb14.drew⟩
set_option maxRecDepth 100000 in
set_option maxHeartbeats 8000000 in
theorem walk_none (a0 : Option Addr) (l0 c0 : Nat) (z0 : Nat → Int) (a1 : Option Addr) (l1 c1 : Nat) (z1 : Nat → Int) (w : World) (R0 : Row w a0 l0 c0 z0) (R1 : Row w a1 l1 c1 z1) (H : Hold4 w) (hF : (mdT z1 l1).n = 0) :
    Calls Tryd.prog 3 #[.slice a0 l0 c0, .slice a1 l1 c1] w fun e w' => e = .returned (.bool true) ∧ Below w.heap.size w w' := by
  have CM0 : Hid (∀ W, Row W a0 l0 c0 z0 → Hold4 W → Calls Tryd.prog 4 #[.slice a0 l0 c0, .int .i64 6] W fun r w' => ∃ eo ec, r = .returned (.tuple #[.slice eo (mdT z0 l0).n ec, .bool true]) ∧ Row w' eo (mdT z0 l0).n ec (mdT z0 l0).d ∧ Below W.heap.size W w') := fun W h hH => made6_any W h hH
  have CM1 : Hid (∀ W, Row W a1 l1 c1 z1 → Hold4 W → Calls Tryd.prog 4 #[.slice a1 l1 c1, .int .i64 6] W fun r w' => ∃ eo ec, r = .returned (.tuple #[.slice eo (mdT z1 l1).n ec, .bool true]) ∧ Row w' eo (mdT z1 l1).n ec (mdT z1 l1).d ∧ Below W.heap.size W w') := fun W h hH => made6_any W h hH
  have ME := mt_of z0 l0
  have MF := mt_of z1 l1
  generalize mdT z0 l0 = E at *
  generalize mdT z1 l1 = F at *
  have hE6 := ME.le
  have hF6 := MF.le
  obtain ⟨P1, P2, P3, P4⟩ := pr_all ME.xv ME.mid hE6 MF.mid hF6 F.n (Nat.le_refl _)
  have hPl := prS_len E.d E.n F.d F.n hE6 hF6
  have CVE : Hid (∀ W eo ec, Row W eo E.n ec E.d → Hold4 W → Calls Tryd.prog 6 #[.slice eo E.n ec] W fun r w' => ∃ v, r = .returned (.tuple #[v, .bool true]) ∧ DAns W w' (psm E.d E.n) v) := fun W eo ec h hH => value_ok h ME.xv (by omega) hH
  have CVF : Hid (∀ W eo ec, Row W eo F.n ec F.d → Hold4 W → Calls Tryd.prog 6 #[.slice eo F.n ec] W fun r w' => ∃ v, r = .returned (.tuple #[v, .bool true]) ∧ DAns W w' (psm F.d F.n) v) := fun W eo ec h hH => value_ok h MF.xv (by omega) hH
  have CPR : Hid (∀ W eo ec fo fc, Row W eo E.n ec E.d → Row W fo F.n fc F.d → Hold4 W → Calls Tryd.prog 7 #[.slice eo E.n ec, .slice fo F.n fc] W fun r w' => ∃ ao cap, r = .returned (.tuple #[.slice ao (prS E.d E.n F.d F.n).n cap, .int .i64 0]) ∧ Row w' ao (prS E.d E.n F.d F.n).n cap (prS E.d E.n F.d F.n).d ∧ Below W.heap.size W w') := fun W eo ec fo fc h hf hH => (xProduct W h hf (fun i hi => (ME.xv.fn i hi).1) (fun i hi => (MF.xv.fn i hi).1) (xval_of ME.xv) (xval_of MF.xv) (by omega) (by omega) hH).mono fun _ _ hx => hx.yes P1
  have hpE := psm_of ME.xv
  have hpF := psm_of MF.xv
  have hpS := psm_of P2
  have bE : Bd 5000 (psm E.d E.n) := bd_of ME.xv (by omega)
  have bF : Bd 5000 (psm F.d F.n) := bd_of MF.xv (by omega)
  have hPr : psm (prS E.d E.n F.d F.n).d (prS E.d E.n F.d F.n).n * 2 ^ 4194304 = psm E.d E.n * psm F.d F.n := by
    rw [hpS, hpE, hpF]
    exact k_scale P4
  have CVS : Hid (∀ W eo ec, Row W eo (prS E.d E.n F.d F.n).n ec (prS E.d E.n F.d F.n).d → Hold4 W → Calls Tryd.prog 6 #[.slice eo (prS E.d E.n F.d F.n).n ec] W fun r w' => ∃ v, r = .returned (.tuple #[v, .bool true]) ∧ DAns W w' (psm (prS E.d E.n F.d F.n).d (prS E.d E.n F.d F.n).n) v) := fun W eo ec h hH => value_ok h P2 (by omega) hH
  have oS : Dok (psm (prS E.d E.n F.d F.n).d (prS E.d E.n F.d F.n).n) := (bd_of P2 (by omega)).ok (by omega)
  have CMU : Hid (∀ W x y, DNum W x (psm E.d E.n) → DNum W y (psm F.d F.n) → Hold4 W → Calls Tryd.prog 8 #[x, y] W fun r w' => ∃ v, r = .returned (.tuple #[v, .int .i64 0]) ∧ DAns W w' (psm (prS E.d E.n F.d F.n).d (prS E.d E.n F.d F.n).n) v) := fun W x y hx hy hH => (mul_B hx hy bE bF (by omega) hH.tab).mono fun _ _ ⟨v, C, h1, h2, h3, _⟩ => by
    rw [← hPr] at h3
    rw [scale_inj h3] at h2
    exact ⟨v, h1, h2⟩
  have CS1 : Hid (∀ W x y, DNum W x (psm (prS E.d E.n F.d F.n).d (prS E.d E.n F.d F.n).n) → DNum W y (psm (prS E.d E.n F.d F.n).d (prS E.d E.n F.d F.n).n) → Calls Tryd.prog 9 #[x, y] W fun r w' => r = .returned (.bool true) ∧ Below W.heap.size W w') := fun W x y hx hy => by
    have := same7_any hx hy oS oS
    rw [ord_eq rfl] at this
    exact this
  have HS0 : Hid ((prS E.d E.n F.d F.n).n = 0) := by show _ = _; rw [hF]; rfl
  have HF0 : Hid (F.n = 0) := hF
  clear hF
  clear ME MF P1 P2 P3 P4 hpE hpF hpS hPr oS bE bF
  generalize psm (prS E.d E.n F.d F.n).d (prS E.d E.n F.d F.n).n = VS at *
  generalize prS E.d E.n F.d F.n = SP at *
  generalize psm E.d E.n = VE at *
  generalize psm F.d F.n = VF at *
  have lx0 := R0.max
  have lx1 := R1.max
  have ly0 := R0.le
  have ly1 := R1.le
  have hb0 := bel_refl w
  go_enter Tryd.func3, Tryd.ntmps3
  go_wp2_with fail
  refine (CM0.out _ R0 H).mono ?_
  rintro _ y1 ⟨e_o, e_c, rfl, RE, hw1⟩
  have H := H.keeps hw1
  have R0 := R0.keeps hw1
  have R1 := R1.keeps hw1
  have hb1 := bel_trans hb0 hw1
  go_wp2_with fail
  refine (CM1.out _ R1 H).mono ?_
  rintro _ y2 ⟨f_o, f_c, rfl, RF, hw2⟩
  have H := H.keeps hw2
  have R0 := R0.keeps hw2
  have R1 := R1.keeps hw2
  have RE := RE.keeps hw2
  have hb2 := bel_trans hb1 hw2
  go_wp2_with fail
  refine (alive7 _ H).mono ?_
  rintro _ y3 ⟨rfl, hw3⟩
  have H := H.keeps hw3
  have R0 := R0.keeps hw3
  have R1 := R1.keeps hw3
  have RE := RE.keeps hw3
  have RF := RF.keeps hw3
  have hb3 := bel_trans hb2 hw3
  go_wp2_with fail
  refine (CVE.out _ _ _ RE H).mono ?_
  rintro _ y4 ⟨v, rfl, h4⟩
  obtain ⟨x_g, x_o, x_n, x_c, x_e, rfl⟩ := dans_shape h4
  have hw4 := h4.below
  have x_D := h4.num
  have H := H.keeps hw4
  have R0 := R0.keeps hw4
  have R1 := R1.keeps hw4
  have RE := RE.keeps hw4
  have RF := RF.keeps hw4
  have hb4 := bel_trans hb3 hw4
  have x_k := heap_a1 y4 (.cells #[.bool x_g, .slice x_o x_n x_c, .int .i64 x_e] 27)
  have x_D := x_D.keeps (bel_alloc y4 (.cells #[.bool x_g, .slice x_o x_n x_c, .int .i64 x_e] 27))
  have H := H.keeps (bel_alloc y4 (.cells #[.bool x_g, .slice x_o x_n x_c, .int .i64 x_e] 27))
  have R0 := R0.keeps (bel_alloc y4 (.cells #[.bool x_g, .slice x_o x_n x_c, .int .i64 x_e] 27))
  have R1 := R1.keeps (bel_alloc y4 (.cells #[.bool x_g, .slice x_o x_n x_c, .int .i64 x_e] 27))
  have RE := RE.keeps (bel_alloc y4 (.cells #[.bool x_g, .slice x_o x_n x_c, .int .i64 x_e] 27))
  have RF := RF.keeps (bel_alloc y4 (.cells #[.bool x_g, .slice x_o x_n x_c, .int .i64 x_e] 27))
  have hb5' := bel_trans hb4 (bel_alloc y4 (.cells #[.bool x_g, .slice x_o x_n x_c, .int .i64 x_e] 27))
  go_wp2_with fail
  generalize y4.alloc (.cells #[.bool x_g, .slice x_o x_n x_c, .int .i64 x_e] 27) = x5 at x_k x_D H R0 R1 RE RF hb5' ⊢
  refine (CVF.out _ _ _ RF H).mono ?_
  rintro _ y5 ⟨v, rfl, h5⟩
  obtain ⟨y_g, y_o, y_n, y_c, y_e, rfl⟩ := dans_shape h5
  have hw5 := h5.below
  have y_D := h5.num
  have H := H.keeps hw5
  have R0 := R0.keeps hw5
  have R1 := R1.keeps hw5
  have RE := RE.keeps hw5
  have RF := RF.keeps hw5
  have x_k := (hw5.block _ (Array.getElem?_eq_some_iff.1 x_k).1).trans x_k
  have x_D := x_D.keeps hw5
  have hb5 := bel_trans hb5' hw5
  have x_k := heap_past (.cells #[.bool y_g, .slice y_o y_n y_c, .int .i64 y_e] 27) x_k
  have y_k := heap_a1 y5 (.cells #[.bool y_g, .slice y_o y_n y_c, .int .i64 y_e] 27)
  have x_D := x_D.keeps (bel_alloc y5 (.cells #[.bool y_g, .slice y_o y_n y_c, .int .i64 y_e] 27))
  have y_D := y_D.keeps (bel_alloc y5 (.cells #[.bool y_g, .slice y_o y_n y_c, .int .i64 y_e] 27))
  have H := H.keeps (bel_alloc y5 (.cells #[.bool y_g, .slice y_o y_n y_c, .int .i64 y_e] 27))
  have R0 := R0.keeps (bel_alloc y5 (.cells #[.bool y_g, .slice y_o y_n y_c, .int .i64 y_e] 27))
  have R1 := R1.keeps (bel_alloc y5 (.cells #[.bool y_g, .slice y_o y_n y_c, .int .i64 y_e] 27))
  have RE := RE.keeps (bel_alloc y5 (.cells #[.bool y_g, .slice y_o y_n y_c, .int .i64 y_e] 27))
  have RF := RF.keeps (bel_alloc y5 (.cells #[.bool y_g, .slice y_o y_n y_c, .int .i64 y_e] 27))
  have hb6' := bel_trans hb5 (bel_alloc y5 (.cells #[.bool y_g, .slice y_o y_n y_c, .int .i64 y_e] 27))
  go_wp2_with fail
  generalize y5.alloc (.cells #[.bool y_g, .slice y_o y_n y_c, .int .i64 y_e] 27) = x6 at x_k y_k x_D y_D H R0 R1 RE RF hb6' ⊢
  refine (CPR.out _ _ _ _ _ RE RF H).mono ?_
  rintro _ y6 ⟨s_o, s_c, rfl, RS, hw6⟩
  have H := H.keeps hw6
  have R0 := R0.keeps hw6
  have R1 := R1.keeps hw6
  have RE := RE.keeps hw6
  have RF := RF.keeps hw6
  have x_k := (hw6.block _ (Array.getElem?_eq_some_iff.1 x_k).1).trans x_k
  have x_D := x_D.keeps hw6
  have y_k := (hw6.block _ (Array.getElem?_eq_some_iff.1 y_k).1).trans y_k
  have y_D := y_D.keeps hw6
  have hb6 := bel_trans hb6' hw6
  go_wp2_with fail
  refine (CVS.out _ _ _ RS H).mono ?_
  rintro _ y7 ⟨v, rfl, h7⟩
  obtain ⟨u_g, u_o, u_n, u_c, u_e, rfl⟩ := dans_shape h7
  have hw7 := h7.below
  have u_D := h7.num
  have H := H.keeps hw7
  have R0 := R0.keeps hw7
  have R1 := R1.keeps hw7
  have RE := RE.keeps hw7
  have RF := RF.keeps hw7
  have RS := RS.keeps hw7
  have x_k := (hw7.block _ (Array.getElem?_eq_some_iff.1 x_k).1).trans x_k
  have x_D := x_D.keeps hw7
  have y_k := (hw7.block _ (Array.getElem?_eq_some_iff.1 y_k).1).trans y_k
  have y_D := y_D.keeps hw7
  have hb7 := bel_trans hb6 hw7
  have x_k := heap_past (.cells #[.bool u_g, .slice u_o u_n u_c, .int .i64 u_e] 27) x_k
  have y_k := heap_past (.cells #[.bool u_g, .slice u_o u_n u_c, .int .i64 u_e] 27) y_k
  have u_k := heap_a1 y7 (.cells #[.bool u_g, .slice u_o u_n u_c, .int .i64 u_e] 27)
  have x_D := x_D.keeps (bel_alloc y7 (.cells #[.bool u_g, .slice u_o u_n u_c, .int .i64 u_e] 27))
  have y_D := y_D.keeps (bel_alloc y7 (.cells #[.bool u_g, .slice u_o u_n u_c, .int .i64 u_e] 27))
  have u_D := u_D.keeps (bel_alloc y7 (.cells #[.bool u_g, .slice u_o u_n u_c, .int .i64 u_e] 27))
  have H := H.keeps (bel_alloc y7 (.cells #[.bool u_g, .slice u_o u_n u_c, .int .i64 u_e] 27))
  have R0 := R0.keeps (bel_alloc y7 (.cells #[.bool u_g, .slice u_o u_n u_c, .int .i64 u_e] 27))
  have R1 := R1.keeps (bel_alloc y7 (.cells #[.bool u_g, .slice u_o u_n u_c, .int .i64 u_e] 27))
  have RE := RE.keeps (bel_alloc y7 (.cells #[.bool u_g, .slice u_o u_n u_c, .int .i64 u_e] 27))
  have RF := RF.keeps (bel_alloc y7 (.cells #[.bool u_g, .slice u_o u_n u_c, .int .i64 u_e] 27))
  have RS := RS.keeps (bel_alloc y7 (.cells #[.bool u_g, .slice u_o u_n u_c, .int .i64 u_e] 27))
  have hb8' := bel_trans hb7 (bel_alloc y7 (.cells #[.bool u_g, .slice u_o u_n u_c, .int .i64 u_e] 27))
  have f_x0 := blkC x_k 0 rfl
  have f_x1 := blkC x_k 1 rfl
  have f_x2 := blkC x_k 2 rfl
  have f_y0 := blkC y_k 0 rfl
  have f_y1 := blkC y_k 1 rfl
  have f_y2 := blkC y_k 2 rfl
  go_wp2_with fail
  clear f_x0 f_x1 f_x2 f_y0 f_y1 f_y2
  generalize y7.alloc (.cells #[.bool u_g, .slice u_o u_n u_c, .int .i64 u_e] 27) = x8 at x_k y_k u_k x_D y_D u_D H R0 R1 RE RF RS hb8' ⊢
  refine (CMU.out _ _ _ x_D y_D H).mono ?_
  rintro _ y8 ⟨v, rfl, h8⟩
  obtain ⟨p_g, p_o, p_n, p_c, p_e, rfl⟩ := dans_shape h8
  have hw8 := h8.below
  have p_D := h8.num
  have H := H.keeps hw8
  have R0 := R0.keeps hw8
  have R1 := R1.keeps hw8
  have RE := RE.keeps hw8
  have RF := RF.keeps hw8
  have RS := RS.keeps hw8
  have x_k := (hw8.block _ (Array.getElem?_eq_some_iff.1 x_k).1).trans x_k
  have x_D := x_D.keeps hw8
  have y_k := (hw8.block _ (Array.getElem?_eq_some_iff.1 y_k).1).trans y_k
  have y_D := y_D.keeps hw8
  have u_k := (hw8.block _ (Array.getElem?_eq_some_iff.1 u_k).1).trans u_k
  have u_D := u_D.keeps hw8
  have hb8 := bel_trans hb8' hw8
  have x_k := heap_past (.cells #[.bool p_g, .slice p_o p_n p_c, .int .i64 p_e] 27) x_k
  have y_k := heap_past (.cells #[.bool p_g, .slice p_o p_n p_c, .int .i64 p_e] 27) y_k
  have u_k := heap_past (.cells #[.bool p_g, .slice p_o p_n p_c, .int .i64 p_e] 27) u_k
  have p_k := heap_a1 y8 (.cells #[.bool p_g, .slice p_o p_n p_c, .int .i64 p_e] 27)
  have x_D := x_D.keeps (bel_alloc y8 (.cells #[.bool p_g, .slice p_o p_n p_c, .int .i64 p_e] 27))
  have y_D := y_D.keeps (bel_alloc y8 (.cells #[.bool p_g, .slice p_o p_n p_c, .int .i64 p_e] 27))
  have u_D := u_D.keeps (bel_alloc y8 (.cells #[.bool p_g, .slice p_o p_n p_c, .int .i64 p_e] 27))
  have p_D := p_D.keeps (bel_alloc y8 (.cells #[.bool p_g, .slice p_o p_n p_c, .int .i64 p_e] 27))
  have H := H.keeps (bel_alloc y8 (.cells #[.bool p_g, .slice p_o p_n p_c, .int .i64 p_e] 27))
  have R0 := R0.keeps (bel_alloc y8 (.cells #[.bool p_g, .slice p_o p_n p_c, .int .i64 p_e] 27))
  have R1 := R1.keeps (bel_alloc y8 (.cells #[.bool p_g, .slice p_o p_n p_c, .int .i64 p_e] 27))
  have RE := RE.keeps (bel_alloc y8 (.cells #[.bool p_g, .slice p_o p_n p_c, .int .i64 p_e] 27))
  have RF := RF.keeps (bel_alloc y8 (.cells #[.bool p_g, .slice p_o p_n p_c, .int .i64 p_e] 27))
  have RS := RS.keeps (bel_alloc y8 (.cells #[.bool p_g, .slice p_o p_n p_c, .int .i64 p_e] 27))
  have hb9' := bel_trans hb8 (bel_alloc y8 (.cells #[.bool p_g, .slice p_o p_n p_c, .int .i64 p_e] 27))
  have f_u0 := blkC u_k 0 rfl
  have f_u1 := blkC u_k 1 rfl
  have f_u2 := blkC u_k 2 rfl
  go_wp2_with fail
  clear f_u0 f_u1 f_u2
  generalize y8.alloc (.cells #[.bool p_g, .slice p_o p_n p_c, .int .i64 p_e] 27) = x9 at x_k y_k u_k p_k x_D y_D u_D p_D H R0 R1 RE RF RS hb9' ⊢
  refine (CS1.out _ _ _ u_D p_D).mono ?_
  rintro _ y9 ⟨rfl, hw9⟩
  have H := H.keeps hw9
  have R0 := R0.keeps hw9
  have R1 := R1.keeps hw9
  have RE := RE.keeps hw9
  have RF := RF.keeps hw9
  have RS := RS.keeps hw9
  have x_k := (hw9.block _ (Array.getElem?_eq_some_iff.1 x_k).1).trans x_k
  have x_D := x_D.keeps hw9
  have y_k := (hw9.block _ (Array.getElem?_eq_some_iff.1 y_k).1).trans y_k
  have y_D := y_D.keeps hw9
  have u_k := (hw9.block _ (Array.getElem?_eq_some_iff.1 u_k).1).trans u_k
  have u_D := u_D.keeps hw9
  have p_k := (hw9.block _ (Array.getElem?_eq_some_iff.1 p_k).1).trans p_k
  have p_D := p_D.keeps hw9
  have hb9 := bel_trans hb9' hw9
  have hF := HF0.out
  have hS0 := HS0.out
  go_wp2
  all_goals go_ret
  all_goals exact ⟨rfl, by first | exact hb9 | exact hb9.drew⟩
theorem walk (a0 : Option Addr) (l0 c0 : Nat) (z0 : Nat → Int) (a1 : Option Addr) (l1 c1 : Nat) (z1 : Nat → Int) (w : World) (R0 : Row w a0 l0 c0 z0) (hz0 : ∀ i, i < l0 → rng (z0 i)) (R1 : Row w a1 l1 c1 z1) (hz1 : ∀ i, i < l1 → rng (z1 i)) (H : Hold4 w) :
    Calls Tryd.prog 3 #[.slice a0 l0 c0, .slice a1 l1 c1] w fun e w' => e = .returned (.bool true) ∧ Below w.heap.size w w' := by
  by_cases hF : 0 < (mdT z1 l1).n
  · exact walk_some a0 l0 c0 z0 a1 l1 c1 z1 w R0 R1 H hF
  · exact walk_none a0 l0 c0 z0 a1 l1 c1 z1 w R0 R1 H (by omega)
theorem own : ownKnob Tryd.prog.godebug = none := by kernel_rfl
theorem laidOut : laidOutB Tryd.prog = true := by kernel_rfl
theorem door_met (os : Os) (args : Array Value) : laidMetH Tryd.prog Rows.expansionProductsRow.laid ((World.doorLaid Tryd.prog 400 os).forCall (fun _ _ => 0) ⟨#[], args, []⟩).memory :=
  laidMetH_of_parts3 (fuel := 8) (laidMet_of_run' 8 (by kernel_rfl) (by kernel_rfl)) (by kernel_rfl) (by kernel_rfl)
set_option maxRecDepth 100000 in
theorem lifted (os : Os) (started : os.Started) (H : Type) (enc : TypeId × Value → H) :
    ReturnsInHanded {} Tryd.checked os 3 .any (fun w args => (Rows.expansionProductsSpec.pre enc Tryd.prog Tryd.f3 [] false w args ∧ laidMetH Tryd.prog Rows.expansionProductsRow.laid w) ∧ sizedMet enc Tryd.prog Tryd.f3 (OpenSpec.ofChange Rows.expansionProductsSpec) false w args)
      (Rows.expansionProductsSpec.post enc Tryd.prog Tryd.f3 false true false false) := by
  refine returnsInHanded_of_change_and (C := Tryd.checked) (X := fun w _ => laidMetH Tryd.prog Rows.expansionProductsRow.laid w) (fun _ _ _ hh h => h.of_heap hh) own started (by kernel_rfl) Tryd.func3
    (ChangeSpec.witness_shaped (enc := enc) (C := Tryd.checked) (os := os) (X := fun w _ => laidMetH Tryd.prog Rows.expansionProductsRow.laid w) false (World.doorLaid Tryd.prog 400 os) #[.slice none 0 0, .slice none 0 0] 8 rfl (World.shaped_of_RefB (by kernel_rfl) (by kernel_rfl)) (by kernel_rfl) (by kernel_rfl) (by kernel_rfl) (door_met os _)) ?_
  intro W base args ds gs before hval0 hW _ _ hL _
  have hval : ∀ (j : Nat) t v, Tryd.f3.params[j]? = some t → args[j]? = some v → Value.okWide Tryd.prog W .any base t v := hval0
  have hW' := hW
  obtain ⟨p, q, hA0, hV, rfl, hfz, hnd⟩ := hW
  have hA : DataW.TrodAll enc Tryd.prog W 0 (fun _ => true) true Tryd.f3.params.toList args.toList ds p := hA0
  rw [Tryd.params3] at hA hval
  obtain ⟨v0, vs0, d0, ds0, p0, q0, hargs, rfl, rfl, h0, r0⟩ := trodAll_cons hA
  obtain ⟨v1, vs1, d1, ds1, p1, q1, rfl, rfl, rfl, h1, r1⟩ := trodAll_cons r0
  obtain ⟨rfl, rfl, rfl⟩ := trodAll_nil r1
  obtain rfl : args = #[v0, v1] := by cases args; simp_all
  obtain ⟨rfl, rfl⟩ := trodVars_none hV
  obtain ⟨a0, l0, c0, rfl⟩ := okWide_slice Tryd.underlying22 (hval 0 22 v0 rfl rfl)
  have k0 := h0
  have lt0 : ∀ x ∈ p0, x.block < W.heap.size := by obtain ⟨m, hm⟩ := k0; exact DataW.trod_lt m _ _ _ hm
  obtain ⟨z0, w0, g0⟩ := row_of h0
  obtain ⟨a1, l1, c1, rfl⟩ := okWide_slice Tryd.underlying22 (hval 1 22 v1 rfl rfl)
  have k1 := h1
  have lt1 : ∀ x ∈ p1, x.block < W.heap.size := by obtain ⟨m, hm⟩ := k1; exact DataW.trod_lt m _ _ _ hm
  obtain ⟨z1, w1, g1⟩ := row_of h1
  clear hA0 hval0
  refine (walk a0 l0 c0 z0 a1 l1 c1 z1 W w0 g0 w1 g1 (hold6_of hL)).mono fun e W' ⟨he, bel⟩ => ?_
  subst he
  exact ⟨_, rfl, _, _, _, [], _, [], hW', trodAll_mk1 (shut_bool Tryd.underlying4 _), (trodAll_cons_mk (Below.trod laidOut (by kernel_rfl) (of_decide_eq_true (by kernel_rfl)) k0 bel lt0) (trodAll_cons_mk (Below.trod laidOut (by kernel_rfl) (of_decide_eq_true (by kernel_rfl)) k1 bel lt1) trodAll_mk0)), rfl, bel.frame _, fun h => by cases h⟩
theorem said : Rows.ExpansionProductsSaid :=
  OpenClaim.holds_of_wide 3 Tryd.f3 rfl rfl rfl rfl rfl rfl rfl ⟨rfl, rfl, rfl, rfl, rfl⟩ rfl rfl rfl rfl rfl (by kernel_rfl) Tryd.func3 (by kernel_rfl)
    (of_decide_eq_true (by kernel_rfl)) (by unfold Func.isWrapper; first | (rw [if_pos (by decide +kernel)]; kernel_rfl) | (rw [if_neg (by decide +kernel)]; exact ⟨rfl, rfl⟩))
    (fun os started H enc _ => lifted os started H enc)
theorem plain (f : FuncId) (fn : Func) (hf : Tryd.pinned.checked.prog.funcNamed Tryd.f3.name = some f) (hfn : Tryd.pinned.checked.prog.funcs[f]? = some fn) :
    true = Tryd.pinned.checked.prog.looks [] ∧ ∀ (j : Nat) t, fn.params[j]? = some t → Tryd.pinned.checked.prog.wantsStandIn t = false := by
  obtain rfl : f = 3 := Option.some.inj ((show Tryd.prog.funcNamed Tryd.f3.name = some 3 by kernel_rfl).symm.trans hf) |>.symm
  obtain rfl : fn = Tryd.f3 := (Option.some.inj (Tryd.func3.symm.trans hfn)).symm
  refine ⟨by kernel_rfl, fun j t ht => ?_⟩
  rw [Tryd.params3] at ht
  obtain rfl : t = 22 := by simpa using Array.mem_of_getElem? ht
  exact (show Tryd.prog.wantsStandIn 22 = false by kernel_rfl)
/-- THE CARD. -/
theorem card : Rows.ExpansionProductsCardSaid :=
  Claim7.holds_tied_plain_at .later [] _ _ _ _ said (fun _ h => by cases h) (by kernel_rfl) (fun _ h => by cases h) expansionProducts_row_tie rfl ⟨rfl, rfl⟩ (by kernel_rfl) rfl plain (by kernel_rfl)
end Go.Proofs.YtmgndnabaemgkaaDoor.expansionProducts
namespace Go.Proofs.YtmgndnabaemgkaaDoor
/-- ExpansionProducts: the statement as it is given. -/
theorem expansionProducts_holds : Rows.ExpansionProductsCardSaid := expansionProducts.card
end Go.Proofs.YtmgndnabaemgkaaDoor
