/-
  ExpansionSums: for any two lists the law returns true: floats from the middle of all, grown one by one, are expansions, and their sum and difference are expansions of just the sum and the difference. As a card: the library's tables and the layout of package bits start as the program's text lays them.
-/
import Derived.Test.YtmghplbmfjhkcaaDoorPart12
import Derived.Test.YtmghplbmfjhkcaaDoorPart13
import Derived.Test.YtmghplbmfjhkcaaDoorPart6
import Derived.Test.YtmghplbmfjhkcaaDoorPart10
import Derived.Test.YtmghplbmfjhkcaaDoorCards
import Derived.Test.YtmghplbmfjhkcaaDoorTie
namespace Go.Proofs.YtmghplbmfjhkcaaDoor.expansionSums
open Go Go.ChangeShapes Go.WideShapes Go.ChangeAt Go.RowKit Go.Proofs.YtmghplbmfjhkcaaDoor Go.Proofs.YtmghplbmfjhkcaaDoor.M
set_option linter.unusedSimpArgs false
set_option linter.unusedVariables false

/-- What is known of an expansion that made made. -/
structure Md (E : Ls) : Prop where
  xv : XV E.d E.n
  bd : LB E 1418
  le : E.n ≤ 12
theorem md_of (z : Nat → Int) (l : Nat) : Md (mdS z l) := by
  obtain ⟨_, h2, h3⟩ := mdS_all z (min l 12) (by omega)
  have h4 := gaS_le ⟨0, fun _ => 0⟩ (fun i => mdb (z i)) (min l 12)
  have h4' : (mdS z l).n ≤ 0 + min l 12 := h4
  exact ⟨h2, fun i hi => p2_up (h3 i hi) (by omega), by omega⟩
/-- Grown into one another. -/
structure Gw (E : Ls) (f : Nat → Int) (m : Nat) (T : Int) : Prop where
  ok : gaX ⟨E.n, E.d⟩ f m = true
  xv : XV (gaS ⟨E.n, E.d⟩ f m).d (gaS ⟨E.n, E.d⟩ f m).n
  le : (gaS ⟨E.n, E.d⟩ f m).n ≤ 24
  sum : lsm (gaS ⟨E.n, E.d⟩ f m).d (gaS ⟨E.n, E.d⟩ f m).n = T
theorem gw_of {E : Ls} (h : Md E) {f : Nat → Int} {m : Nat} (hm : m ≤ 12) (hf : ∀ i, i < m → rng (f i) ∧ pok (f i) = true) (bf : ∀ i, i < m → ((iV (f i)).natAbs : Int) ≤ 2 ^ 1418) : Gw E f m (lsm E.d E.n + lsm f m) := by
  have hle := h.le
  obtain ⟨h1, h2, _, h4⟩ := gaS_all (s := ⟨E.n, E.d⟩) (f := f) (m := m) (b := 1418) (L := 24) h.xv hf h.bd bf (show E.n + m ≤ 24 by omega) (by omega) m (Nat.le_refl _)
  have h5 := gaS_le ⟨E.n, E.d⟩ f m
  have h5' : (gaS ⟨E.n, E.d⟩ f m).n ≤ E.n + m := h5
  exact ⟨h1, h2, by omega, h4⟩
theorem sum_of {E F : Ls} (h : Md E) (k : Md F) : Gw E F.d F.n (lsm E.d E.n + lsm F.d F.n) := gw_of h k.le k.xv.fn k.bd
theorem diff_of {E F : Ls} (h : Md E) (k : Md F) : Gw E (fun i => neg (F.d i)) F.n (lsm E.d E.n - lsm F.d F.n) := by
  have hf : ∀ i, i < F.n → rng (neg (F.d i)) ∧ pok (neg (F.d i)) = true := fun i hi => ⟨(neg_facts (k.xv.fn i hi).1 (k.xv.fn i hi).2).1, (neg_facts (k.xv.fn i hi).1 (k.xv.fn i hi).2).2.1⟩
  have := gw_of h (f := fun i => neg (F.d i)) k.le hf (fun i hi => by
    show ((iV (neg (F.d i))).natAbs : Int) ≤ _
    rw [(neg_facts (k.xv.fn i hi).1 (k.xv.fn i hi).2).2.2]
    have := k.bd i hi
    omega)
  rw [lsm_neg k.xv.fn] at this
  exact this
theorem bd_of {d : Nat → Int} {n : Nat} (h : XV d n) (hn : n ≤ 24) : Bd 5000 (psm d n) := (psm_bd (fun i hi => (h.fin i hi).2.1) (by omega)).up (by omega) (by omega)
theorem psm_of {d : Nat → Int} {n : Nat} (h : XV d n) : psm d n = lsm d n * pw (-1074) := psm_lsm fun i hi => ⟨(h.fin i hi).1, (h.fin i hi).2.1⟩
set_option maxRecDepth 100000 in
set_option maxHeartbeats 8000000 in
theorem walk (a0 : Option Addr) (l0 c0 : Nat) (z0 : Nat → Int) (a1 : Option Addr) (l1 c1 : Nat) (z1 : Nat → Int) (w : World) (R0 : Row w a0 l0 c0 z0) (hz0 : ∀ i, i < l0 → rng (z0 i)) (R1 : Row w a1 l1 c1 z1) (hz1 : ∀ i, i < l1 → rng (z1 i)) (H : Hold4 w) :
    Calls Tryd.prog 3 #[.slice a0 l0 c0, .slice a1 l1 c1] w fun e w' => e = .returned (.bool true) ∧ Below w.heap.size w w' := by
  have CM0 : Hid (∀ W, Row W a0 l0 c0 z0 → Hold4 W → Calls Tryd.prog 4 #[.slice a0 l0 c0, .int .i64 12] W fun r w' => ∃ eo ec, r = .returned (.tuple #[.slice eo (mdS z0 l0).n ec, .bool true]) ∧ Row w' eo (mdS z0 l0).n ec (mdS z0 l0).d ∧ Below W.heap.size W w') := fun W h hH => made_any W h hH
  have CM1 : Hid (∀ W, Row W a1 l1 c1 z1 → Hold4 W → Calls Tryd.prog 4 #[.slice a1 l1 c1, .int .i64 12] W fun r w' => ∃ eo ec, r = .returned (.tuple #[.slice eo (mdS z1 l1).n ec, .bool true]) ∧ Row w' eo (mdS z1 l1).n ec (mdS z1 l1).d ∧ Below W.heap.size W w') := fun W h hH => made_any W h hH
  have ME := md_of z0 l0
  have MF := md_of z1 l1
  generalize mdS z0 l0 = E at *
  generalize mdS z1 l1 = F at *
  have GS := sum_of ME MF
  have GD := diff_of ME MF
  have GN := diff_of ME ME
  have hE12 := ME.le
  have hF12 := MF.le
  have CVE : Hid (∀ W eo ec, Row W eo E.n ec E.d → Hold4 W → Calls Tryd.prog 6 #[.slice eo E.n ec] W fun r w' => ∃ v, r = .returned (.tuple #[v, .bool true]) ∧ DAns W w' (psm E.d E.n) v) := fun W eo ec h hH => value_ok h ME.xv (by omega) hH
  have CVF : Hid (∀ W eo ec, Row W eo F.n ec F.d → Hold4 W → Calls Tryd.prog 6 #[.slice eo F.n ec] W fun r w' => ∃ v, r = .returned (.tuple #[v, .bool true]) ∧ DAns W w' (psm F.d F.n) v) := fun W eo ec h hH => value_ok h MF.xv (by omega) hH
  have CSU : Hid (∀ W eo ec fo fc, Row W eo E.n ec E.d → Row W fo F.n fc F.d → Hold4 W → Calls Tryd.prog 7 #[.slice eo E.n ec, .slice fo F.n fc] W fun r w' => ∃ ao cap, r = .returned (.tuple #[.slice ao (gaS ⟨E.n, E.d⟩ F.d F.n).n cap, .int .i64 0]) ∧ Row w' ao (gaS ⟨E.n, E.d⟩ F.d F.n).n cap (gaS ⟨E.n, E.d⟩ F.d F.n).d ∧ Below W.heap.size W w') := fun W eo ec fo fc h hf hH => (xSum W h hf (fun i hi => (ME.xv.fn i hi).1) (fun i hi => (MF.xv.fn i hi).1) (xval_of ME.xv) (xval_of MF.xv) (by omega) hH).mono fun _ _ hx => hx.yes GS.ok
  have CDI : Hid (∀ W eo ec fo fc, Row W eo E.n ec E.d → Row W fo F.n fc F.d → Hold4 W → Calls Tryd.prog 8 #[.slice eo E.n ec, .slice fo F.n fc] W fun r w' => ∃ ao cap, r = .returned (.tuple #[.slice ao (gaS ⟨E.n, E.d⟩ (fun i => neg (F.d i)) F.n).n cap, .int .i64 0]) ∧ Row w' ao (gaS ⟨E.n, E.d⟩ (fun i => neg (F.d i)) F.n).n cap (gaS ⟨E.n, E.d⟩ (fun i => neg (F.d i)) F.n).d ∧ Below W.heap.size W w') := fun W eo ec fo fc h hf hH => (xDiff W h hf (fun i hi => (ME.xv.fn i hi).1) (fun i hi => (MF.xv.fn i hi).1) (xval_of ME.xv) (xval_of MF.xv) (by omega) hH).mono fun _ _ hx => hx.yes GD.ok
  have hN0 : (gaS ⟨E.n, E.d⟩ (fun i => neg (E.d i)) E.n).n = 0 := xv_zero GN.xv (by rw [GN.sum]; omega)
  have CDE : Hid (∀ W eo ec, Row W eo E.n ec E.d → Hold4 W → Calls Tryd.prog 8 #[.slice eo E.n ec, .slice eo E.n ec] W fun r w' => ∃ ao cap, r = .returned (.tuple #[.slice ao 0 cap, .int .i64 0]) ∧ Below W.heap.size W w') := fun W eo ec h hH => (xDiff W h h (fun i hi => (ME.xv.fn i hi).1) (fun i hi => (ME.xv.fn i hi).1) (xval_of ME.xv) (xval_of ME.xv) (by omega) hH).mono fun _ _ hx => by
    obtain ⟨ao, cap, h1, _, h3⟩ := hx.yes GN.ok
    rw [hN0] at h1
    exact ⟨ao, cap, h1, h3⟩
  have hpE := psm_of ME.xv
  have hpF := psm_of MF.xv
  have hpS : psm (gaS ⟨E.n, E.d⟩ F.d F.n).d (gaS ⟨E.n, E.d⟩ F.d F.n).n = psm E.d E.n + psm F.d F.n := by rw [psm_of GS.xv, GS.sum, hpE, hpF, Int.add_mul]
  have hpD : psm (gaS ⟨E.n, E.d⟩ (fun i => neg (F.d i)) F.n).d (gaS ⟨E.n, E.d⟩ (fun i => neg (F.d i)) F.n).n = psm E.d E.n - psm F.d F.n := by rw [psm_of GD.xv, GD.sum, hpE, hpF, Int.sub_mul]
  have bE : Bd 5000 (psm E.d E.n) := bd_of ME.xv (by omega)
  have bF : Bd 5000 (psm F.d F.n) := bd_of MF.xv (by omega)
  have CVS : Hid (∀ W eo ec, Row W eo (gaS ⟨E.n, E.d⟩ F.d F.n).n ec (gaS ⟨E.n, E.d⟩ F.d F.n).d → Hold4 W → Calls Tryd.prog 6 #[.slice eo (gaS ⟨E.n, E.d⟩ F.d F.n).n ec] W fun r w' => ∃ v, r = .returned (.tuple #[v, .bool true]) ∧ DAns W w' (psm E.d E.n + psm F.d F.n) v) := fun W eo ec h hH => by
    have hl := GS.le
    have := value_ok h GS.xv (by omega) hH
    rw [hpS] at this
    exact this
  have CVD : Hid (∀ W eo ec, Row W eo (gaS ⟨E.n, E.d⟩ (fun i => neg (F.d i)) F.n).n ec (gaS ⟨E.n, E.d⟩ (fun i => neg (F.d i)) F.n).d → Hold4 W → Calls Tryd.prog 6 #[.slice eo (gaS ⟨E.n, E.d⟩ (fun i => neg (F.d i)) F.n).n ec] W fun r w' => ∃ v, r = .returned (.tuple #[v, .bool true]) ∧ DAns W w' (psm E.d E.n - psm F.d F.n) v) := fun W eo ec h hH => by
    have hl := GD.le
    have := value_ok h GD.xv (by omega) hH
    rw [hpD] at this
    exact this
  generalize gaS ⟨E.n, E.d⟩ F.d F.n = SS at *
  generalize gaS ⟨E.n, E.d⟩ (fun i => neg (F.d i)) F.n = SD at *
  generalize psm E.d E.n = VE at *
  generalize psm F.d F.n = VF at *
  have oS : Dok (VE + VF) := (bE.add bF (by omega)).ok (by omega)
  have oD : Dok (VE - VF) := (bE.sub bF (by omega)).ok (by omega)
  have CS1 : Hid (∀ W x y, DNum W x (VE + VF) → DNum W y (VE + VF) → Calls Tryd.prog 11 #[x, y] W fun r w' => r = .returned (.bool true) ∧ Below W.heap.size W w') := fun W x y hx hy => by
    have := same7_any hx hy oS oS
    rw [ord_eq rfl] at this
    exact this
  have CS2 : Hid (∀ W x y, DNum W x (VE - VF) → DNum W y (VE - VF) → Calls Tryd.prog 11 #[x, y] W fun r w' => r = .returned (.bool true) ∧ Below W.heap.size W w') := fun W x y hx hy => by
    have := same7_any hx hy oD oD
    rw [ord_eq rfl] at this
    exact this
  have BE : Hid (Bd 5000 VE) := bE
  have BF : Hid (Bd 5000 VF) := bF
  clear hz0 hz1 ME MF GS GD GN hN0 hpE hpF hpS hpD bE bF oS oD
  have lx0 := R0.max
  have lx1 := R1.max
  have ly0 := R0.le
  have ly1 := R1.le
  have hb0 := bel_refl w
  go_enter Tryd.func3, Tryd.ntmps3
  go_wp2_with fail
  refine (CM0.out _ R0 H).mono ?_
  rintro _ y1 ⟨e_o, e_c, rfl, RE, hw1⟩
  have H := H.keeps hw1
  have R0 := R0.keeps hw1
  have R1 := R1.keeps hw1
  have hb1 := bel_trans hb0 hw1
  go_wp2_with fail
  refine (CM1.out _ R1 H).mono ?_
  rintro _ y2 ⟨f_o, f_c, rfl, RF, hw2⟩
  have H := H.keeps hw2
  have R0 := R0.keeps hw2
  have R1 := R1.keeps hw2
  have RE := RE.keeps hw2
  have hb2 := bel_trans hb1 hw2
  go_wp2_with fail
  refine (alive7 _ H).mono ?_
  rintro _ y3 ⟨rfl, hw3⟩
  have H := H.keeps hw3
  have R0 := R0.keeps hw3
  have R1 := R1.keeps hw3
  have RE := RE.keeps hw3
  have RF := RF.keeps hw3
  have hb3 := bel_trans hb2 hw3
  go_wp2_with fail
  refine (CVE.out _ _ _ RE H).mono ?_
  rintro _ y4 ⟨v, rfl, h4⟩
  obtain ⟨x_g, x_o, x_n, x_c, x_e, rfl⟩ := dans_shape h4
  have hw4 := h4.below
  have x_D := h4.num
  have H := H.keeps hw4
  have R0 := R0.keeps hw4
  have R1 := R1.keeps hw4
  have RE := RE.keeps hw4
  have RF := RF.keeps hw4
  have hb4 := bel_trans hb3 hw4
  have x_k := heap_a1 y4 (.cells #[.bool x_g, .slice x_o x_n x_c, .int .i64 x_e] 27)
  have x_D := x_D.keeps (bel_alloc y4 (.cells #[.bool x_g, .slice x_o x_n x_c, .int .i64 x_e] 27))
  have H := H.keeps (bel_alloc y4 (.cells #[.bool x_g, .slice x_o x_n x_c, .int .i64 x_e] 27))
  have R0 := R0.keeps (bel_alloc y4 (.cells #[.bool x_g, .slice x_o x_n x_c, .int .i64 x_e] 27))
  have R1 := R1.keeps (bel_alloc y4 (.cells #[.bool x_g, .slice x_o x_n x_c, .int .i64 x_e] 27))
  have RE := RE.keeps (bel_alloc y4 (.cells #[.bool x_g, .slice x_o x_n x_c, .int .i64 x_e] 27))
  have RF := RF.keeps (bel_alloc y4 (.cells #[.bool x_g, .slice x_o x_n x_c, .int .i64 x_e] 27))
  have hb5' := bel_trans hb4 (bel_alloc y4 (.cells #[.bool x_g, .slice x_o x_n x_c, .int .i64 x_e] 27))
  go_wp2_with fail
  generalize y4.alloc (.cells #[.bool x_g, .slice x_o x_n x_c, .int .i64 x_e] 27) = x5 at x_k x_D H R0 R1 RE RF hb5' ⊢
  refine (CVF.out _ _ _ RF H).mono ?_
  rintro _ y5 ⟨v, rfl, h5⟩
  obtain ⟨y_g, y_o, y_n, y_c, y_e, rfl⟩ := dans_shape h5
  have hw5 := h5.below
  have y_D := h5.num
  have H := H.keeps hw5
  have R0 := R0.keeps hw5
  have R1 := R1.keeps hw5
  have RE := RE.keeps hw5
  have RF := RF.keeps hw5
  have x_k := (hw5.block _ (Array.getElem?_eq_some_iff.1 x_k).1).trans x_k
  have x_D := x_D.keeps hw5
  have hb5 := bel_trans hb5' hw5
  have x_k := heap_past (.cells #[.bool y_g, .slice y_o y_n y_c, .int .i64 y_e] 27) x_k
  have y_k := heap_a1 y5 (.cells #[.bool y_g, .slice y_o y_n y_c, .int .i64 y_e] 27)
  have x_D := x_D.keeps (bel_alloc y5 (.cells #[.bool y_g, .slice y_o y_n y_c, .int .i64 y_e] 27))
  have y_D := y_D.keeps (bel_alloc y5 (.cells #[.bool y_g, .slice y_o y_n y_c, .int .i64 y_e] 27))
  have H := H.keeps (bel_alloc y5 (.cells #[.bool y_g, .slice y_o y_n y_c, .int .i64 y_e] 27))
  have R0 := R0.keeps (bel_alloc y5 (.cells #[.bool y_g, .slice y_o y_n y_c, .int .i64 y_e] 27))
  have R1 := R1.keeps (bel_alloc y5 (.cells #[.bool y_g, .slice y_o y_n y_c, .int .i64 y_e] 27))
  have RE := RE.keeps (bel_alloc y5 (.cells #[.bool y_g, .slice y_o y_n y_c, .int .i64 y_e] 27))
  have RF := RF.keeps (bel_alloc y5 (.cells #[.bool y_g, .slice y_o y_n y_c, .int .i64 y_e] 27))
  have hb6' := bel_trans hb5 (bel_alloc y5 (.cells #[.bool y_g, .slice y_o y_n y_c, .int .i64 y_e] 27))
  go_wp2_with fail
  generalize y5.alloc (.cells #[.bool y_g, .slice y_o y_n y_c, .int .i64 y_e] 27) = x6 at x_k y_k x_D y_D H R0 R1 RE RF hb6' ⊢
  refine (CSU.out _ _ _ _ _ RE RF H).mono ?_
  rintro _ y6 ⟨s_o, s_c, rfl, RS, hw6⟩
  have H := H.keeps hw6
  have R0 := R0.keeps hw6
  have R1 := R1.keeps hw6
  have RE := RE.keeps hw6
  have RF := RF.keeps hw6
  have x_k := (hw6.block _ (Array.getElem?_eq_some_iff.1 x_k).1).trans x_k
  have x_D := x_D.keeps hw6
  have y_k := (hw6.block _ (Array.getElem?_eq_some_iff.1 y_k).1).trans y_k
  have y_D := y_D.keeps hw6
  have hb6 := bel_trans hb6' hw6
  go_wp2_with fail
  refine (CDI.out _ _ _ _ _ RE RF H).mono ?_
  rintro _ y7 ⟨d_o, d_c, rfl, RD, hw7⟩
  have H := H.keeps hw7
  have R0 := R0.keeps hw7
  have R1 := R1.keeps hw7
  have RE := RE.keeps hw7
  have RF := RF.keeps hw7
  have RS := RS.keeps hw7
  have x_k := (hw7.block _ (Array.getElem?_eq_some_iff.1 x_k).1).trans x_k
  have x_D := x_D.keeps hw7
  have y_k := (hw7.block _ (Array.getElem?_eq_some_iff.1 y_k).1).trans y_k
  have y_D := y_D.keeps hw7
  have hb7 := bel_trans hb6 hw7
  go_wp2_with fail
  refine (CVS.out _ _ _ RS H).mono ?_
  rintro _ y8 ⟨v, rfl, h8⟩
  obtain ⟨u_g, u_o, u_n, u_c, u_e, rfl⟩ := dans_shape h8
  have hw8 := h8.below
  have u_D := h8.num
  have H := H.keeps hw8
  have R0 := R0.keeps hw8
  have R1 := R1.keeps hw8
  have RE := RE.keeps hw8
  have RF := RF.keeps hw8
  have RS := RS.keeps hw8
  have RD := RD.keeps hw8
  have x_k := (hw8.block _ (Array.getElem?_eq_some_iff.1 x_k).1).trans x_k
  have x_D := x_D.keeps hw8
  have y_k := (hw8.block _ (Array.getElem?_eq_some_iff.1 y_k).1).trans y_k
  have y_D := y_D.keeps hw8
  have hb8 := bel_trans hb7 hw8
  have x_k := heap_past (.cells #[.bool u_g, .slice u_o u_n u_c, .int .i64 u_e] 27) x_k
  have y_k := heap_past (.cells #[.bool u_g, .slice u_o u_n u_c, .int .i64 u_e] 27) y_k
  have u_k := heap_a1 y8 (.cells #[.bool u_g, .slice u_o u_n u_c, .int .i64 u_e] 27)
  have x_D := x_D.keeps (bel_alloc y8 (.cells #[.bool u_g, .slice u_o u_n u_c, .int .i64 u_e] 27))
  have y_D := y_D.keeps (bel_alloc y8 (.cells #[.bool u_g, .slice u_o u_n u_c, .int .i64 u_e] 27))
  have u_D := u_D.keeps (bel_alloc y8 (.cells #[.bool u_g, .slice u_o u_n u_c, .int .i64 u_e] 27))
  have H := H.keeps (bel_alloc y8 (.cells #[.bool u_g, .slice u_o u_n u_c, .int .i64 u_e] 27))
  have R0 := R0.keeps (bel_alloc y8 (.cells #[.bool u_g, .slice u_o u_n u_c, .int .i64 u_e] 27))
  have R1 := R1.keeps (bel_alloc y8 (.cells #[.bool u_g, .slice u_o u_n u_c, .int .i64 u_e] 27))
  have RE := RE.keeps (bel_alloc y8 (.cells #[.bool u_g, .slice u_o u_n u_c, .int .i64 u_e] 27))
  have RF := RF.keeps (bel_alloc y8 (.cells #[.bool u_g, .slice u_o u_n u_c, .int .i64 u_e] 27))
  have RS := RS.keeps (bel_alloc y8 (.cells #[.bool u_g, .slice u_o u_n u_c, .int .i64 u_e] 27))
  have RD := RD.keeps (bel_alloc y8 (.cells #[.bool u_g, .slice u_o u_n u_c, .int .i64 u_e] 27))
  have hb9' := bel_trans hb8 (bel_alloc y8 (.cells #[.bool u_g, .slice u_o u_n u_c, .int .i64 u_e] 27))
  go_wp2_with fail
  generalize y8.alloc (.cells #[.bool u_g, .slice u_o u_n u_c, .int .i64 u_e] 27) = x9 at x_k y_k u_k x_D y_D u_D H R0 R1 RE RF RS RD hb9' ⊢
  refine (CVD.out _ _ _ RD H).mono ?_
  rintro _ y9 ⟨v, rfl, h9⟩
  obtain ⟨t_g, t_o, t_n, t_c, t_e, rfl⟩ := dans_shape h9
  have hw9 := h9.below
  have t_D := h9.num
  have H := H.keeps hw9
  have R0 := R0.keeps hw9
  have R1 := R1.keeps hw9
  have RE := RE.keeps hw9
  have RF := RF.keeps hw9
  have RS := RS.keeps hw9
  have RD := RD.keeps hw9
  have x_k := (hw9.block _ (Array.getElem?_eq_some_iff.1 x_k).1).trans x_k
  have x_D := x_D.keeps hw9
  have y_k := (hw9.block _ (Array.getElem?_eq_some_iff.1 y_k).1).trans y_k
  have y_D := y_D.keeps hw9
  have u_k := (hw9.block _ (Array.getElem?_eq_some_iff.1 u_k).1).trans u_k
  have u_D := u_D.keeps hw9
  have hb9 := bel_trans hb9' hw9
  have x_k := heap_past (.cells #[.bool t_g, .slice t_o t_n t_c, .int .i64 t_e] 27) x_k
  have y_k := heap_past (.cells #[.bool t_g, .slice t_o t_n t_c, .int .i64 t_e] 27) y_k
  have u_k := heap_past (.cells #[.bool t_g, .slice t_o t_n t_c, .int .i64 t_e] 27) u_k
  have t_k := heap_a1 y9 (.cells #[.bool t_g, .slice t_o t_n t_c, .int .i64 t_e] 27)
  have x_D := x_D.keeps (bel_alloc y9 (.cells #[.bool t_g, .slice t_o t_n t_c, .int .i64 t_e] 27))
  have y_D := y_D.keeps (bel_alloc y9 (.cells #[.bool t_g, .slice t_o t_n t_c, .int .i64 t_e] 27))
  have u_D := u_D.keeps (bel_alloc y9 (.cells #[.bool t_g, .slice t_o t_n t_c, .int .i64 t_e] 27))
  have t_D := t_D.keeps (bel_alloc y9 (.cells #[.bool t_g, .slice t_o t_n t_c, .int .i64 t_e] 27))
  have H := H.keeps (bel_alloc y9 (.cells #[.bool t_g, .slice t_o t_n t_c, .int .i64 t_e] 27))
  have R0 := R0.keeps (bel_alloc y9 (.cells #[.bool t_g, .slice t_o t_n t_c, .int .i64 t_e] 27))
  have R1 := R1.keeps (bel_alloc y9 (.cells #[.bool t_g, .slice t_o t_n t_c, .int .i64 t_e] 27))
  have RE := RE.keeps (bel_alloc y9 (.cells #[.bool t_g, .slice t_o t_n t_c, .int .i64 t_e] 27))
  have RF := RF.keeps (bel_alloc y9 (.cells #[.bool t_g, .slice t_o t_n t_c, .int .i64 t_e] 27))
  have RS := RS.keeps (bel_alloc y9 (.cells #[.bool t_g, .slice t_o t_n t_c, .int .i64 t_e] 27))
  have RD := RD.keeps (bel_alloc y9 (.cells #[.bool t_g, .slice t_o t_n t_c, .int .i64 t_e] 27))
  have hb10' := bel_trans hb9 (bel_alloc y9 (.cells #[.bool t_g, .slice t_o t_n t_c, .int .i64 t_e] 27))
  have f_x0 := blkC x_k 0 rfl
  have f_x1 := blkC x_k 1 rfl
  have f_x2 := blkC x_k 2 rfl
  have f_y0 := blkC y_k 0 rfl
  have f_y1 := blkC y_k 1 rfl
  have f_y2 := blkC y_k 2 rfl
  go_wp2_with fail
  clear f_x0 f_x1 f_x2 f_y0 f_y1 f_y2
  generalize y9.alloc (.cells #[.bool t_g, .slice t_o t_n t_c, .int .i64 t_e] 27) = x10 at x_k y_k u_k t_k x_D y_D u_D t_D H R0 R1 RE RF RS RD hb10' ⊢
  refine (add_B x_D y_D BE.out BF.out (by omega) H.tab).mono ?_
  rintro _ y10 ⟨v, rfl, h10⟩
  obtain ⟨p_g, p_o, p_n, p_c, p_e, rfl⟩ := dans_shape h10
  have hw10 := h10.below
  have p_D := h10.num
  have H := H.keeps hw10
  have R0 := R0.keeps hw10
  have R1 := R1.keeps hw10
  have RE := RE.keeps hw10
  have RF := RF.keeps hw10
  have RS := RS.keeps hw10
  have RD := RD.keeps hw10
  have x_k := (hw10.block _ (Array.getElem?_eq_some_iff.1 x_k).1).trans x_k
  have x_D := x_D.keeps hw10
  have y_k := (hw10.block _ (Array.getElem?_eq_some_iff.1 y_k).1).trans y_k
  have y_D := y_D.keeps hw10
  have u_k := (hw10.block _ (Array.getElem?_eq_some_iff.1 u_k).1).trans u_k
  have u_D := u_D.keeps hw10
  have t_k := (hw10.block _ (Array.getElem?_eq_some_iff.1 t_k).1).trans t_k
  have t_D := t_D.keeps hw10
  have hb10 := bel_trans hb10' hw10
  have x_k := heap_past (.cells #[.bool p_g, .slice p_o p_n p_c, .int .i64 p_e] 27) x_k
  have y_k := heap_past (.cells #[.bool p_g, .slice p_o p_n p_c, .int .i64 p_e] 27) y_k
  have u_k := heap_past (.cells #[.bool p_g, .slice p_o p_n p_c, .int .i64 p_e] 27) u_k
  have t_k := heap_past (.cells #[.bool p_g, .slice p_o p_n p_c, .int .i64 p_e] 27) t_k
  have p_k := heap_a1 y10 (.cells #[.bool p_g, .slice p_o p_n p_c, .int .i64 p_e] 27)
  have x_D := x_D.keeps (bel_alloc y10 (.cells #[.bool p_g, .slice p_o p_n p_c, .int .i64 p_e] 27))
  have y_D := y_D.keeps (bel_alloc y10 (.cells #[.bool p_g, .slice p_o p_n p_c, .int .i64 p_e] 27))
  have u_D := u_D.keeps (bel_alloc y10 (.cells #[.bool p_g, .slice p_o p_n p_c, .int .i64 p_e] 27))
  have t_D := t_D.keeps (bel_alloc y10 (.cells #[.bool p_g, .slice p_o p_n p_c, .int .i64 p_e] 27))
  have p_D := p_D.keeps (bel_alloc y10 (.cells #[.bool p_g, .slice p_o p_n p_c, .int .i64 p_e] 27))
  have H := H.keeps (bel_alloc y10 (.cells #[.bool p_g, .slice p_o p_n p_c, .int .i64 p_e] 27))
  have R0 := R0.keeps (bel_alloc y10 (.cells #[.bool p_g, .slice p_o p_n p_c, .int .i64 p_e] 27))
  have R1 := R1.keeps (bel_alloc y10 (.cells #[.bool p_g, .slice p_o p_n p_c, .int .i64 p_e] 27))
  have RE := RE.keeps (bel_alloc y10 (.cells #[.bool p_g, .slice p_o p_n p_c, .int .i64 p_e] 27))
  have RF := RF.keeps (bel_alloc y10 (.cells #[.bool p_g, .slice p_o p_n p_c, .int .i64 p_e] 27))
  have RS := RS.keeps (bel_alloc y10 (.cells #[.bool p_g, .slice p_o p_n p_c, .int .i64 p_e] 27))
  have RD := RD.keeps (bel_alloc y10 (.cells #[.bool p_g, .slice p_o p_n p_c, .int .i64 p_e] 27))
  have hb11' := bel_trans hb10 (bel_alloc y10 (.cells #[.bool p_g, .slice p_o p_n p_c, .int .i64 p_e] 27))
  have f_x0 := blkC x_k 0 rfl
  have f_x1 := blkC x_k 1 rfl
  have f_x2 := blkC x_k 2 rfl
  have f_y0 := blkC y_k 0 rfl
  have f_y1 := blkC y_k 1 rfl
  have f_y2 := blkC y_k 2 rfl
  go_wp2_with fail
  clear f_x0 f_x1 f_x2 f_y0 f_y1 f_y2
  generalize y10.alloc (.cells #[.bool p_g, .slice p_o p_n p_c, .int .i64 p_e] 27) = x11 at x_k y_k u_k t_k p_k x_D y_D u_D t_D p_D H R0 R1 RE RF RS RD hb11' ⊢
  refine (sub_B x_D y_D BE.out BF.out (by omega) H.tab).mono ?_
  rintro _ y11 ⟨v, rfl, h11⟩
  obtain ⟨q_g, q_o, q_n, q_c, q_e, rfl⟩ := dans_shape h11
  have hw11 := h11.below
  have q_D := h11.num
  have H := H.keeps hw11
  have R0 := R0.keeps hw11
  have R1 := R1.keeps hw11
  have RE := RE.keeps hw11
  have RF := RF.keeps hw11
  have RS := RS.keeps hw11
  have RD := RD.keeps hw11
  have x_k := (hw11.block _ (Array.getElem?_eq_some_iff.1 x_k).1).trans x_k
  have x_D := x_D.keeps hw11
  have y_k := (hw11.block _ (Array.getElem?_eq_some_iff.1 y_k).1).trans y_k
  have y_D := y_D.keeps hw11
  have u_k := (hw11.block _ (Array.getElem?_eq_some_iff.1 u_k).1).trans u_k
  have u_D := u_D.keeps hw11
  have t_k := (hw11.block _ (Array.getElem?_eq_some_iff.1 t_k).1).trans t_k
  have t_D := t_D.keeps hw11
  have p_k := (hw11.block _ (Array.getElem?_eq_some_iff.1 p_k).1).trans p_k
  have p_D := p_D.keeps hw11
  have hb11 := bel_trans hb11' hw11
  have x_k := heap_past (.cells #[.bool q_g, .slice q_o q_n q_c, .int .i64 q_e] 27) x_k
  have y_k := heap_past (.cells #[.bool q_g, .slice q_o q_n q_c, .int .i64 q_e] 27) y_k
  have u_k := heap_past (.cells #[.bool q_g, .slice q_o q_n q_c, .int .i64 q_e] 27) u_k
  have t_k := heap_past (.cells #[.bool q_g, .slice q_o q_n q_c, .int .i64 q_e] 27) t_k
  have p_k := heap_past (.cells #[.bool q_g, .slice q_o q_n q_c, .int .i64 q_e] 27) p_k
  have q_k := heap_a1 y11 (.cells #[.bool q_g, .slice q_o q_n q_c, .int .i64 q_e] 27)
  have x_D := x_D.keeps (bel_alloc y11 (.cells #[.bool q_g, .slice q_o q_n q_c, .int .i64 q_e] 27))
  have y_D := y_D.keeps (bel_alloc y11 (.cells #[.bool q_g, .slice q_o q_n q_c, .int .i64 q_e] 27))
  have u_D := u_D.keeps (bel_alloc y11 (.cells #[.bool q_g, .slice q_o q_n q_c, .int .i64 q_e] 27))
  have t_D := t_D.keeps (bel_alloc y11 (.cells #[.bool q_g, .slice q_o q_n q_c, .int .i64 q_e] 27))
  have p_D := p_D.keeps (bel_alloc y11 (.cells #[.bool q_g, .slice q_o q_n q_c, .int .i64 q_e] 27))
  have q_D := q_D.keeps (bel_alloc y11 (.cells #[.bool q_g, .slice q_o q_n q_c, .int .i64 q_e] 27))
  have H := H.keeps (bel_alloc y11 (.cells #[.bool q_g, .slice q_o q_n q_c, .int .i64 q_e] 27))
  have R0 := R0.keeps (bel_alloc y11 (.cells #[.bool q_g, .slice q_o q_n q_c, .int .i64 q_e] 27))
  have R1 := R1.keeps (bel_alloc y11 (.cells #[.bool q_g, .slice q_o q_n q_c, .int .i64 q_e] 27))
  have RE := RE.keeps (bel_alloc y11 (.cells #[.bool q_g, .slice q_o q_n q_c, .int .i64 q_e] 27))
  have RF := RF.keeps (bel_alloc y11 (.cells #[.bool q_g, .slice q_o q_n q_c, .int .i64 q_e] 27))
  have RS := RS.keeps (bel_alloc y11 (.cells #[.bool q_g, .slice q_o q_n q_c, .int .i64 q_e] 27))
  have RD := RD.keeps (bel_alloc y11 (.cells #[.bool q_g, .slice q_o q_n q_c, .int .i64 q_e] 27))
  have hb12' := bel_trans hb11 (bel_alloc y11 (.cells #[.bool q_g, .slice q_o q_n q_c, .int .i64 q_e] 27))
  go_wp2_with fail
  generalize y11.alloc (.cells #[.bool q_g, .slice q_o q_n q_c, .int .i64 q_e] 27) = x12 at x_k y_k u_k t_k p_k q_k x_D y_D u_D t_D p_D q_D H R0 R1 RE RF RS RD hb12' ⊢
  refine (CDE.out _ _ _ RE H).mono ?_
  rintro _ y12 ⟨n_o, n_c, rfl, hw12⟩
  have H := H.keeps hw12
  have R0 := R0.keeps hw12
  have R1 := R1.keeps hw12
  have RE := RE.keeps hw12
  have RF := RF.keeps hw12
  have RS := RS.keeps hw12
  have RD := RD.keeps hw12
  have x_k := (hw12.block _ (Array.getElem?_eq_some_iff.1 x_k).1).trans x_k
  have x_D := x_D.keeps hw12
  have y_k := (hw12.block _ (Array.getElem?_eq_some_iff.1 y_k).1).trans y_k
  have y_D := y_D.keeps hw12
  have u_k := (hw12.block _ (Array.getElem?_eq_some_iff.1 u_k).1).trans u_k
  have u_D := u_D.keeps hw12
  have t_k := (hw12.block _ (Array.getElem?_eq_some_iff.1 t_k).1).trans t_k
  have t_D := t_D.keeps hw12
  have p_k := (hw12.block _ (Array.getElem?_eq_some_iff.1 p_k).1).trans p_k
  have p_D := p_D.keeps hw12
  have q_k := (hw12.block _ (Array.getElem?_eq_some_iff.1 q_k).1).trans q_k
  have q_D := q_D.keeps hw12
  have hb12 := bel_trans hb12' hw12
  have f_u0 := blkC u_k 0 rfl
  have f_u1 := blkC u_k 1 rfl
  have f_u2 := blkC u_k 2 rfl
  have f_p0 := blkC p_k 0 rfl
  have f_p1 := blkC p_k 1 rfl
  have f_p2 := blkC p_k 2 rfl
  go_wp2_with fail
  clear f_u0 f_u1 f_u2 f_p0 f_p1 f_p2
  refine (CS1.out _ _ _ u_D p_D).mono ?_
  rintro _ y13 ⟨rfl, hw13⟩
  have H := H.keeps hw13
  have R0 := R0.keeps hw13
  have R1 := R1.keeps hw13
  have RE := RE.keeps hw13
  have RF := RF.keeps hw13
  have RS := RS.keeps hw13
  have RD := RD.keeps hw13
  have x_k := (hw13.block _ (Array.getElem?_eq_some_iff.1 x_k).1).trans x_k
  have x_D := x_D.keeps hw13
  have y_k := (hw13.block _ (Array.getElem?_eq_some_iff.1 y_k).1).trans y_k
  have y_D := y_D.keeps hw13
  have u_k := (hw13.block _ (Array.getElem?_eq_some_iff.1 u_k).1).trans u_k
  have u_D := u_D.keeps hw13
  have t_k := (hw13.block _ (Array.getElem?_eq_some_iff.1 t_k).1).trans t_k
  have t_D := t_D.keeps hw13
  have p_k := (hw13.block _ (Array.getElem?_eq_some_iff.1 p_k).1).trans p_k
  have p_D := p_D.keeps hw13
  have q_k := (hw13.block _ (Array.getElem?_eq_some_iff.1 q_k).1).trans q_k
  have q_D := q_D.keeps hw13
  have hb13 := bel_trans hb12 hw13
  have f_t0 := blkC t_k 0 rfl
  have f_t1 := blkC t_k 1 rfl
  have f_t2 := blkC t_k 2 rfl
  have f_q0 := blkC q_k 0 rfl
  have f_q1 := blkC q_k 1 rfl
  have f_q2 := blkC q_k 2 rfl
  go_wp2_with fail
  clear f_t0 f_t1 f_t2 f_q0 f_q1 f_q2
  refine (CS2.out _ _ _ t_D q_D).mono ?_
  rintro _ y14 ⟨rfl, hw14⟩
  have H := H.keeps hw14
  have R0 := R0.keeps hw14
  have R1 := R1.keeps hw14
  have RE := RE.keeps hw14
  have RF := RF.keeps hw14
  have RS := RS.keeps hw14
  have RD := RD.keeps hw14
  have x_k := (hw14.block _ (Array.getElem?_eq_some_iff.1 x_k).1).trans x_k
  have x_D := x_D.keeps hw14
  have y_k := (hw14.block _ (Array.getElem?_eq_some_iff.1 y_k).1).trans y_k
  have y_D := y_D.keeps hw14
  have u_k := (hw14.block _ (Array.getElem?_eq_some_iff.1 u_k).1).trans u_k
  have u_D := u_D.keeps hw14
  have t_k := (hw14.block _ (Array.getElem?_eq_some_iff.1 t_k).1).trans t_k
  have t_D := t_D.keeps hw14
  have p_k := (hw14.block _ (Array.getElem?_eq_some_iff.1 p_k).1).trans p_k
  have p_D := p_D.keeps hw14
  have q_k := (hw14.block _ (Array.getElem?_eq_some_iff.1 q_k).1).trans q_k
  have q_D := q_D.keeps hw14
  have hb14 := bel_trans hb13 hw14
  go_wp2
  all_goals go_ret
  all_goals exact ⟨rfl, by first | exact hb14 | exact hb14.drew⟩
theorem own : ownKnob Tryd.prog.godebug = none := by kernel_rfl
theorem laidOut : laidOutB Tryd.prog = true := by kernel_rfl
theorem door_met (os : Os) (args : Array Value) : laidMetH Tryd.prog Rows.expansionSumsRow.laid ((World.doorLaid Tryd.prog 400 os).forCall (fun _ _ => 0) ⟨#[], args, []⟩).memory :=
  laidMetH_of_parts3 (fuel := 8) (laidMet_of_run' 8 (by kernel_rfl) (by kernel_rfl)) (by kernel_rfl) (by kernel_rfl)
set_option maxRecDepth 100000 in
theorem lifted (os : Os) (started : os.Started) (H : Type) (enc : TypeId × Value → H) :
    ReturnsInHanded {} Tryd.checked os 3 .any (fun w args => (Rows.expansionSumsSpec.pre enc Tryd.prog Tryd.f3 [] false w args ∧ laidMetH Tryd.prog Rows.expansionSumsRow.laid w) ∧ sizedMet enc Tryd.prog Tryd.f3 (OpenSpec.ofChange Rows.expansionSumsSpec) false w args)
      (Rows.expansionSumsSpec.post enc Tryd.prog Tryd.f3 false true false false) := by
  refine returnsInHanded_of_change_and (C := Tryd.checked) (X := fun w _ => laidMetH Tryd.prog Rows.expansionSumsRow.laid w) (fun _ _ _ hh h => h.of_heap hh) own started (by kernel_rfl) Tryd.func3
    (ChangeSpec.witness_shaped (enc := enc) (C := Tryd.checked) (os := os) (X := fun w _ => laidMetH Tryd.prog Rows.expansionSumsRow.laid w) false (World.doorLaid Tryd.prog 400 os) #[.slice none 0 0, .slice none 0 0] 8 rfl (World.shaped_of_RefB (by kernel_rfl) (by kernel_rfl)) (by kernel_rfl) (by kernel_rfl) (by kernel_rfl) (door_met os _)) ?_
  intro W base args ds gs before hval0 hW _ _ hL _
  have hval : ∀ (j : Nat) t v, Tryd.f3.params[j]? = some t → args[j]? = some v → Value.okWide Tryd.prog W .any base t v := hval0
  have hW' := hW
  obtain ⟨p, q, hA0, hV, rfl, hfz, hnd⟩ := hW
  have hA : DataW.TrodAll enc Tryd.prog W 0 (fun _ => true) true Tryd.f3.params.toList args.toList ds p := hA0
  rw [Tryd.params3] at hA hval
  obtain ⟨v0, vs0, d0, ds0, p0, q0, hargs, rfl, rfl, h0, r0⟩ := trodAll_cons hA
  obtain ⟨v1, vs1, d1, ds1, p1, q1, rfl, rfl, rfl, h1, r1⟩ := trodAll_cons r0
  obtain ⟨rfl, rfl, rfl⟩ := trodAll_nil r1
  obtain rfl : args = #[v0, v1] := by cases args; simp_all
  obtain ⟨rfl, rfl⟩ := trodVars_none hV
  obtain ⟨a0, l0, c0, rfl⟩ := okWide_slice Tryd.underlying22 (hval 0 22 v0 rfl rfl)
  have k0 := h0
  have lt0 : ∀ x ∈ p0, x.block < W.heap.size := by obtain ⟨m, hm⟩ := k0; exact DataW.trod_lt m _ _ _ hm
  obtain ⟨z0, w0, g0⟩ := row_of h0
  obtain ⟨a1, l1, c1, rfl⟩ := okWide_slice Tryd.underlying22 (hval 1 22 v1 rfl rfl)
  have k1 := h1
  have lt1 : ∀ x ∈ p1, x.block < W.heap.size := by obtain ⟨m, hm⟩ := k1; exact DataW.trod_lt m _ _ _ hm
  obtain ⟨z1, w1, g1⟩ := row_of h1
  clear hA0 hval0
  refine (walk a0 l0 c0 z0 a1 l1 c1 z1 W w0 g0 w1 g1 (hold6_of hL)).mono fun e W' ⟨he, bel⟩ => ?_
  subst he
  exact ⟨_, rfl, _, _, _, [], _, [], hW', trodAll_mk1 (shut_bool Tryd.underlying4 _), (trodAll_cons_mk (Below.trod laidOut (by kernel_rfl) (of_decide_eq_true (by kernel_rfl)) k0 bel lt0) (trodAll_cons_mk (Below.trod laidOut (by kernel_rfl) (of_decide_eq_true (by kernel_rfl)) k1 bel lt1) trodAll_mk0)), rfl, bel.frame _, fun h => by cases h⟩
theorem said : Rows.ExpansionSumsSaid :=
  OpenClaim.holds_of_wide 3 Tryd.f3 rfl rfl rfl rfl rfl rfl rfl ⟨rfl, rfl, rfl, rfl, rfl⟩ rfl rfl rfl rfl rfl (by kernel_rfl) Tryd.func3 (by kernel_rfl)
    (of_decide_eq_true (by kernel_rfl)) (by unfold Func.isWrapper; first | (rw [if_pos (by decide +kernel)]; kernel_rfl) | (rw [if_neg (by decide +kernel)]; exact ⟨rfl, rfl⟩))
    (fun os started H enc _ => lifted os started H enc)
theorem plain (f : FuncId) (fn : Func) (hf : Tryd.pinned.checked.prog.funcNamed Tryd.f3.name = some f) (hfn : Tryd.pinned.checked.prog.funcs[f]? = some fn) :
    true = Tryd.pinned.checked.prog.looks [] ∧ ∀ (j : Nat) t, fn.params[j]? = some t → Tryd.pinned.checked.prog.wantsStandIn t = false := by
  obtain rfl : f = 3 := Option.some.inj ((show Tryd.prog.funcNamed Tryd.f3.name = some 3 by kernel_rfl).symm.trans hf) |>.symm
  obtain rfl : fn = Tryd.f3 := (Option.some.inj (Tryd.func3.symm.trans hfn)).symm
  refine ⟨by kernel_rfl, fun j t ht => ?_⟩
  rw [Tryd.params3] at ht
  obtain rfl : t = 22 := by simpa using Array.mem_of_getElem? ht
  exact (show Tryd.prog.wantsStandIn 22 = false by kernel_rfl)
/-- THE CARD. -/
theorem card : Rows.ExpansionSumsCardSaid :=
  Claim7.holds_tied_plain_at .later [] _ _ _ _ said (fun _ h => by cases h) (by kernel_rfl) (fun _ h => by cases h) expansionSums_row_tie rfl ⟨rfl, rfl⟩ (by kernel_rfl) rfl plain (by kernel_rfl)
end Go.Proofs.YtmghplbmfjhkcaaDoor.expansionSums
namespace Go.Proofs.YtmghplbmfjhkcaaDoor
/-- ExpansionSums: the statement as it is given. -/
theorem expansionSums_holds : Rows.ExpansionSumsCardSaid := expansionSums.card
end Go.Proofs.YtmghplbmfjhkcaaDoor
