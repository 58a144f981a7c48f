/-
  EftHalves: for any pattern the law returns true: both halves of a float have at most 26 bits, and are just the float. As a card: the library's tables and the layout of package bits start as the program's text lays them.
-/
import Derived.Test.YtoehjolmniddlaaDoorPart16
import Derived.Test.YtoehjolmniddlaaDoorCards
import Derived.Test.YtoehjolmniddlaaDoorTie
namespace Go.Proofs.YtoehjolmniddlaaDoor.eftHalves
open Go Go.ChangeShapes Go.WideShapes Go.ChangeAt Go.RowKit Go.Proofs.YtoehjolmniddlaaDoor Go.Proofs.YtoehjolmniddlaaDoor.M
set_option linter.unusedSimpArgs false
set_option linter.unusedVariables false

theorem halves {a : Int} (ha : M.rng a) (h : szB a 9092767647661031424 = true) : pok a = true ∧ ∃ h l : Int, spH (told a) = h ∧ spL (told a) = l ∧ (pok h = true ∧ pok l = true) ∧ (∀ ng m e, Dy (patV h) ng m e → m < 67108864) ∧ (∀ ng m e, Dy (patV l) ng m e → m < 67108864) ∧ patV h + patV l = patV a := by
  unfold szB at h
  have pa : pok a = true := by cases g : pok a <;> rw [g] at h <;> first | rfl | cases h
  rw [pa] at h
  have hr : rg a < 9092767647661031424 := of_decide_eq_true h
  have g0 := (rg_lt ha pa).1
  have hv : ((iV a).natAbs : Int) ≤ (V Ieee.double 9092767647661031424 : Int) := by
    rw [iV_abs]; exact V_le (by omega)
  have pl := sp_fin ha pa hv max_996
  obtain ⟨_, ph, H⟩ := spL_exact ha pl
  obtain ⟨rH, rL⟩ := sp_rng ha
  obtain ⟨q1, q2⟩ := hlv_half H
  refine ⟨pa, _, _, rfl, rfl, ?_⟩
  rw [told_ok pa ha]
  refine ⟨⟨ph, pl⟩, fun ng m e hy => hlf_dy q1 (patV_iV rH ph) hy, fun ng m e hy => hlf_dy q2 (patV_iV rL pl) hy, ?_⟩
  rw [patV_iV rH ph, patV_iV rL pl, patV_iV ha pa, ← Int.add_mul, H.sum]
set_option maxRecDepth 100000 in
set_option maxHeartbeats 4000000 in
theorem walk (a : Int) (w : World) (ha : M.rng a) (H : Hold4 w) :
    Calls Tryd.prog 4 #[.int .i64 a] w fun e w' => e = .returned (.bool true) ∧ Below w.heap.size w w' := by
  have hb0 := bel_refl w
  have CZ : Hid (∀ W, Hold4 W → _) := fun W HW => size_any (b := a) (k := 996) (P := 9092767647661031424) ha (by unfold M.rng; decide) (by decide +kernel) (by decide +kernel) (by decide) (by decide) W HW
  have CS := fun W => esplitF_any ha W
  have HV : Hid (szB a 9092767647661031424 = true → _) := halves ha
  clear ha
  go_enter Tryd.func4, Tryd.ntmps4
  go_wp2_with fail
  refine (alive6 _ H).mono ?_
  rintro _ y1 ⟨rfl, hw1⟩
  have H := H.keeps hw1
  have hb1 := bel_trans hb0 hw1
  go_wp2_with fail
  refine (CZ.out _ H).mono ?_
  rintro _ y2 ⟨rfl, hw2⟩
  have H := H.keeps hw2
  have hb2 := bel_trans hb1 hw2
  cases hz : szB a 9092767647661031424
  · clear HV CZ CS hz
    go_wp2_with fail
    refine (alive6 _ H).mono ?_
    rintro _ y3 ⟨rfl, hw3⟩
    have H := H.keeps hw3
    have hb3 := bel_trans hb2 hw3
    go_wp2
    all_goals go_ret
    all_goals exact ⟨rfl, hb3⟩
  · obtain ⟨pa, h, l, eh, el, ⟨ph, pl⟩, q1, q2, hs⟩ := HV.out hz
    rw [eh, el, pl] at CS
    clear HV CZ hz eh el
    have Q1 : Hid (∀ ng m e, Dy (patV h) ng m e → m < 67108864) := q1
    have Q2 : Hid (∀ ng m e, Dy (patV l) ng m e → m < 67108864) := q2
    have HS : Hid (patV h + patV l = patV a) := hs
    clear q1 q2 hs
    go_wp2_with fail
    refine (CS _).mono ?_
    rintro _ y3 ⟨rfl, hw3⟩
    have H := H.keeps hw3
    have hb3 := bel_trans hb2 hw3
    go_wp2_with fail
    refine (of_ok ph H).mono ?_
    rintro _ y4 ⟨v, rfl, h4⟩
    obtain ⟨x_g, x_o, x_n, x_c, x_e, rfl⟩ := dans_shape h4
    have hw4 := h4.below
    have x_D := h4.num
    have H := H.keeps hw4
    have hb4 := bel_trans hb3 hw4
    have x_k := heap_a1 y4 (.cells #[.bool x_g, .slice x_o x_n x_c, .int .i64 x_e] 26)
    have x_D := x_D.keeps (bel_alloc y4 (.cells #[.bool x_g, .slice x_o x_n x_c, .int .i64 x_e] 26))
    have H := H.keeps (bel_alloc y4 (.cells #[.bool x_g, .slice x_o x_n x_c, .int .i64 x_e] 26))
    have hb5' := bel_trans hb4 (bel_alloc y4 (.cells #[.bool x_g, .slice x_o x_n x_c, .int .i64 x_e] 26))
    go_wp2_with fail
    generalize y4.alloc (.cells #[.bool x_g, .slice x_o x_n x_c, .int .i64 x_e] 26) = x5 at x_k x_D H hb5' ⊢
    refine (of_ok pl H).mono ?_
    rintro _ y5 ⟨v, rfl, h5⟩
    obtain ⟨y_g, y_o, y_n, y_c, y_e, rfl⟩ := dans_shape h5
    have hw5 := h5.below
    have y_D := h5.num
    have H := H.keeps hw5
    have x_k := (hw5.block _ (Array.getElem?_eq_some_iff.1 x_k).1).trans x_k
    have x_D := x_D.keeps hw5
    have hb5 := bel_trans hb5' hw5
    have nx := half_num x_D Q1.out
    have ny := half_num y_D Q2.out
    clear Q1 Q2 CS
    rcases nx with ex | ⟨ex, bx, fx, vx, ox, cx, lx⟩
    · subst ex
      rcases ny with ey | ⟨ey, by1, fy, vy, oy, cy, ly⟩
      · subst ey
        have x_k := heap_past (.cells #[.bool y_g, .slice y_o 0 y_c, .int .i64 y_e] 26) x_k
        have y_k := heap_a1 y5 (.cells #[.bool y_g, .slice y_o 0 y_c, .int .i64 y_e] 26)
        have x_D := x_D.keeps (bel_alloc y5 (.cells #[.bool y_g, .slice y_o 0 y_c, .int .i64 y_e] 26))
        have y_D := y_D.keeps (bel_alloc y5 (.cells #[.bool y_g, .slice y_o 0 y_c, .int .i64 y_e] 26))
        have H := H.keeps (bel_alloc y5 (.cells #[.bool y_g, .slice y_o 0 y_c, .int .i64 y_e] 26))
        have hb6' := bel_trans hb5 (bel_alloc y5 (.cells #[.bool y_g, .slice y_o 0 y_c, .int .i64 y_e] 26))
        have f_x0 := blkC x_k 0 rfl
        have f_x1 := blkC x_k 1 rfl
        have f_x2 := blkC x_k 2 rfl
        go_wp2_with fail
        clear f_x0 f_x1 f_x2
        generalize y5.alloc (.cells #[.bool y_g, .slice y_o 0 y_c, .int .i64 y_e] 26) = x6 at x_k y_k x_D y_D H hb6' ⊢
        refine (add_B x_D y_D (patV_bd ph) (patV_bd pl) (by omega) H.tab).mono ?_
        rintro _ y6 ⟨v, rfl, h6⟩
        obtain ⟨s_g, s_o, s_n, s_c, s_e, rfl⟩ := dans_shape h6
        have hw6 := h6.below
        have s_D := h6.num
        have H := H.keeps hw6
        have x_k := (hw6.block _ (Array.getElem?_eq_some_iff.1 x_k).1).trans x_k
        have x_D := x_D.keeps hw6
        have y_k := (hw6.block _ (Array.getElem?_eq_some_iff.1 y_k).1).trans y_k
        have y_D := y_D.keeps hw6
        have hb6 := bel_trans hb6' hw6
        have x_k := heap_past (.cells #[.bool s_g, .slice s_o s_n s_c, .int .i64 s_e] 26) x_k
        have y_k := heap_past (.cells #[.bool s_g, .slice s_o s_n s_c, .int .i64 s_e] 26) y_k
        have s_k := heap_a1 y6 (.cells #[.bool s_g, .slice s_o s_n s_c, .int .i64 s_e] 26)
        have x_D := x_D.keeps (bel_alloc y6 (.cells #[.bool s_g, .slice s_o s_n s_c, .int .i64 s_e] 26))
        have y_D := y_D.keeps (bel_alloc y6 (.cells #[.bool s_g, .slice s_o s_n s_c, .int .i64 s_e] 26))
        have s_D := s_D.keeps (bel_alloc y6 (.cells #[.bool s_g, .slice s_o s_n s_c, .int .i64 s_e] 26))
        have H := H.keeps (bel_alloc y6 (.cells #[.bool s_g, .slice s_o s_n s_c, .int .i64 s_e] 26))
        have hb7' := bel_trans hb6 (bel_alloc y6 (.cells #[.bool s_g, .slice s_o s_n s_c, .int .i64 s_e] 26))
        go_wp2_with fail
        generalize y6.alloc (.cells #[.bool s_g, .slice s_o s_n s_c, .int .i64 s_e] 26) = x7 at x_k y_k s_k x_D y_D s_D H hb7' ⊢
        refine (of_ok pa H).mono ?_
        rintro _ y7 ⟨v, rfl, h7⟩
        obtain ⟨z_g, z_o, z_n, z_c, z_e, rfl⟩ := dans_shape h7
        have hw7 := h7.below
        have z_D := h7.num
        have H := H.keeps hw7
        have x_k := (hw7.block _ (Array.getElem?_eq_some_iff.1 x_k).1).trans x_k
        have x_D := x_D.keeps hw7
        have y_k := (hw7.block _ (Array.getElem?_eq_some_iff.1 y_k).1).trans y_k
        have y_D := y_D.keeps hw7
        have s_k := (hw7.block _ (Array.getElem?_eq_some_iff.1 s_k).1).trans s_k
        have s_D := s_D.keeps hw7
        have hb7 := bel_trans hb7' hw7
        have bS := (patV_bd ph).add (patV_bd pl) (by omega)
        have x_k := heap_past (.cells #[.bool z_g, .slice z_o z_n z_c, .int .i64 z_e] 26) x_k
        have y_k := heap_past (.cells #[.bool z_g, .slice z_o z_n z_c, .int .i64 z_e] 26) y_k
        have s_k := heap_past (.cells #[.bool z_g, .slice z_o z_n z_c, .int .i64 z_e] 26) s_k
        have z_k := heap_a1 y7 (.cells #[.bool z_g, .slice z_o z_n z_c, .int .i64 z_e] 26)
        have x_D := x_D.keeps (bel_alloc y7 (.cells #[.bool z_g, .slice z_o z_n z_c, .int .i64 z_e] 26))
        have y_D := y_D.keeps (bel_alloc y7 (.cells #[.bool z_g, .slice z_o z_n z_c, .int .i64 z_e] 26))
        have s_D := s_D.keeps (bel_alloc y7 (.cells #[.bool z_g, .slice z_o z_n z_c, .int .i64 z_e] 26))
        have z_D := z_D.keeps (bel_alloc y7 (.cells #[.bool z_g, .slice z_o z_n z_c, .int .i64 z_e] 26))
        have H := H.keeps (bel_alloc y7 (.cells #[.bool z_g, .slice z_o z_n z_c, .int .i64 z_e] 26))
        have hb8' := bel_trans hb7 (bel_alloc y7 (.cells #[.bool z_g, .slice z_o z_n z_c, .int .i64 z_e] 26))
        have f_s0 := blkC s_k 0 rfl
        have f_s1 := blkC s_k 1 rfl
        have f_s2 := blkC s_k 2 rfl
        go_wp2_with fail
        clear f_s0 f_s1 f_s2
        generalize y7.alloc (.cells #[.bool z_g, .slice z_o z_n z_c, .int .i64 z_e] 26) = x8 at x_k y_k s_k z_k x_D y_D s_D z_D H hb8' ⊢
        refine (cmp_D s_D z_D (bS.ok (by omega)) ((patV_bd pa).ok (by omega))).mono ?_
        rintro _ y8 ⟨rfl, hw8⟩
        have H := H.keeps hw8
        have x_k := (hw8.block _ (Array.getElem?_eq_some_iff.1 x_k).1).trans x_k
        have x_D := x_D.keeps hw8
        have y_k := (hw8.block _ (Array.getElem?_eq_some_iff.1 y_k).1).trans y_k
        have y_D := y_D.keeps hw8
        have s_k := (hw8.block _ (Array.getElem?_eq_some_iff.1 s_k).1).trans s_k
        have s_D := s_D.keeps hw8
        have z_k := (hw8.block _ (Array.getElem?_eq_some_iff.1 z_k).1).trans z_k
        have z_D := z_D.keeps hw8
        have hb8 := bel_trans hb8' hw8
        rw [ord_zero_iff.2 HS.out]
        clear bS HS
        go_wp2
        all_goals go_ret
        all_goals exact ⟨rfl, hb8⟩
      · subst ey oy
        have x_k := heap_past (.cells #[.bool y_g, .slice (some ⟨by1, fy, none⟩) 1 y_c, .int .i64 y_e] 26) x_k
        have y_k := heap_a1 y5 (.cells #[.bool y_g, .slice (some ⟨by1, fy, none⟩) 1 y_c, .int .i64 y_e] 26)
        have x_D := x_D.keeps (bel_alloc y5 (.cells #[.bool y_g, .slice (some ⟨by1, fy, none⟩) 1 y_c, .int .i64 y_e] 26))
        have y_D := y_D.keeps (bel_alloc y5 (.cells #[.bool y_g, .slice (some ⟨by1, fy, none⟩) 1 y_c, .int .i64 y_e] 26))
        have H := H.keeps (bel_alloc y5 (.cells #[.bool y_g, .slice (some ⟨by1, fy, none⟩) 1 y_c, .int .i64 y_e] 26))
        have hb6' := bel_trans hb5 (bel_alloc y5 (.cells #[.bool y_g, .slice (some ⟨by1, fy, none⟩) 1 y_c, .int .i64 y_e] 26))
        have f_x0 := blkC x_k 0 rfl
        have f_x1 := blkC x_k 1 rfl
        have f_x2 := blkC x_k 2 rfl
        have cy := cell_keeps cy (bel_alloc y5 (.cells #[.bool y_g, .slice (some ⟨by1, fy, none⟩) 1 y_c, .int .i64 y_e] 26))
        go_wp2_with fail
        clear cy
        clear f_x0 f_x1 f_x2
        generalize y5.alloc (.cells #[.bool y_g, .slice (some ⟨by1, fy, none⟩) 1 y_c, .int .i64 y_e] 26) = x6 at x_k y_k x_D y_D H hb6' ⊢
        refine (add_B x_D y_D (patV_bd ph) (patV_bd pl) (by omega) H.tab).mono ?_
        rintro _ y6 ⟨v, rfl, h6⟩
        obtain ⟨s_g, s_o, s_n, s_c, s_e, rfl⟩ := dans_shape h6
        have hw6 := h6.below
        have s_D := h6.num
        have H := H.keeps hw6
        have x_k := (hw6.block _ (Array.getElem?_eq_some_iff.1 x_k).1).trans x_k
        have x_D := x_D.keeps hw6
        have y_k := (hw6.block _ (Array.getElem?_eq_some_iff.1 y_k).1).trans y_k
        have y_D := y_D.keeps hw6
        have hb6 := bel_trans hb6' hw6
        have x_k := heap_past (.cells #[.bool s_g, .slice s_o s_n s_c, .int .i64 s_e] 26) x_k
        have y_k := heap_past (.cells #[.bool s_g, .slice s_o s_n s_c, .int .i64 s_e] 26) y_k
        have s_k := heap_a1 y6 (.cells #[.bool s_g, .slice s_o s_n s_c, .int .i64 s_e] 26)
        have x_D := x_D.keeps (bel_alloc y6 (.cells #[.bool s_g, .slice s_o s_n s_c, .int .i64 s_e] 26))
        have y_D := y_D.keeps (bel_alloc y6 (.cells #[.bool s_g, .slice s_o s_n s_c, .int .i64 s_e] 26))
        have s_D := s_D.keeps (bel_alloc y6 (.cells #[.bool s_g, .slice s_o s_n s_c, .int .i64 s_e] 26))
        have H := H.keeps (bel_alloc y6 (.cells #[.bool s_g, .slice s_o s_n s_c, .int .i64 s_e] 26))
        have hb7' := bel_trans hb6 (bel_alloc y6 (.cells #[.bool s_g, .slice s_o s_n s_c, .int .i64 s_e] 26))
        go_wp2_with fail
        generalize y6.alloc (.cells #[.bool s_g, .slice s_o s_n s_c, .int .i64 s_e] 26) = x7 at x_k y_k s_k x_D y_D s_D H hb7' ⊢
        refine (of_ok pa H).mono ?_
        rintro _ y7 ⟨v, rfl, h7⟩
        obtain ⟨z_g, z_o, z_n, z_c, z_e, rfl⟩ := dans_shape h7
        have hw7 := h7.below
        have z_D := h7.num
        have H := H.keeps hw7
        have x_k := (hw7.block _ (Array.getElem?_eq_some_iff.1 x_k).1).trans x_k
        have x_D := x_D.keeps hw7
        have y_k := (hw7.block _ (Array.getElem?_eq_some_iff.1 y_k).1).trans y_k
        have y_D := y_D.keeps hw7
        have s_k := (hw7.block _ (Array.getElem?_eq_some_iff.1 s_k).1).trans s_k
        have s_D := s_D.keeps hw7
        have hb7 := bel_trans hb7' hw7
        have bS := (patV_bd ph).add (patV_bd pl) (by omega)
        have x_k := heap_past (.cells #[.bool z_g, .slice z_o z_n z_c, .int .i64 z_e] 26) x_k
        have y_k := heap_past (.cells #[.bool z_g, .slice z_o z_n z_c, .int .i64 z_e] 26) y_k
        have s_k := heap_past (.cells #[.bool z_g, .slice z_o z_n z_c, .int .i64 z_e] 26) s_k
        have z_k := heap_a1 y7 (.cells #[.bool z_g, .slice z_o z_n z_c, .int .i64 z_e] 26)
        have x_D := x_D.keeps (bel_alloc y7 (.cells #[.bool z_g, .slice z_o z_n z_c, .int .i64 z_e] 26))
        have y_D := y_D.keeps (bel_alloc y7 (.cells #[.bool z_g, .slice z_o z_n z_c, .int .i64 z_e] 26))
        have s_D := s_D.keeps (bel_alloc y7 (.cells #[.bool z_g, .slice z_o z_n z_c, .int .i64 z_e] 26))
        have z_D := z_D.keeps (bel_alloc y7 (.cells #[.bool z_g, .slice z_o z_n z_c, .int .i64 z_e] 26))
        have H := H.keeps (bel_alloc y7 (.cells #[.bool z_g, .slice z_o z_n z_c, .int .i64 z_e] 26))
        have hb8' := bel_trans hb7 (bel_alloc y7 (.cells #[.bool z_g, .slice z_o z_n z_c, .int .i64 z_e] 26))
        have f_s0 := blkC s_k 0 rfl
        have f_s1 := blkC s_k 1 rfl
        have f_s2 := blkC s_k 2 rfl
        go_wp2_with fail
        clear f_s0 f_s1 f_s2
        generalize y7.alloc (.cells #[.bool z_g, .slice z_o z_n z_c, .int .i64 z_e] 26) = x8 at x_k y_k s_k z_k x_D y_D s_D z_D H hb8' ⊢
        refine (cmp_D s_D z_D (bS.ok (by omega)) ((patV_bd pa).ok (by omega))).mono ?_
        rintro _ y8 ⟨rfl, hw8⟩
        have H := H.keeps hw8
        have x_k := (hw8.block _ (Array.getElem?_eq_some_iff.1 x_k).1).trans x_k
        have x_D := x_D.keeps hw8
        have y_k := (hw8.block _ (Array.getElem?_eq_some_iff.1 y_k).1).trans y_k
        have y_D := y_D.keeps hw8
        have s_k := (hw8.block _ (Array.getElem?_eq_some_iff.1 s_k).1).trans s_k
        have s_D := s_D.keeps hw8
        have z_k := (hw8.block _ (Array.getElem?_eq_some_iff.1 z_k).1).trans z_k
        have z_D := z_D.keeps hw8
        have hb8 := bel_trans hb8' hw8
        rw [ord_zero_iff.2 HS.out]
        clear bS HS
        go_wp2
        all_goals go_ret
        all_goals exact ⟨rfl, hb8⟩
    · subst ex ox
      rcases ny with ey | ⟨ey, by1, fy, vy, oy, cy, ly⟩
      · subst ey
        have x_k := heap_past (.cells #[.bool y_g, .slice y_o 0 y_c, .int .i64 y_e] 26) x_k
        have y_k := heap_a1 y5 (.cells #[.bool y_g, .slice y_o 0 y_c, .int .i64 y_e] 26)
        have x_D := x_D.keeps (bel_alloc y5 (.cells #[.bool y_g, .slice y_o 0 y_c, .int .i64 y_e] 26))
        have y_D := y_D.keeps (bel_alloc y5 (.cells #[.bool y_g, .slice y_o 0 y_c, .int .i64 y_e] 26))
        have H := H.keeps (bel_alloc y5 (.cells #[.bool y_g, .slice y_o 0 y_c, .int .i64 y_e] 26))
        have hb6' := bel_trans hb5 (bel_alloc y5 (.cells #[.bool y_g, .slice y_o 0 y_c, .int .i64 y_e] 26))
        have f_x0 := blkC x_k 0 rfl
        have f_x1 := blkC x_k 1 rfl
        have f_x2 := blkC x_k 2 rfl
        have cx := cell_keeps cx (bel_alloc y5 (.cells #[.bool y_g, .slice y_o 0 y_c, .int .i64 y_e] 26))
        go_wp2_with fail
        clear cx
        clear f_x0 f_x1 f_x2
        generalize y5.alloc (.cells #[.bool y_g, .slice y_o 0 y_c, .int .i64 y_e] 26) = x6 at x_k y_k x_D y_D H hb6' ⊢
        refine (add_B x_D y_D (patV_bd ph) (patV_bd pl) (by omega) H.tab).mono ?_
        rintro _ y6 ⟨v, rfl, h6⟩
        obtain ⟨s_g, s_o, s_n, s_c, s_e, rfl⟩ := dans_shape h6
        have hw6 := h6.below
        have s_D := h6.num
        have H := H.keeps hw6
        have x_k := (hw6.block _ (Array.getElem?_eq_some_iff.1 x_k).1).trans x_k
        have x_D := x_D.keeps hw6
        have y_k := (hw6.block _ (Array.getElem?_eq_some_iff.1 y_k).1).trans y_k
        have y_D := y_D.keeps hw6
        have hb6 := bel_trans hb6' hw6
        have x_k := heap_past (.cells #[.bool s_g, .slice s_o s_n s_c, .int .i64 s_e] 26) x_k
        have y_k := heap_past (.cells #[.bool s_g, .slice s_o s_n s_c, .int .i64 s_e] 26) y_k
        have s_k := heap_a1 y6 (.cells #[.bool s_g, .slice s_o s_n s_c, .int .i64 s_e] 26)
        have x_D := x_D.keeps (bel_alloc y6 (.cells #[.bool s_g, .slice s_o s_n s_c, .int .i64 s_e] 26))
        have y_D := y_D.keeps (bel_alloc y6 (.cells #[.bool s_g, .slice s_o s_n s_c, .int .i64 s_e] 26))
        have s_D := s_D.keeps (bel_alloc y6 (.cells #[.bool s_g, .slice s_o s_n s_c, .int .i64 s_e] 26))
        have H := H.keeps (bel_alloc y6 (.cells #[.bool s_g, .slice s_o s_n s_c, .int .i64 s_e] 26))
        have hb7' := bel_trans hb6 (bel_alloc y6 (.cells #[.bool s_g, .slice s_o s_n s_c, .int .i64 s_e] 26))
        go_wp2_with fail
        generalize y6.alloc (.cells #[.bool s_g, .slice s_o s_n s_c, .int .i64 s_e] 26) = x7 at x_k y_k s_k x_D y_D s_D H hb7' ⊢
        refine (of_ok pa H).mono ?_
        rintro _ y7 ⟨v, rfl, h7⟩
        obtain ⟨z_g, z_o, z_n, z_c, z_e, rfl⟩ := dans_shape h7
        have hw7 := h7.below
        have z_D := h7.num
        have H := H.keeps hw7
        have x_k := (hw7.block _ (Array.getElem?_eq_some_iff.1 x_k).1).trans x_k
        have x_D := x_D.keeps hw7
        have y_k := (hw7.block _ (Array.getElem?_eq_some_iff.1 y_k).1).trans y_k
        have y_D := y_D.keeps hw7
        have s_k := (hw7.block _ (Array.getElem?_eq_some_iff.1 s_k).1).trans s_k
        have s_D := s_D.keeps hw7
        have hb7 := bel_trans hb7' hw7
        have bS := (patV_bd ph).add (patV_bd pl) (by omega)
        have x_k := heap_past (.cells #[.bool z_g, .slice z_o z_n z_c, .int .i64 z_e] 26) x_k
        have y_k := heap_past (.cells #[.bool z_g, .slice z_o z_n z_c, .int .i64 z_e] 26) y_k
        have s_k := heap_past (.cells #[.bool z_g, .slice z_o z_n z_c, .int .i64 z_e] 26) s_k
        have z_k := heap_a1 y7 (.cells #[.bool z_g, .slice z_o z_n z_c, .int .i64 z_e] 26)
        have x_D := x_D.keeps (bel_alloc y7 (.cells #[.bool z_g, .slice z_o z_n z_c, .int .i64 z_e] 26))
        have y_D := y_D.keeps (bel_alloc y7 (.cells #[.bool z_g, .slice z_o z_n z_c, .int .i64 z_e] 26))
        have s_D := s_D.keeps (bel_alloc y7 (.cells #[.bool z_g, .slice z_o z_n z_c, .int .i64 z_e] 26))
        have z_D := z_D.keeps (bel_alloc y7 (.cells #[.bool z_g, .slice z_o z_n z_c, .int .i64 z_e] 26))
        have H := H.keeps (bel_alloc y7 (.cells #[.bool z_g, .slice z_o z_n z_c, .int .i64 z_e] 26))
        have hb8' := bel_trans hb7 (bel_alloc y7 (.cells #[.bool z_g, .slice z_o z_n z_c, .int .i64 z_e] 26))
        have f_s0 := blkC s_k 0 rfl
        have f_s1 := blkC s_k 1 rfl
        have f_s2 := blkC s_k 2 rfl
        go_wp2_with fail
        clear f_s0 f_s1 f_s2
        generalize y7.alloc (.cells #[.bool z_g, .slice z_o z_n z_c, .int .i64 z_e] 26) = x8 at x_k y_k s_k z_k x_D y_D s_D z_D H hb8' ⊢
        refine (cmp_D s_D z_D (bS.ok (by omega)) ((patV_bd pa).ok (by omega))).mono ?_
        rintro _ y8 ⟨rfl, hw8⟩
        have H := H.keeps hw8
        have x_k := (hw8.block _ (Array.getElem?_eq_some_iff.1 x_k).1).trans x_k
        have x_D := x_D.keeps hw8
        have y_k := (hw8.block _ (Array.getElem?_eq_some_iff.1 y_k).1).trans y_k
        have y_D := y_D.keeps hw8
        have s_k := (hw8.block _ (Array.getElem?_eq_some_iff.1 s_k).1).trans s_k
        have s_D := s_D.keeps hw8
        have z_k := (hw8.block _ (Array.getElem?_eq_some_iff.1 z_k).1).trans z_k
        have z_D := z_D.keeps hw8
        have hb8 := bel_trans hb8' hw8
        rw [ord_zero_iff.2 HS.out]
        clear bS HS
        go_wp2
        all_goals go_ret
        all_goals exact ⟨rfl, hb8⟩
      · subst ey oy
        have x_k := heap_past (.cells #[.bool y_g, .slice (some ⟨by1, fy, none⟩) 1 y_c, .int .i64 y_e] 26) x_k
        have y_k := heap_a1 y5 (.cells #[.bool y_g, .slice (some ⟨by1, fy, none⟩) 1 y_c, .int .i64 y_e] 26)
        have x_D := x_D.keeps (bel_alloc y5 (.cells #[.bool y_g, .slice (some ⟨by1, fy, none⟩) 1 y_c, .int .i64 y_e] 26))
        have y_D := y_D.keeps (bel_alloc y5 (.cells #[.bool y_g, .slice (some ⟨by1, fy, none⟩) 1 y_c, .int .i64 y_e] 26))
        have H := H.keeps (bel_alloc y5 (.cells #[.bool y_g, .slice (some ⟨by1, fy, none⟩) 1 y_c, .int .i64 y_e] 26))
        have hb6' := bel_trans hb5 (bel_alloc y5 (.cells #[.bool y_g, .slice (some ⟨by1, fy, none⟩) 1 y_c, .int .i64 y_e] 26))
        have f_x0 := blkC x_k 0 rfl
        have f_x1 := blkC x_k 1 rfl
        have f_x2 := blkC x_k 2 rfl
        have cx := cell_keeps cx (bel_alloc y5 (.cells #[.bool y_g, .slice (some ⟨by1, fy, none⟩) 1 y_c, .int .i64 y_e] 26))
        have cy := cell_keeps cy (bel_alloc y5 (.cells #[.bool y_g, .slice (some ⟨by1, fy, none⟩) 1 y_c, .int .i64 y_e] 26))
        go_wp2_with fail
        clear cx cy
        clear f_x0 f_x1 f_x2
        generalize y5.alloc (.cells #[.bool y_g, .slice (some ⟨by1, fy, none⟩) 1 y_c, .int .i64 y_e] 26) = x6 at x_k y_k x_D y_D H hb6' ⊢
        refine (add_B x_D y_D (patV_bd ph) (patV_bd pl) (by omega) H.tab).mono ?_
        rintro _ y6 ⟨v, rfl, h6⟩
        obtain ⟨s_g, s_o, s_n, s_c, s_e, rfl⟩ := dans_shape h6
        have hw6 := h6.below
        have s_D := h6.num
        have H := H.keeps hw6
        have x_k := (hw6.block _ (Array.getElem?_eq_some_iff.1 x_k).1).trans x_k
        have x_D := x_D.keeps hw6
        have y_k := (hw6.block _ (Array.getElem?_eq_some_iff.1 y_k).1).trans y_k
        have y_D := y_D.keeps hw6
        have hb6 := bel_trans hb6' hw6
        have x_k := heap_past (.cells #[.bool s_g, .slice s_o s_n s_c, .int .i64 s_e] 26) x_k
        have y_k := heap_past (.cells #[.bool s_g, .slice s_o s_n s_c, .int .i64 s_e] 26) y_k
        have s_k := heap_a1 y6 (.cells #[.bool s_g, .slice s_o s_n s_c, .int .i64 s_e] 26)
        have x_D := x_D.keeps (bel_alloc y6 (.cells #[.bool s_g, .slice s_o s_n s_c, .int .i64 s_e] 26))
        have y_D := y_D.keeps (bel_alloc y6 (.cells #[.bool s_g, .slice s_o s_n s_c, .int .i64 s_e] 26))
        have s_D := s_D.keeps (bel_alloc y6 (.cells #[.bool s_g, .slice s_o s_n s_c, .int .i64 s_e] 26))
        have H := H.keeps (bel_alloc y6 (.cells #[.bool s_g, .slice s_o s_n s_c, .int .i64 s_e] 26))
        have hb7' := bel_trans hb6 (bel_alloc y6 (.cells #[.bool s_g, .slice s_o s_n s_c, .int .i64 s_e] 26))
        go_wp2_with fail
        generalize y6.alloc (.cells #[.bool s_g, .slice s_o s_n s_c, .int .i64 s_e] 26) = x7 at x_k y_k s_k x_D y_D s_D H hb7' ⊢
        refine (of_ok pa H).mono ?_
        rintro _ y7 ⟨v, rfl, h7⟩
        obtain ⟨z_g, z_o, z_n, z_c, z_e, rfl⟩ := dans_shape h7
        have hw7 := h7.below
        have z_D := h7.num
        have H := H.keeps hw7
        have x_k := (hw7.block _ (Array.getElem?_eq_some_iff.1 x_k).1).trans x_k
        have x_D := x_D.keeps hw7
        have y_k := (hw7.block _ (Array.getElem?_eq_some_iff.1 y_k).1).trans y_k
        have y_D := y_D.keeps hw7
        have s_k := (hw7.block _ (Array.getElem?_eq_some_iff.1 s_k).1).trans s_k
        have s_D := s_D.keeps hw7
        have hb7 := bel_trans hb7' hw7
        have bS := (patV_bd ph).add (patV_bd pl) (by omega)
        have x_k := heap_past (.cells #[.bool z_g, .slice z_o z_n z_c, .int .i64 z_e] 26) x_k
        have y_k := heap_past (.cells #[.bool z_g, .slice z_o z_n z_c, .int .i64 z_e] 26) y_k
        have s_k := heap_past (.cells #[.bool z_g, .slice z_o z_n z_c, .int .i64 z_e] 26) s_k
        have z_k := heap_a1 y7 (.cells #[.bool z_g, .slice z_o z_n z_c, .int .i64 z_e] 26)
        have x_D := x_D.keeps (bel_alloc y7 (.cells #[.bool z_g, .slice z_o z_n z_c, .int .i64 z_e] 26))
        have y_D := y_D.keeps (bel_alloc y7 (.cells #[.bool z_g, .slice z_o z_n z_c, .int .i64 z_e] 26))
        have s_D := s_D.keeps (bel_alloc y7 (.cells #[.bool z_g, .slice z_o z_n z_c, .int .i64 z_e] 26))
        have z_D := z_D.keeps (bel_alloc y7 (.cells #[.bool z_g, .slice z_o z_n z_c, .int .i64 z_e] 26))
        have H := H.keeps (bel_alloc y7 (.cells #[.bool z_g, .slice z_o z_n z_c, .int .i64 z_e] 26))
        have hb8' := bel_trans hb7 (bel_alloc y7 (.cells #[.bool z_g, .slice z_o z_n z_c, .int .i64 z_e] 26))
        have f_s0 := blkC s_k 0 rfl
        have f_s1 := blkC s_k 1 rfl
        have f_s2 := blkC s_k 2 rfl
        go_wp2_with fail
        clear f_s0 f_s1 f_s2
        generalize y7.alloc (.cells #[.bool z_g, .slice z_o z_n z_c, .int .i64 z_e] 26) = x8 at x_k y_k s_k z_k x_D y_D s_D z_D H hb8' ⊢
        refine (cmp_D s_D z_D (bS.ok (by omega)) ((patV_bd pa).ok (by omega))).mono ?_
        rintro _ y8 ⟨rfl, hw8⟩
        have H := H.keeps hw8
        have x_k := (hw8.block _ (Array.getElem?_eq_some_iff.1 x_k).1).trans x_k
        have x_D := x_D.keeps hw8
        have y_k := (hw8.block _ (Array.getElem?_eq_some_iff.1 y_k).1).trans y_k
        have y_D := y_D.keeps hw8
        have s_k := (hw8.block _ (Array.getElem?_eq_some_iff.1 s_k).1).trans s_k
        have s_D := s_D.keeps hw8
        have z_k := (hw8.block _ (Array.getElem?_eq_some_iff.1 z_k).1).trans z_k
        have z_D := z_D.keeps hw8
        have hb8 := bel_trans hb8' hw8
        rw [ord_zero_iff.2 HS.out]
        clear bS HS
        go_wp2
        all_goals go_ret
        all_goals exact ⟨rfl, hb8⟩
theorem own : ownKnob Tryd.prog.godebug = none := by kernel_rfl
theorem laidOut : laidOutB Tryd.prog = true := by kernel_rfl
theorem door_met (os : Os) (args : Array Value) : laidMetH Tryd.prog Rows.eftHalvesRow.laid ((World.doorLaid Tryd.prog 400 os).forCall (fun _ _ => 0) ⟨#[], args, []⟩).memory :=
  laidMetH_of_parts3 (fuel := 8) (laidMet_of_run' 8 (by kernel_rfl) (by kernel_rfl)) (by kernel_rfl) (by kernel_rfl)
set_option maxRecDepth 100000 in
theorem lifted (os : Os) (started : os.Started) (H : Type) (enc : TypeId × Value → H) :
    ReturnsInHanded {} Tryd.checked os 4 .any (fun w args => (Rows.eftHalvesSpec.pre enc Tryd.prog Tryd.f4 [] false w args ∧ laidMetH Tryd.prog Rows.eftHalvesRow.laid w) ∧ sizedMet enc Tryd.prog Tryd.f4 (OpenSpec.ofChange Rows.eftHalvesSpec) false w args)
      (Rows.eftHalvesSpec.post enc Tryd.prog Tryd.f4 false true false false) := by
  refine returnsInHanded_of_change_and (C := Tryd.checked) (X := fun w _ => laidMetH Tryd.prog Rows.eftHalvesRow.laid w) (fun _ _ _ hh h => h.of_heap hh) own started (by kernel_rfl) Tryd.func4
    (ChangeSpec.witness_shaped (enc := enc) (C := Tryd.checked) (os := os) (X := fun w _ => laidMetH Tryd.prog Rows.eftHalvesRow.laid w) false (World.doorLaid Tryd.prog 400 os) #[.int .i64 0] 8 rfl (World.shaped_of_RefB (by kernel_rfl) (by kernel_rfl)) (by kernel_rfl) (by kernel_rfl) (by kernel_rfl) (door_met os _)) ?_
  intro W base args ds gs before hval0 hW _ _ hL _
  have hval : ∀ (j : Nat) t v, Tryd.f4.params[j]? = some t → args[j]? = some v → Value.okWide Tryd.prog W .any base t v := hval0
  have hW' := hW
  obtain ⟨p, q, hA0, hV, rfl, hfz, hnd⟩ := hW
  have hA : DataW.TrodAll enc Tryd.prog W 0 (fun _ => true) true Tryd.f4.params.toList args.toList ds p := hA0
  rw [Tryd.params4] at hA hval
  obtain ⟨v0, vs0, d0, ds0, p0, q0, hargs, rfl, rfl, h0, r0⟩ := trodAll_cons hA
  obtain ⟨rfl, rfl, rfl⟩ := trodAll_nil r0
  obtain rfl : args = #[v0] := by cases args; simp_all
  obtain ⟨rfl, rfl⟩ := trodVars_none hV
  obtain ⟨a0, rfl, rfl, rfl, w0⟩ := open_int Tryd.underlying3 (hval 0 3 v0 rfl rfl) h0
  clear hA0 hval0
  refine (walk a0 W (rng_of w0) (hold6_of hL)).mono fun e W' ⟨he, bel⟩ => ?_
  subst he
  exact ⟨_, rfl, _, _, _, [], _, [], hW', trodAll_mk1 (shut_bool Tryd.underlying4 _), (trodAll_cons_mk (shut_int Tryd.underlying3 w0) trodAll_mk0), rfl, bel.frame _, fun h => by cases h⟩
theorem said : Rows.EftHalvesSaid :=
  OpenClaim.holds_of_wide 4 Tryd.f4 rfl rfl rfl rfl rfl rfl rfl ⟨rfl, rfl, rfl, rfl, rfl⟩ rfl rfl rfl rfl rfl (by kernel_rfl) Tryd.func4 (by kernel_rfl)
    (of_decide_eq_true (by kernel_rfl)) (by unfold Func.isWrapper; first | (rw [if_pos (by decide +kernel)]; kernel_rfl) | (rw [if_neg (by decide +kernel)]; exact ⟨rfl, rfl⟩))
    (fun os started H enc _ => lifted os started H enc)
theorem plain (f : FuncId) (fn : Func) (hf : Tryd.pinned.checked.prog.funcNamed Tryd.f4.name = some f) (hfn : Tryd.pinned.checked.prog.funcs[f]? = some fn) :
    true = Tryd.pinned.checked.prog.looks [] ∧ ∀ (j : Nat) t, fn.params[j]? = some t → Tryd.pinned.checked.prog.wantsStandIn t = false := by
  obtain rfl : f = 4 := Option.some.inj ((show Tryd.prog.funcNamed Tryd.f4.name = some 4 by kernel_rfl).symm.trans hf) |>.symm
  obtain rfl : fn = Tryd.f4 := (Option.some.inj (Tryd.func4.symm.trans hfn)).symm
  refine ⟨by kernel_rfl, fun j t ht => ?_⟩
  rw [Tryd.params4] at ht
  obtain rfl : t = 3 := by simpa using Array.mem_of_getElem? ht
  exact (show Tryd.prog.wantsStandIn 3 = false by kernel_rfl)
/-- THE CARD. -/
theorem card : Rows.EftHalvesCardSaid :=
  Claim7.holds_tied_plain_at .later [] _ _ _ _ said (fun _ h => by cases h) (by kernel_rfl) (fun _ h => by cases h) eftHalves_row_tie rfl ⟨rfl, rfl⟩ (by kernel_rfl) rfl plain (by kernel_rfl)
end Go.Proofs.YtoehjolmniddlaaDoor.eftHalves
namespace Go.Proofs.YtoehjolmniddlaaDoor
/-- EftHalves: the statement as it is given. -/
theorem eftHalves_holds : Rows.EftHalvesCardSaid := eftHalves.card
end Go.Proofs.YtoehjolmniddlaaDoor
