/-
  RoundFused: for every two patterns and way the law returns true: a product with 1 and a sum is the sum, a product and -0 the product, and what a product lost is told by taking the rounded product off. As a card: the library's tables and the layouts start as the program's text lays them.
-/
import Derived.Test.YtobolgmjcebfmaaGreatDoorPart16
import Derived.Test.YtobolgmjcebfmaaGreatDoorCards
import Derived.Test.YtobolgmjcebfmaaGreatDoorTie
namespace Go.Proofs.YtobolgmjcebfmaaGreatDoor.roundFused
open Go Go.ChangeShapes Go.WideShapes Go.ChangeAt Go.RowKit Go.Proofs.YtobolgmjcebfmaaGreatDoor Go.Proofs.YtobolgmjcebfmaaGreatDoor.M
set_option linter.unusedSimpArgs false
set_option linter.unusedVariables false

set_option maxRecDepth 100000 in
set_option maxHeartbeats 8000000 in
theorem walk (a b way : Int) (w : World) (ra : rng a) (rb : rng b) (rw : rng way) (H : Hold4 w) :
    Calls Tryz.prog 3 #[.int .i64 a, .int .i64 b, .int .i64 way] w fun e w' => e = .returned (.bool true) ∧ Below w.heap.size w w' := by
  obtain ⟨k, hk, hk0⟩ := way3F rw
  have CA : Hid (∀ W, Hold4 W → _) := fun W H => add_A (way := k) ra rb hk0 H
  rw [fused_add (way := k) ra rb] at CA
  have CF : Hid (∀ W, Hold4 W → _) := fun W H => fma_A (way := k) ra (b := 4607182418800017408) (by unfold rng; omega) rb hk0 H
  have CM : Hid (∀ W, Hold4 W → _) := fun W H => mul_A (way := k) ra rb hk0 H
  have CG : Hid (∀ W, Hold4 W → _) := fun W H => fma_A (way := k) ra rb (c := (-9223372036854775808)) (by unfold rng; omega) hk0 H
  have CL : Hid (∀ r W, rng r → Hold4 W → _) := fun r W hr H => fma_A (way := 0) ra rb (c := r) hr (by omega) H
  have rp := mulP_rng (way := k) ra rb
  have hD := fused_mul (way := k) ra rb
  have hE : Hid (pok a = true → pok b = true → _) := fun pa pb => fused_end (k := k) ra rb pa pb rp
  have hP : Hid (pok a = true → pok b = true → _) := fun pa pb => prV_parts ra rb pa pb
  generalize fmaP k a 4607182418800017408 b = s at CA CF
  generalize mulP k a b = p at *
  generalize fmaP k a b (-9223372036854775808) = g at *
  have cla := cls_range a
  have clb := cls_range b
  have clp := cls_range p
  go_enter Tryz.func3, Tryz.ntmps3
  go_wp2_with fail
  refine (CA.out _ H).mono ?_
  rintro _ y1 ⟨rfl, hw1⟩
  have H := H.keeps hw1
  have hb1 := bel_trans (bel_refl w) hw1
  clear CA
  go_wp2_with fail
  refine (CF.out _ H).mono ?_
  rintro _ y2 ⟨rfl, hw2⟩
  have H := H.keeps hw2
  have hb2 := bel_trans hb1 hw2
  clear CF
  go_wp2_with fail
  refine (CM.out _ H).mono ?_
  rintro _ y3 ⟨rfl, hw3⟩
  have H := H.keeps hw3
  have hb3 := bel_trans hb2 hw3
  clear CM
  go_wp2_with fail
  refine (CG.out _ H).mono ?_
  rintro _ y4 ⟨rfl, hw4⟩
  have H := H.keeps hw4
  have hb4 := bel_trans hb3 hw4
  clear CG
  go_wp2_with fail
  refine (alive4 _ H.env H.tab).mono ?_
  rintro _ y5 ⟨rfl, hw5⟩
  have H := H.keeps hw5
  have hb5 := bel_trans hb4 hw5
  go_wp2_with fail
  refine (class6 (b := p) _ H).mono ?_
  rintro _ y6 ⟨rfl, hw6⟩
  have H := H.keeps hw6
  have hb6 := bel_trans hb5 hw6
  by_cases h0 : cls p = 0
  · go_wp2_with fail
    refine (class6 (b := g) _ H).mono ?_
    rintro _ y7 ⟨rfl, hw7⟩
    have H := H.keeps hw7
    have hb7 := bel_trans hb6 hw7
    rcases hD with hD | ⟨_, hD⟩
    · subst hD
      have cq : ¬ cls p > 2 := by omega
      go_wp2_with fail
      refine (class6 (b := a) _ H).mono ?_
      rintro _ y8 ⟨rfl, hw8⟩
      have H := H.keeps hw8
      have hb8 := bel_trans hb7 hw8
      by_cases ca : cls a > 2
      · go_wp2
        all_goals go_ret
        all_goals exact ⟨rfl, hb8⟩
      · go_wp2_with fail
        refine (class6 (b := b) _ H).mono ?_
        rintro _ y9 ⟨rfl, hw9⟩
        have H := H.keeps hw9
        have hb9 := bel_trans hb8 hw9
        by_cases cb : cls b > 2
        · go_wp2
          all_goals go_ret
          all_goals exact ⟨rfl, hb9⟩
        · go_wp2_with fail
          refine (class6 (b := p) _ H).mono ?_
          rintro _ y10 ⟨rfl, hw10⟩
          have H := H.keeps hw10
          have hb10 := bel_trans hb9 hw10
          go_wp2
          all_goals go_ret
          all_goals exact ⟨rfl, hb10⟩
    · go_wp2_with fail
      refine (class6 (b := a) _ H).mono ?_
      rintro _ y8 ⟨rfl, hw8⟩
      have H := H.keeps hw8
      have hb8 := bel_trans hb7 hw8
      by_cases ca : cls a > 2
      · go_wp2
        all_goals go_ret
        all_goals exact ⟨rfl, hb8⟩
      · go_wp2_with fail
        refine (class6 (b := b) _ H).mono ?_
        rintro _ y9 ⟨rfl, hw9⟩
        have H := H.keeps hw9
        have hb9 := bel_trans hb8 hw9
        by_cases cb : cls b > 2
        · go_wp2
          all_goals go_ret
          all_goals exact ⟨rfl, hb9⟩
        · go_wp2_with fail
          refine (class6 (b := p) _ H).mono ?_
          rintro _ y10 ⟨rfl, hw10⟩
          have H := H.keeps hw10
          have hb10 := bel_trans hb9 hw10
          go_wp2
          all_goals go_ret
          all_goals exact ⟨rfl, hb10⟩
  · obtain rfl : p = g := by rcases hD with hD | ⟨hD, _⟩; exact hD; exact absurd hD h0
    go_wp2_with fail
    refine (class6 (b := a) _ H).mono ?_
    rintro _ y7 ⟨rfl, hw7⟩
    have H := H.keeps hw7
    have hb7 := bel_trans hb6 hw7
    by_cases ca : cls a > 2
    · go_wp2
      all_goals go_ret
      all_goals exact ⟨rfl, hb7⟩
    · go_wp2_with fail
      refine (class6 (b := b) _ H).mono ?_
      rintro _ y8 ⟨rfl, hw8⟩
      have H := H.keeps hw8
      have hb8 := bel_trans hb7 hw8
      by_cases cb : cls b > 2
      · go_wp2
        all_goals go_ret
        all_goals exact ⟨rfl, hb8⟩
      · go_wp2_with fail
        refine (class6 (b := p) _ H).mono ?_
        rintro _ y9 ⟨rfl, hw9⟩
        have H := H.keeps hw9
        have hb9 := bel_trans hb8 hw9
        by_cases cp : cls p = 2
        · go_wp2_with fail
          refine (abs_B rp H).mono ?_
          rintro _ y10 ⟨rfl, hw10⟩
          have H := H.keeps hw10
          have hb10 := bel_trans hb9 hw10
          have rq := abs_rngF rp cp
          generalize hab : abs p = q at *
          go_wp2_with fail
          refine (less_B (b := 288230376151711744) rq (by unfold rng; omega)).mono ?_
          rintro _ y11 ⟨rfl, hw11⟩
          have H := H.keeps hw11
          have hb11 := bel_trans hb10 hw11
          cases hl : less q 288230376151711744
          · go_wp2_with fail
            refine (abs_B rp H).mono ?_
            rintro _ y12 ⟨rfl, hw12⟩
            have H := H.keeps hw12
            have hb12 := bel_trans hb11 hw12
            rw [hab]
            go_wp2_with fail
            refine (less_B (a := 9209861237972664320) (by unfold rng; omega) rq).mono ?_
            rintro _ y13 ⟨rfl, hw13⟩
            have H := H.keeps hw13
            have hb13 := bel_trans hb12 hw13
            cases hm : less 9209861237972664320 q
            · have pa := fin_of (a := a) (by omega)
              have pb := fin_of (a := b) (by omega)
              have pp := cls2_pok cp
              subst hab
              obtain ⟨eg, em, ee, hy, h63, hk2, hsm, rj, rf⟩ := hE.out pa pb cp hl hm
              obtain ⟨_, _, _, _, hpr⟩ := hP.out pa pb
              clear hE hP cla clb clp
              have x_B := patV_bd pa
              have y_B := patV_bd pb
              have z_B := patV_bd pp
              go_wp2_with fail
              refine (of_ok pa H).mono ?_
              rintro _ y14 ⟨v, rfl, h14⟩
              obtain ⟨x_g, x_o, x_n, x_c, x_e, rfl⟩ := dans_shape h14
              have hw14 := h14.below
              have x_D := h14.num
              have H := H.keeps hw14
              have hb14 := bel_trans hb13 hw14
              have x_k := heap_a1 y14 (.cells #[.bool x_g, .slice x_o x_n x_c, .int .i64 x_e] 31)
              have x_D := x_D.keeps (bel_alloc y14 (.cells #[.bool x_g, .slice x_o x_n x_c, .int .i64 x_e] 31))
              have H := H.keeps (bel_alloc y14 (.cells #[.bool x_g, .slice x_o x_n x_c, .int .i64 x_e] 31))
              have hb15' := bel_trans hb14 (bel_alloc y14 (.cells #[.bool x_g, .slice x_o x_n x_c, .int .i64 x_e] 31))
              go_wp2_with fail
              generalize y14.alloc (.cells #[.bool x_g, .slice x_o x_n x_c, .int .i64 x_e] 31) = x15 at x_k x_D H hb15' ⊢
              refine (of_ok pb H).mono ?_
              rintro _ y15 ⟨v, rfl, h15⟩
              obtain ⟨y_g, y_o, y_n, y_c, y_e, rfl⟩ := dans_shape h15
              have hw15 := h15.below
              have y_D := h15.num
              have H := H.keeps hw15
              have x_k := (hw15.block _ (Array.getElem?_eq_some_iff.1 x_k).1).trans x_k
              have x_D := x_D.keeps hw15
              have hb15 := bel_trans hb15' hw15
              have x_k := heap_past (.cells #[.bool y_g, .slice y_o y_n y_c, .int .i64 y_e] 31) x_k
              have y_k := heap_a1 y15 (.cells #[.bool y_g, .slice y_o y_n y_c, .int .i64 y_e] 31)
              have x_D := x_D.keeps (bel_alloc y15 (.cells #[.bool y_g, .slice y_o y_n y_c, .int .i64 y_e] 31))
              have y_D := y_D.keeps (bel_alloc y15 (.cells #[.bool y_g, .slice y_o y_n y_c, .int .i64 y_e] 31))
              have H := H.keeps (bel_alloc y15 (.cells #[.bool y_g, .slice y_o y_n y_c, .int .i64 y_e] 31))
              have hb16' := bel_trans hb15 (bel_alloc y15 (.cells #[.bool y_g, .slice y_o y_n y_c, .int .i64 y_e] 31))
              go_wp2_with fail
              generalize y15.alloc (.cells #[.bool y_g, .slice y_o y_n y_c, .int .i64 y_e] 31) = x16 at x_k y_k x_D y_D H hb16' ⊢
              refine (of_ok pp H).mono ?_
              rintro _ y16 ⟨v, rfl, h16⟩
              obtain ⟨z_g, z_o, z_n, z_c, z_e, rfl⟩ := dans_shape h16
              have hw16 := h16.below
              have z_D := h16.num
              have H := H.keeps hw16
              have x_k := (hw16.block _ (Array.getElem?_eq_some_iff.1 x_k).1).trans x_k
              have x_D := x_D.keeps hw16
              have y_k := (hw16.block _ (Array.getElem?_eq_some_iff.1 y_k).1).trans y_k
              have y_D := y_D.keeps hw16
              have hb16 := bel_trans hb16' hw16
              have x_k := heap_past (.cells #[.bool z_g, .slice z_o z_n z_c, .int .i64 z_e] 31) x_k
              have y_k := heap_past (.cells #[.bool z_g, .slice z_o z_n z_c, .int .i64 z_e] 31) y_k
              have z_k := heap_a1 y16 (.cells #[.bool z_g, .slice z_o z_n z_c, .int .i64 z_e] 31)
              have x_D := x_D.keeps (bel_alloc y16 (.cells #[.bool z_g, .slice z_o z_n z_c, .int .i64 z_e] 31))
              have y_D := y_D.keeps (bel_alloc y16 (.cells #[.bool z_g, .slice z_o z_n z_c, .int .i64 z_e] 31))
              have z_D := z_D.keeps (bel_alloc y16 (.cells #[.bool z_g, .slice z_o z_n z_c, .int .i64 z_e] 31))
              have H := H.keeps (bel_alloc y16 (.cells #[.bool z_g, .slice z_o z_n z_c, .int .i64 z_e] 31))
              have hb17' := bel_trans hb16 (bel_alloc y16 (.cells #[.bool z_g, .slice z_o z_n z_c, .int .i64 z_e] 31))
              have f_x0 := blkC x_k 0 rfl
              have f_x1 := blkC x_k 1 rfl
              have f_x2 := blkC x_k 2 rfl
              have f_y0 := blkC y_k 0 rfl
              have f_y1 := blkC y_k 1 rfl
              have f_y2 := blkC y_k 2 rfl
              go_wp2_with fail
              clear f_x0 f_x1 f_x2 f_y0 f_y1 f_y2
              generalize y16.alloc (.cells #[.bool z_g, .slice z_o z_n z_c, .int .i64 z_e] 31) = x17 at x_k y_k z_k x_D y_D z_D H hb17' ⊢
              refine (mul_B x_D y_D x_B y_B (by omega) H.tab).mono ?_
              rintro _ y17 ⟨v, t_V, rfl, h17, t_E, t_B⟩
              obtain ⟨t_g, t_o, t_n, t_c, t_e, rfl⟩ := dans_shape h17
              have hw17 := h17.below
              have t_D := h17.num
              have H := H.keeps hw17
              have x_k := (hw17.block _ (Array.getElem?_eq_some_iff.1 x_k).1).trans x_k
              have x_D := x_D.keeps hw17
              have y_k := (hw17.block _ (Array.getElem?_eq_some_iff.1 y_k).1).trans y_k
              have y_D := y_D.keeps hw17
              have z_k := (hw17.block _ (Array.getElem?_eq_some_iff.1 z_k).1).trans z_k
              have z_D := z_D.keeps hw17
              have hb17 := bel_trans hb17' hw17
              obtain rfl := scale_injF t_E hpr
              clear t_E hpr
              have x_k := heap_past (.cells #[.bool t_g, .slice t_o t_n t_c, .int .i64 t_e] 31) x_k
              have y_k := heap_past (.cells #[.bool t_g, .slice t_o t_n t_c, .int .i64 t_e] 31) y_k
              have z_k := heap_past (.cells #[.bool t_g, .slice t_o t_n t_c, .int .i64 t_e] 31) z_k
              have t_k := heap_a1 y17 (.cells #[.bool t_g, .slice t_o t_n t_c, .int .i64 t_e] 31)
              have x_D := x_D.keeps (bel_alloc y17 (.cells #[.bool t_g, .slice t_o t_n t_c, .int .i64 t_e] 31))
              have y_D := y_D.keeps (bel_alloc y17 (.cells #[.bool t_g, .slice t_o t_n t_c, .int .i64 t_e] 31))
              have z_D := z_D.keeps (bel_alloc y17 (.cells #[.bool t_g, .slice t_o t_n t_c, .int .i64 t_e] 31))
              have t_D := t_D.keeps (bel_alloc y17 (.cells #[.bool t_g, .slice t_o t_n t_c, .int .i64 t_e] 31))
              have H := H.keeps (bel_alloc y17 (.cells #[.bool t_g, .slice t_o t_n t_c, .int .i64 t_e] 31))
              have hb18' := bel_trans hb17 (bel_alloc y17 (.cells #[.bool t_g, .slice t_o t_n t_c, .int .i64 t_e] 31))
              have f_z0 := blkC z_k 0 rfl
              have f_z1 := blkC z_k 1 rfl
              have f_z2 := blkC z_k 2 rfl
              go_wp2_with fail
              clear f_z0 f_z1 f_z2
              generalize y17.alloc (.cells #[.bool t_g, .slice t_o t_n t_c, .int .i64 t_e] 31) = x18 at x_k y_k z_k t_k x_D y_D z_D t_D H hb18' ⊢
              refine (sub_B t_D z_D t_B (z_B.up (by omega) (by omega)) (by omega) H.tab).mono ?_
              rintro _ y18 ⟨v, rfl, h18⟩
              obtain ⟨d_g, d_o, d_n, d_c, d_e, rfl⟩ := dans_shape h18
              have hw18 := h18.below
              have d_D := h18.num
              have H := H.keeps hw18
              have x_k := (hw18.block _ (Array.getElem?_eq_some_iff.1 x_k).1).trans x_k
              have x_D := x_D.keeps hw18
              have y_k := (hw18.block _ (Array.getElem?_eq_some_iff.1 y_k).1).trans y_k
              have y_D := y_D.keeps hw18
              have z_k := (hw18.block _ (Array.getElem?_eq_some_iff.1 z_k).1).trans z_k
              have z_D := z_D.keeps hw18
              have t_k := (hw18.block _ (Array.getElem?_eq_some_iff.1 t_k).1).trans t_k
              have t_D := t_D.keeps hw18
              have hb18 := bel_trans hb18' hw18
              have d_B := t_B.add (Bd.neg (z_B.up (C := 8000) (by omega) (by omega))) (by omega)
              rw [← Int.sub_eq_add_neg] at d_B
              have x_k := heap_past (.cells #[.bool d_g, .slice d_o d_n d_c, .int .i64 d_e] 31) x_k
              have y_k := heap_past (.cells #[.bool d_g, .slice d_o d_n d_c, .int .i64 d_e] 31) y_k
              have z_k := heap_past (.cells #[.bool d_g, .slice d_o d_n d_c, .int .i64 d_e] 31) z_k
              have t_k := heap_past (.cells #[.bool d_g, .slice d_o d_n d_c, .int .i64 d_e] 31) t_k
              have d_k := heap_a1 y18 (.cells #[.bool d_g, .slice d_o d_n d_c, .int .i64 d_e] 31)
              have x_D := x_D.keeps (bel_alloc y18 (.cells #[.bool d_g, .slice d_o d_n d_c, .int .i64 d_e] 31))
              have y_D := y_D.keeps (bel_alloc y18 (.cells #[.bool d_g, .slice d_o d_n d_c, .int .i64 d_e] 31))
              have z_D := z_D.keeps (bel_alloc y18 (.cells #[.bool d_g, .slice d_o d_n d_c, .int .i64 d_e] 31))
              have t_D := t_D.keeps (bel_alloc y18 (.cells #[.bool d_g, .slice d_o d_n d_c, .int .i64 d_e] 31))
              have d_D := d_D.keeps (bel_alloc y18 (.cells #[.bool d_g, .slice d_o d_n d_c, .int .i64 d_e] 31))
              have H := H.keeps (bel_alloc y18 (.cells #[.bool d_g, .slice d_o d_n d_c, .int .i64 d_e] 31))
              have hb19' := bel_trans hb18 (bel_alloc y18 (.cells #[.bool d_g, .slice d_o d_n d_c, .int .i64 d_e] 31))
              go_wp2_with fail
              generalize y18.alloc (.cells #[.bool d_g, .slice d_o d_n d_c, .int .i64 d_e] 31) = x19 at x_k y_k z_k t_k d_k x_D y_D z_D t_D d_D H hb19' ⊢
              refine (neg_Bb rp H).mono ?_
              rintro _ y19 ⟨rfl, hw19⟩
              have H := H.keeps hw19
              have x_k := (hw19.block _ (Array.getElem?_eq_some_iff.1 x_k).1).trans x_k
              have x_D := x_D.keeps hw19
              have y_k := (hw19.block _ (Array.getElem?_eq_some_iff.1 y_k).1).trans y_k
              have y_D := y_D.keeps hw19
              have z_k := (hw19.block _ (Array.getElem?_eq_some_iff.1 z_k).1).trans z_k
              have z_D := z_D.keeps hw19
              have t_k := (hw19.block _ (Array.getElem?_eq_some_iff.1 t_k).1).trans t_k
              have t_D := t_D.keeps hw19
              have d_k := (hw19.block _ (Array.getElem?_eq_some_iff.1 d_k).1).trans d_k
              have d_D := d_D.keeps hw19
              have hb19 := bel_trans hb19' hw19
              go_wp2_with fail
              refine (CL.out (neg p) _ (neg_rng rp) H).mono ?_
              rintro _ y20 ⟨rfl, hw20⟩
              have H := H.keeps hw20
              have x_k := (hw20.block _ (Array.getElem?_eq_some_iff.1 x_k).1).trans x_k
              have x_D := x_D.keeps hw20
              have y_k := (hw20.block _ (Array.getElem?_eq_some_iff.1 y_k).1).trans y_k
              have y_D := y_D.keeps hw20
              have z_k := (hw20.block _ (Array.getElem?_eq_some_iff.1 z_k).1).trans z_k
              have z_D := z_D.keeps hw20
              have t_k := (hw20.block _ (Array.getElem?_eq_some_iff.1 t_k).1).trans t_k
              have t_D := t_D.keeps hw20
              have d_k := (hw20.block _ (Array.getElem?_eq_some_iff.1 d_k).1).trans d_k
              have d_D := d_D.keeps hw20
              have hb20 := bel_trans hb19 hw20
              have f_d0 := blkC d_k 0 rfl
              have f_d1 := blkC d_k 1 rfl
              have f_d2 := blkC d_k 2 rfl
              go_wp2_with fail
              clear f_d0 f_d1 f_d2
              refine (float_yes d_D (d_B.ok (by omega)) H.lay H.tab hy h63 hk2).mono ?_
              rintro _ y21 ⟨rfl, hw21⟩
              have H := H.keeps hw21
              have x_k := (hw21.block _ (Array.getElem?_eq_some_iff.1 x_k).1).trans x_k
              have x_D := x_D.keeps hw21
              have y_k := (hw21.block _ (Array.getElem?_eq_some_iff.1 y_k).1).trans y_k
              have y_D := y_D.keeps hw21
              have z_k := (hw21.block _ (Array.getElem?_eq_some_iff.1 z_k).1).trans z_k
              have z_D := z_D.keeps hw21
              have t_k := (hw21.block _ (Array.getElem?_eq_some_iff.1 t_k).1).trans t_k
              have t_D := t_D.keeps hw21
              have d_k := (hw21.block _ (Array.getElem?_eq_some_iff.1 d_k).1).trans d_k
              have d_D := d_D.keeps hw21
              have hb21 := bel_trans hb20 hw21
              generalize fmaP 0 a b (neg p) = l at *
              generalize jp eg em ee = r at *
              have CS : Hid (∀ W, Calls Tryz.prog 16 #[.int .i64 l, .int .i64 r] W fun e w' => e = .returned (.bool true) ∧ Below W.heap.size W w') := fun W => by have := same_B (w := W) rf rj; rwa [hsm] at this
              go_wp2_with fail
              refine (CS.out _).mono ?_
              rintro _ y22 ⟨rfl, hw22⟩
              have H := H.keeps hw22
              have x_k := (hw22.block _ (Array.getElem?_eq_some_iff.1 x_k).1).trans x_k
              have x_D := x_D.keeps hw22
              have y_k := (hw22.block _ (Array.getElem?_eq_some_iff.1 y_k).1).trans y_k
              have y_D := y_D.keeps hw22
              have z_k := (hw22.block _ (Array.getElem?_eq_some_iff.1 z_k).1).trans z_k
              have z_D := z_D.keeps hw22
              have t_k := (hw22.block _ (Array.getElem?_eq_some_iff.1 t_k).1).trans t_k
              have t_D := t_D.keeps hw22
              have d_k := (hw22.block _ (Array.getElem?_eq_some_iff.1 d_k).1).trans d_k
              have d_D := d_D.keeps hw22
              have hb22 := bel_trans hb21 hw22
              go_wp2
              all_goals go_ret
              all_goals exact ⟨rfl, hb22⟩
            · go_wp2
              all_goals go_ret
              all_goals exact ⟨rfl, hb13⟩
          · go_wp2
            all_goals go_ret
            all_goals exact ⟨rfl, hb11⟩
        · go_wp2
          all_goals go_ret
          all_goals exact ⟨rfl, hb9⟩
theorem own : ownKnob Tryz.prog.godebug = none := by kernel_rfl
theorem laidOut : laidOutB Tryz.prog = true := by kernel_rfl
theorem door_met (os : Os) (args : Array Value) : laidMetH Tryz.prog Rows.roundFusedRow.laid ((World.doorLaid Tryz.prog 400 os).forCall (fun _ _ => 0) ⟨#[], args, []⟩).memory :=
  laidMetH_of_parts3 (fuel := 8) (laidMet_of_run' 8 (by kernel_rfl) (by kernel_rfl)) (by kernel_rfl) (by kernel_rfl)
set_option maxRecDepth 100000 in
theorem lifted (os : Os) (started : os.Started) (H : Type) (enc : TypeId × Value → H) :
    ReturnsInHanded {} Tryz.checked os 3 .any (fun w args => (Rows.roundFusedSpec.pre enc Tryz.prog Tryz.f3 [] false w args ∧ laidMetH Tryz.prog Rows.roundFusedRow.laid w) ∧ sizedMet enc Tryz.prog Tryz.f3 (OpenSpec.ofChange Rows.roundFusedSpec) false w args)
      (Rows.roundFusedSpec.post enc Tryz.prog Tryz.f3 false true false false) := by
  refine returnsInHanded_of_change_and (C := Tryz.checked) (X := fun w _ => laidMetH Tryz.prog Rows.roundFusedRow.laid w) (fun _ _ _ hh h => h.of_heap hh) own started (by kernel_rfl) Tryz.func3
    (ChangeSpec.witness_shaped (enc := enc) (C := Tryz.checked) (os := os) (X := fun w _ => laidMetH Tryz.prog Rows.roundFusedRow.laid w) false (World.doorLaid Tryz.prog 400 os) #[.int .i64 0, .int .i64 0, .int .i64 0] 8 rfl (World.shaped_of_RefB (by kernel_rfl) (by kernel_rfl)) (by kernel_rfl) (by kernel_rfl) (by kernel_rfl) (door_met os _)) ?_
  intro W base args ds gs before hval0 hW _ _ hL _
  have hval : ∀ (j : Nat) t v, Tryz.f3.params[j]? = some t → args[j]? = some v → Value.okWide Tryz.prog W .any base t v := hval0
  have hW' := hW
  obtain ⟨p, q, hA0, hV, rfl, hfz, hnd⟩ := hW
  have hA : DataW.TrodAll enc Tryz.prog W 0 (fun _ => true) true Tryz.f3.params.toList args.toList ds p := hA0
  rw [Tryz.params3] at hA hval
  obtain ⟨v0, vs0, d0, ds0, p0, q0, hargs, rfl, rfl, h0, r0⟩ := trodAll_cons hA
  obtain ⟨v1, vs1, d1, ds1, p1, q1, rfl, rfl, rfl, h1, r1⟩ := trodAll_cons r0
  obtain ⟨v2, vs2, d2, ds2, p2, q2, rfl, rfl, rfl, h2, r2⟩ := trodAll_cons r1
  obtain ⟨rfl, rfl, rfl⟩ := trodAll_nil r2
  obtain rfl : args = #[v0, v1, v2] := by cases args; simp_all
  obtain ⟨rfl, rfl⟩ := trodVars_none hV
  obtain ⟨a0, rfl, rfl, rfl, w0⟩ := open_int Tryz.underlying3 (hval 0 3 v0 rfl rfl) h0
  obtain ⟨a1, rfl, rfl, rfl, w1⟩ := open_int Tryz.underlying3 (hval 1 3 v1 rfl rfl) h1
  obtain ⟨a2, rfl, rfl, rfl, w2⟩ := open_int Tryz.underlying3 (hval 2 3 v2 rfl rfl) h2
  clear hA0 hval0
  refine (walk a0 a1 a2 W (rng_of w0) (rng_of w1) (rng_of w2) (hold4_of hL)).mono fun e W' ⟨he, bel⟩ => ?_
  subst he
  exact ⟨_, rfl, _, _, _, [], _, [], hW', trodAll_mk1 (shut_bool Tryz.underlying4 _), (trodAll_cons_mk (shut_int Tryz.underlying3 w0) (trodAll_cons_mk (shut_int Tryz.underlying3 w1) (trodAll_cons_mk (shut_int Tryz.underlying3 w2) trodAll_mk0))), rfl, bel.frame _, fun h => by cases h⟩
theorem said : Rows.RoundFusedSaid :=
  OpenClaim.holds_of_wide 3 Tryz.f3 rfl rfl rfl rfl rfl rfl rfl ⟨rfl, rfl, rfl, rfl, rfl⟩ rfl rfl rfl rfl rfl (by kernel_rfl) Tryz.func3 (by kernel_rfl)
    (of_decide_eq_true (by kernel_rfl)) (by unfold Func.isWrapper; first | (rw [if_pos (by decide +kernel)]; kernel_rfl) | (rw [if_neg (by decide +kernel)]; exact ⟨rfl, rfl⟩))
    (fun os started H enc _ => lifted os started H enc)
theorem plain (f : FuncId) (fn : Func) (hf : Tryz.pinned.checked.prog.funcNamed Tryz.f3.name = some f) (hfn : Tryz.pinned.checked.prog.funcs[f]? = some fn) :
    true = Tryz.pinned.checked.prog.looks [] ∧ ∀ (j : Nat) t, fn.params[j]? = some t → Tryz.pinned.checked.prog.wantsStandIn t = false := by
  obtain rfl : f = 3 := Option.some.inj ((show Tryz.prog.funcNamed Tryz.f3.name = some 3 by kernel_rfl).symm.trans hf) |>.symm
  obtain rfl : fn = Tryz.f3 := (Option.some.inj (Tryz.func3.symm.trans hfn)).symm
  refine ⟨by kernel_rfl, fun j t ht => ?_⟩
  rw [Tryz.params3] at ht
  obtain rfl : t = 3 := by simpa using Array.mem_of_getElem? ht
  exact (show Tryz.prog.wantsStandIn 3 = false by kernel_rfl)
/-- THE CARD. -/
theorem card : Rows.RoundFusedCardSaid :=
  Claim7.holds_tied_plain_at .later [] _ _ _ _ said (fun _ h => by cases h) (by kernel_rfl) (fun _ h => by cases h) roundFused_row_tie rfl ⟨rfl, rfl⟩ (by kernel_rfl) rfl plain (by kernel_rfl)
end Go.Proofs.YtobolgmjcebfmaaGreatDoor.roundFused
namespace Go.Proofs.YtobolgmjcebfmaaGreatDoor
/-- RoundFused: the statement as it is given. -/
theorem roundFused_holds : Rows.RoundFusedCardSaid := roundFused.card
end Go.Proofs.YtobolgmjcebfmaaGreatDoor
