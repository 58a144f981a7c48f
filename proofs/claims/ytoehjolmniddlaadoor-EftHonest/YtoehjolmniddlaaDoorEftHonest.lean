/-
  EftHonest: for any two patterns the law returns true: what is told as exact is, and what is told as not exact is not. As a card: the library's tables and the layout of package bits start as the program's text lays them.
-/
import Derived.Test.YtoehjolmniddlaaDoorPart16
import Derived.Test.YtoehjolmniddlaaDoorCards
import Derived.Test.YtoehjolmniddlaaDoorTie
namespace Go.Proofs.YtoehjolmniddlaaDoor.eftHonest
open Go Go.ChangeShapes Go.WideShapes Go.ChangeAt Go.RowKit Go.Proofs.YtoehjolmniddlaaDoor Go.Proofs.YtoehjolmniddlaaDoor.M
set_option linter.unusedSimpArgs false
set_option linter.unusedVariables false

set_option maxRecDepth 100000 in
set_option maxHeartbeats 4000000 in
theorem walk (a b : Int) (w : World) (ha : M.rng a) (hb : M.rng b) (H : Hold4 w) :
    Calls Tryd.prog 5 #[.int .i64 a, .int .i64 b] w fun e w' => e = .returned (.bool true) ∧ Below w.heap.size w w' := by
  have C1 := fun W => twoSum_any ha hb W
  have C2 : Hid (∀ W, Hold4 W → _) := fun W HW => twoProd_any ha hb W HW
  have C3 := fun W => fastTwoSum_any ha hb W
  have N1 : Hid (pok a = false ∨ pok b = false → _) := no_sum ha hb
  have HA : Hid (M.rng a) := ha
  have HB : Hid (M.rng b) := hb
  have hb0 := bel_refl w
  go_enter Tryd.func5, Tryd.ntmps5
  clear ha hb
  go_wp2_with fail
  refine (class6 (b := a) _ H).mono ?_
  rintro _ y1 ⟨rfl, hw1⟩
  have H := H.keeps hw1
  have hb1 := bel_trans hb0 hw1
  cases pa : pok a
  · have hc := cls_big pa
    obtain ⟨n1, n2, n3⟩ := N1.out (.inl pa)
    rw [n1] at C1
    rw [n2] at C3
    rw [n3] at C2
    clear N1 n1 n2 n3 HA HB
    generalize fsum (told a) (told b) = h1 at *
    generalize sL (told a) (told b) = l1 at *
    generalize fL (told a) (told b) = l2 at *
    generalize fprod (told a) (told b) = h3 at *
    generalize prL (told a) (told b) = l3 at *
    go_wp2_with fail
    refine (C1 _).mono ?_
    rintro _ y2 ⟨rfl, hw2⟩
    have H := H.keeps hw2
    have hb2 := bel_trans hb1 hw2
    go_wp2_with fail
    refine (C2.out _ H).mono ?_
    rintro _ y3 ⟨rfl, hw3⟩
    have H := H.keeps hw3
    have hb3 := bel_trans hb2 hw3
    go_wp2_with fail
    refine (C3 _).mono ?_
    rintro _ y4 ⟨rfl, hw4⟩
    have H := H.keeps hw4
    have hb4 := bel_trans hb3 hw4
    go_wp2_with fail
    refine (alive6 _ H).mono ?_
    rintro _ y5 ⟨rfl, hw5⟩
    have H := H.keeps hw5
    have hb5 := bel_trans hb4 hw5
    go_wp2
    all_goals go_ret
    all_goals exact ⟨rfl, hb5⟩
  · have hc := cls_few pa
    go_wp2_with fail
    refine (class6 (b := b) _ H).mono ?_
    rintro _ y2 ⟨rfl, hw2⟩
    have H := H.keeps hw2
    have hb2 := bel_trans hb1 hw2
    cases pb : pok b
    · have hd := cls_big pb
      obtain ⟨n1, n2, n3⟩ := N1.out (.inr pb)
      rw [n1] at C1
      rw [n2] at C3
      rw [n3] at C2
      clear N1 n1 n2 n3 HA HB
      generalize fsum (told a) (told b) = h1 at *
      generalize sL (told a) (told b) = l1 at *
      generalize fL (told a) (told b) = l2 at *
      generalize fprod (told a) (told b) = h3 at *
      generalize prL (told a) (told b) = l3 at *
      go_wp2_with fail
      refine (C1 _).mono ?_
      rintro _ y3 ⟨rfl, hw3⟩
      have H := H.keeps hw3
      have hb3 := bel_trans hb2 hw3
      go_wp2_with fail
      refine (C2.out _ H).mono ?_
      rintro _ y4 ⟨rfl, hw4⟩
      have H := H.keeps hw4
      have hb4 := bel_trans hb3 hw4
      go_wp2_with fail
      refine (C3 _).mono ?_
      rintro _ y5 ⟨rfl, hw5⟩
      have H := H.keeps hw5
      have hb5 := bel_trans hb4 hw5
      go_wp2_with fail
      refine (alive6 _ H).mono ?_
      rintro _ y6 ⟨rfl, hw6⟩
      have H := H.keeps hw6
      have hb6 := bel_trans hb5 hw6
      go_wp2
      all_goals go_ret
      all_goals exact ⟨rfl, hb6⟩
    · have hd := cls_few pb
      have ta := told_ok pa HA.out
      have tb := told_ok pb HB.out
      rw [ta, tb] at C1 C2 C3
      have s1 := hon_sum HA.out HB.out pa pb
      have s2 := hon_fast HA.out HB.out pa pb
      have s3 : Hid (∀ C, C * 2 ^ 4194304 = patV a * patV b → pX a b = tgB (fprod a b) (prL a b) C) := fun C hC => hon_prod HA.out HB.out pa pb hC
      rw [s1] at C1
      rw [s2] at C3
      clear s1 s2 ta tb N1 HA HB
      generalize fsum a b = h1 at *
      generalize sL a b = l1 at *
      generalize fL a b = l2 at *
      generalize fprod a b = h3 at *
      generalize prL a b = l3 at *
      have bS := (patV_bd pa).add (patV_bd pb) (by omega)
      go_wp2_with fail
      refine (of_ok pa H).mono ?_
      rintro _ y3 ⟨v, rfl, h3⟩
      obtain ⟨x_g, x_o, x_n, x_c, x_e, rfl⟩ := dans_shape h3
      have hw3 := h3.below
      have x_D := h3.num
      have H := H.keeps hw3
      have hb3 := bel_trans hb2 hw3
      have x_k := heap_a1 y3 (.cells #[.bool x_g, .slice x_o x_n x_c, .int .i64 x_e] 26)
      have x_D := x_D.keeps (bel_alloc y3 (.cells #[.bool x_g, .slice x_o x_n x_c, .int .i64 x_e] 26))
      have H := H.keeps (bel_alloc y3 (.cells #[.bool x_g, .slice x_o x_n x_c, .int .i64 x_e] 26))
      have hb4' := bel_trans hb3 (bel_alloc y3 (.cells #[.bool x_g, .slice x_o x_n x_c, .int .i64 x_e] 26))
      go_wp2_with fail
      generalize y3.alloc (.cells #[.bool x_g, .slice x_o x_n x_c, .int .i64 x_e] 26) = x4 at x_k x_D H hb4' ⊢
      refine (of_ok pb H).mono ?_
      rintro _ y4 ⟨v, rfl, h4⟩
      obtain ⟨y_g, y_o, y_n, y_c, y_e, rfl⟩ := dans_shape h4
      have hw4 := h4.below
      have y_D := h4.num
      have H := H.keeps hw4
      have x_k := (hw4.block _ (Array.getElem?_eq_some_iff.1 x_k).1).trans x_k
      have x_D := x_D.keeps hw4
      have hb4 := bel_trans hb4' hw4
      have x_k := heap_past (.cells #[.bool y_g, .slice y_o y_n y_c, .int .i64 y_e] 26) x_k
      have y_k := heap_a1 y4 (.cells #[.bool y_g, .slice y_o y_n y_c, .int .i64 y_e] 26)
      have x_D := x_D.keeps (bel_alloc y4 (.cells #[.bool y_g, .slice y_o y_n y_c, .int .i64 y_e] 26))
      have y_D := y_D.keeps (bel_alloc y4 (.cells #[.bool y_g, .slice y_o y_n y_c, .int .i64 y_e] 26))
      have H := H.keeps (bel_alloc y4 (.cells #[.bool y_g, .slice y_o y_n y_c, .int .i64 y_e] 26))
      have hb5' := bel_trans hb4 (bel_alloc y4 (.cells #[.bool y_g, .slice y_o y_n y_c, .int .i64 y_e] 26))
      have f_x0 := blkC x_k 0 rfl
      have f_x1 := blkC x_k 1 rfl
      have f_x2 := blkC x_k 2 rfl
      go_wp2_with fail
      clear f_x0 f_x1 f_x2
      generalize y4.alloc (.cells #[.bool y_g, .slice y_o y_n y_c, .int .i64 y_e] 26) = x5 at x_k y_k x_D y_D H hb5' ⊢
      refine (add_B x_D y_D (patV_bd pa) (patV_bd pb) (by omega) H.tab).mono ?_
      rintro _ y5 ⟨v, rfl, h5⟩
      obtain ⟨s_g, s_o, s_n, s_c, s_e, rfl⟩ := dans_shape h5
      have hw5 := h5.below
      have s_D := h5.num
      have H := H.keeps hw5
      have x_k := (hw5.block _ (Array.getElem?_eq_some_iff.1 x_k).1).trans x_k
      have x_D := x_D.keeps hw5
      have y_k := (hw5.block _ (Array.getElem?_eq_some_iff.1 y_k).1).trans y_k
      have y_D := y_D.keeps hw5
      have hb5 := bel_trans hb5' hw5
      have x_k := heap_past (.cells #[.bool s_g, .slice s_o s_n s_c, .int .i64 s_e] 26) x_k
      have y_k := heap_past (.cells #[.bool s_g, .slice s_o s_n s_c, .int .i64 s_e] 26) y_k
      have s_k := heap_a1 y5 (.cells #[.bool s_g, .slice s_o s_n s_c, .int .i64 s_e] 26)
      have x_D := x_D.keeps (bel_alloc y5 (.cells #[.bool s_g, .slice s_o s_n s_c, .int .i64 s_e] 26))
      have y_D := y_D.keeps (bel_alloc y5 (.cells #[.bool s_g, .slice s_o s_n s_c, .int .i64 s_e] 26))
      have s_D := s_D.keeps (bel_alloc y5 (.cells #[.bool s_g, .slice s_o s_n s_c, .int .i64 s_e] 26))
      have H := H.keeps (bel_alloc y5 (.cells #[.bool s_g, .slice s_o s_n s_c, .int .i64 s_e] 26))
      have hb6' := bel_trans hb5 (bel_alloc y5 (.cells #[.bool s_g, .slice s_o s_n s_c, .int .i64 s_e] 26))
      have f_x0 := blkC x_k 0 rfl
      have f_x1 := blkC x_k 1 rfl
      have f_x2 := blkC x_k 2 rfl
      have f_y0 := blkC y_k 0 rfl
      have f_y1 := blkC y_k 1 rfl
      have f_y2 := blkC y_k 2 rfl
      go_wp2_with fail
      clear f_x0 f_x1 f_x2 f_y0 f_y1 f_y2
      generalize y5.alloc (.cells #[.bool s_g, .slice s_o s_n s_c, .int .i64 s_e] 26) = x6 at x_k y_k s_k x_D y_D s_D H hb6' ⊢
      refine (mul_B x_D y_D (patV_bd pa) (patV_bd pb) (by omega) H.tab).mono ?_
      rintro _ y6 ⟨v, C, rfl, h6, hC, bC⟩
      obtain ⟨p_g, p_o, p_n, p_c, p_e, rfl⟩ := dans_shape h6
      have hw6 := h6.below
      have p_D := h6.num
      have H := H.keeps hw6
      have x_k := (hw6.block _ (Array.getElem?_eq_some_iff.1 x_k).1).trans x_k
      have x_D := x_D.keeps hw6
      have y_k := (hw6.block _ (Array.getElem?_eq_some_iff.1 y_k).1).trans y_k
      have y_D := y_D.keeps hw6
      have s_k := (hw6.block _ (Array.getElem?_eq_some_iff.1 s_k).1).trans s_k
      have s_D := s_D.keeps hw6
      have hb6 := bel_trans hb6' hw6
      have s4 := s3.out C hC
      rw [s4] at C2
      clear s3 s4 hC
      have T1 : Hid (∀ {h l : Int} {W : World}, DNum W (.agg #[.bool s_g, .slice s_o s_n s_c, .int .i64 s_e]) (patV a + patV b) → Hold4 W → Calls Tryd.prog 23 #[.int .i64 h, .int .i64 l, .agg #[.bool s_g, .slice s_o s_n s_c, .int .i64 s_e]] W fun e w' => e = .returned (.bool (tgB h l (patV a + patV b))) ∧ Below W.heap.size W w') := fun {h l W} hx HW => together_any W hx (bS.up (by omega) (by omega)) HW
      have T2 : Hid (∀ {h l : Int} {W : World}, DNum W (.agg #[.bool p_g, .slice p_o p_n p_c, .int .i64 p_e]) C → Hold4 W → Calls Tryd.prog 23 #[.int .i64 h, .int .i64 l, .agg #[.bool p_g, .slice p_o p_n p_c, .int .i64 p_e]] W fun e w' => e = .returned (.bool (tgB h l C)) ∧ Below W.heap.size W w') := fun {h l W} hx HW => together_any W hx (bC.up (by omega) (by omega)) HW
      clear bS bC
      have x_k := heap_past (.cells #[.bool p_g, .slice p_o p_n p_c, .int .i64 p_e] 26) x_k
      have y_k := heap_past (.cells #[.bool p_g, .slice p_o p_n p_c, .int .i64 p_e] 26) y_k
      have s_k := heap_past (.cells #[.bool p_g, .slice p_o p_n p_c, .int .i64 p_e] 26) s_k
      have p_k := heap_a1 y6 (.cells #[.bool p_g, .slice p_o p_n p_c, .int .i64 p_e] 26)
      have x_D := x_D.keeps (bel_alloc y6 (.cells #[.bool p_g, .slice p_o p_n p_c, .int .i64 p_e] 26))
      have y_D := y_D.keeps (bel_alloc y6 (.cells #[.bool p_g, .slice p_o p_n p_c, .int .i64 p_e] 26))
      have s_D := s_D.keeps (bel_alloc y6 (.cells #[.bool p_g, .slice p_o p_n p_c, .int .i64 p_e] 26))
      have p_D := p_D.keeps (bel_alloc y6 (.cells #[.bool p_g, .slice p_o p_n p_c, .int .i64 p_e] 26))
      have H := H.keeps (bel_alloc y6 (.cells #[.bool p_g, .slice p_o p_n p_c, .int .i64 p_e] 26))
      have hb7' := bel_trans hb6 (bel_alloc y6 (.cells #[.bool p_g, .slice p_o p_n p_c, .int .i64 p_e] 26))
      go_wp2_with fail
      generalize y6.alloc (.cells #[.bool p_g, .slice p_o p_n p_c, .int .i64 p_e] 26) = x7 at x_k y_k s_k p_k x_D y_D s_D p_D H hb7' ⊢
      refine (C1 _).mono ?_
      rintro _ y7 ⟨rfl, hw7⟩
      have H := H.keeps hw7
      have x_k := (hw7.block _ (Array.getElem?_eq_some_iff.1 x_k).1).trans x_k
      have x_D := x_D.keeps hw7
      have y_k := (hw7.block _ (Array.getElem?_eq_some_iff.1 y_k).1).trans y_k
      have y_D := y_D.keeps hw7
      have s_k := (hw7.block _ (Array.getElem?_eq_some_iff.1 s_k).1).trans s_k
      have s_D := s_D.keeps hw7
      have p_k := (hw7.block _ (Array.getElem?_eq_some_iff.1 p_k).1).trans p_k
      have p_D := p_D.keeps hw7
      have hb7 := bel_trans hb7' hw7
      go_wp2_with fail
      refine (alive6 _ H).mono ?_
      rintro _ y8 ⟨rfl, hw8⟩
      have H := H.keeps hw8
      have x_k := (hw8.block _ (Array.getElem?_eq_some_iff.1 x_k).1).trans x_k
      have x_D := x_D.keeps hw8
      have y_k := (hw8.block _ (Array.getElem?_eq_some_iff.1 y_k).1).trans y_k
      have y_D := y_D.keeps hw8
      have s_k := (hw8.block _ (Array.getElem?_eq_some_iff.1 s_k).1).trans s_k
      have s_D := s_D.keeps hw8
      have p_k := (hw8.block _ (Array.getElem?_eq_some_iff.1 p_k).1).trans p_k
      have p_D := p_D.keeps hw8
      have hb8 := bel_trans hb7 hw8
      have f_s0 := blkC s_k 0 rfl
      have f_s1 := blkC s_k 1 rfl
      have f_s2 := blkC s_k 2 rfl
      go_wp2_with fail
      clear f_s0 f_s1 f_s2
      refine (T1.out s_D H).mono ?_
      rintro _ y9 ⟨rfl, hw9⟩
      have H := H.keeps hw9
      have x_k := (hw9.block _ (Array.getElem?_eq_some_iff.1 x_k).1).trans x_k
      have x_D := x_D.keeps hw9
      have y_k := (hw9.block _ (Array.getElem?_eq_some_iff.1 y_k).1).trans y_k
      have y_D := y_D.keeps hw9
      have s_k := (hw9.block _ (Array.getElem?_eq_some_iff.1 s_k).1).trans s_k
      have s_D := s_D.keeps hw9
      have p_k := (hw9.block _ (Array.getElem?_eq_some_iff.1 p_k).1).trans p_k
      have p_D := p_D.keeps hw9
      have hb9 := bel_trans hb8 hw9
      go_wp2_with fail
      refine (C3 _).mono ?_
      rintro _ y10 ⟨rfl, hw10⟩
      have H := H.keeps hw10
      have x_k := (hw10.block _ (Array.getElem?_eq_some_iff.1 x_k).1).trans x_k
      have x_D := x_D.keeps hw10
      have y_k := (hw10.block _ (Array.getElem?_eq_some_iff.1 y_k).1).trans y_k
      have y_D := y_D.keeps hw10
      have s_k := (hw10.block _ (Array.getElem?_eq_some_iff.1 s_k).1).trans s_k
      have s_D := s_D.keeps hw10
      have p_k := (hw10.block _ (Array.getElem?_eq_some_iff.1 p_k).1).trans p_k
      have p_D := p_D.keeps hw10
      have hb10 := bel_trans hb9 hw10
      have f_s0 := blkC s_k 0 rfl
      have f_s1 := blkC s_k 1 rfl
      have f_s2 := blkC s_k 2 rfl
      go_wp2_with fail
      clear f_s0 f_s1 f_s2
      refine (T1.out s_D H).mono ?_
      rintro _ y11 ⟨rfl, hw11⟩
      have H := H.keeps hw11
      have x_k := (hw11.block _ (Array.getElem?_eq_some_iff.1 x_k).1).trans x_k
      have x_D := x_D.keeps hw11
      have y_k := (hw11.block _ (Array.getElem?_eq_some_iff.1 y_k).1).trans y_k
      have y_D := y_D.keeps hw11
      have s_k := (hw11.block _ (Array.getElem?_eq_some_iff.1 s_k).1).trans s_k
      have s_D := s_D.keeps hw11
      have p_k := (hw11.block _ (Array.getElem?_eq_some_iff.1 p_k).1).trans p_k
      have p_D := p_D.keeps hw11
      have hb11 := bel_trans hb10 hw11
      go_wp2_with fail
      refine (C2.out _ H).mono ?_
      rintro _ y12 ⟨rfl, hw12⟩
      have H := H.keeps hw12
      have x_k := (hw12.block _ (Array.getElem?_eq_some_iff.1 x_k).1).trans x_k
      have x_D := x_D.keeps hw12
      have y_k := (hw12.block _ (Array.getElem?_eq_some_iff.1 y_k).1).trans y_k
      have y_D := y_D.keeps hw12
      have s_k := (hw12.block _ (Array.getElem?_eq_some_iff.1 s_k).1).trans s_k
      have s_D := s_D.keeps hw12
      have p_k := (hw12.block _ (Array.getElem?_eq_some_iff.1 p_k).1).trans p_k
      have p_D := p_D.keeps hw12
      have hb12 := bel_trans hb11 hw12
      have f_p0 := blkC p_k 0 rfl
      have f_p1 := blkC p_k 1 rfl
      have f_p2 := blkC p_k 2 rfl
      go_wp2_with fail
      clear f_p0 f_p1 f_p2
      refine (T2.out p_D H).mono ?_
      rintro _ y13 ⟨rfl, hw13⟩
      have H := H.keeps hw13
      have x_k := (hw13.block _ (Array.getElem?_eq_some_iff.1 x_k).1).trans x_k
      have x_D := x_D.keeps hw13
      have y_k := (hw13.block _ (Array.getElem?_eq_some_iff.1 y_k).1).trans y_k
      have y_D := y_D.keeps hw13
      have s_k := (hw13.block _ (Array.getElem?_eq_some_iff.1 s_k).1).trans s_k
      have s_D := s_D.keeps hw13
      have p_k := (hw13.block _ (Array.getElem?_eq_some_iff.1 p_k).1).trans p_k
      have p_D := p_D.keeps hw13
      have hb13 := bel_trans hb12 hw13
      go_wp2
      all_goals go_ret
      all_goals exact ⟨by simp, hb13⟩
theorem own : ownKnob Tryd.prog.godebug = none := by kernel_rfl
theorem laidOut : laidOutB Tryd.prog = true := by kernel_rfl
theorem door_met (os : Os) (args : Array Value) : laidMetH Tryd.prog Rows.eftHonestRow.laid ((World.doorLaid Tryd.prog 400 os).forCall (fun _ _ => 0) ⟨#[], args, []⟩).memory :=
  laidMetH_of_parts3 (fuel := 8) (laidMet_of_run' 8 (by kernel_rfl) (by kernel_rfl)) (by kernel_rfl) (by kernel_rfl)
set_option maxRecDepth 100000 in
theorem lifted (os : Os) (started : os.Started) (H : Type) (enc : TypeId × Value → H) :
    ReturnsInHanded {} Tryd.checked os 5 .any (fun w args => (Rows.eftHonestSpec.pre enc Tryd.prog Tryd.f5 [] false w args ∧ laidMetH Tryd.prog Rows.eftHonestRow.laid w) ∧ sizedMet enc Tryd.prog Tryd.f5 (OpenSpec.ofChange Rows.eftHonestSpec) false w args)
      (Rows.eftHonestSpec.post enc Tryd.prog Tryd.f5 false true false false) := by
  refine returnsInHanded_of_change_and (C := Tryd.checked) (X := fun w _ => laidMetH Tryd.prog Rows.eftHonestRow.laid w) (fun _ _ _ hh h => h.of_heap hh) own started (by kernel_rfl) Tryd.func5
    (ChangeSpec.witness_shaped (enc := enc) (C := Tryd.checked) (os := os) (X := fun w _ => laidMetH Tryd.prog Rows.eftHonestRow.laid w) false (World.doorLaid Tryd.prog 400 os) #[.int .i64 0, .int .i64 0] 8 rfl (World.shaped_of_RefB (by kernel_rfl) (by kernel_rfl)) (by kernel_rfl) (by kernel_rfl) (by kernel_rfl) (door_met os _)) ?_
  intro W base args ds gs before hval0 hW _ _ hL _
  have hval : ∀ (j : Nat) t v, Tryd.f5.params[j]? = some t → args[j]? = some v → Value.okWide Tryd.prog W .any base t v := hval0
  have hW' := hW
  obtain ⟨p, q, hA0, hV, rfl, hfz, hnd⟩ := hW
  have hA : DataW.TrodAll enc Tryd.prog W 0 (fun _ => true) true Tryd.f5.params.toList args.toList ds p := hA0
  rw [Tryd.params5] at hA hval
  obtain ⟨v0, vs0, d0, ds0, p0, q0, hargs, rfl, rfl, h0, r0⟩ := trodAll_cons hA
  obtain ⟨v1, vs1, d1, ds1, p1, q1, rfl, rfl, rfl, h1, r1⟩ := trodAll_cons r0
  obtain ⟨rfl, rfl, rfl⟩ := trodAll_nil r1
  obtain rfl : args = #[v0, v1] := by cases args; simp_all
  obtain ⟨rfl, rfl⟩ := trodVars_none hV
  obtain ⟨a0, rfl, rfl, rfl, w0⟩ := open_int Tryd.underlying3 (hval 0 3 v0 rfl rfl) h0
  obtain ⟨a1, rfl, rfl, rfl, w1⟩ := open_int Tryd.underlying3 (hval 1 3 v1 rfl rfl) h1
  clear hA0 hval0
  refine (walk a0 a1 W (rng_of w0) (rng_of w1) (hold6_of hL)).mono fun e W' ⟨he, bel⟩ => ?_
  subst he
  exact ⟨_, rfl, _, _, _, [], _, [], hW', trodAll_mk1 (shut_bool Tryd.underlying4 _), (trodAll_cons_mk (shut_int Tryd.underlying3 w0) (trodAll_cons_mk (shut_int Tryd.underlying3 w1) trodAll_mk0)), rfl, bel.frame _, fun h => by cases h⟩
theorem said : Rows.EftHonestSaid :=
  OpenClaim.holds_of_wide 5 Tryd.f5 rfl rfl rfl rfl rfl rfl rfl ⟨rfl, rfl, rfl, rfl, rfl⟩ rfl rfl rfl rfl rfl (by kernel_rfl) Tryd.func5 (by kernel_rfl)
    (of_decide_eq_true (by kernel_rfl)) (by unfold Func.isWrapper; first | (rw [if_pos (by decide +kernel)]; kernel_rfl) | (rw [if_neg (by decide +kernel)]; exact ⟨rfl, rfl⟩))
    (fun os started H enc _ => lifted os started H enc)
theorem plain (f : FuncId) (fn : Func) (hf : Tryd.pinned.checked.prog.funcNamed Tryd.f5.name = some f) (hfn : Tryd.pinned.checked.prog.funcs[f]? = some fn) :
    true = Tryd.pinned.checked.prog.looks [] ∧ ∀ (j : Nat) t, fn.params[j]? = some t → Tryd.pinned.checked.prog.wantsStandIn t = false := by
  obtain rfl : f = 5 := Option.some.inj ((show Tryd.prog.funcNamed Tryd.f5.name = some 5 by kernel_rfl).symm.trans hf) |>.symm
  obtain rfl : fn = Tryd.f5 := (Option.some.inj (Tryd.func5.symm.trans hfn)).symm
  refine ⟨by kernel_rfl, fun j t ht => ?_⟩
  rw [Tryd.params5] at ht
  obtain rfl : t = 3 := by simpa using Array.mem_of_getElem? ht
  exact (show Tryd.prog.wantsStandIn 3 = false by kernel_rfl)
/-- THE CARD. -/
theorem card : Rows.EftHonestCardSaid :=
  Claim7.holds_tied_plain_at .later [] _ _ _ _ said (fun _ h => by cases h) (by kernel_rfl) (fun _ h => by cases h) eftHonest_row_tie rfl ⟨rfl, rfl⟩ (by kernel_rfl) rfl plain (by kernel_rfl)
end Go.Proofs.YtoehjolmniddlaaDoor.eftHonest
namespace Go.Proofs.YtoehjolmniddlaaDoor
/-- EftHonest: the statement as it is given. -/
theorem eftHonest_holds : Rows.EftHonestCardSaid := eftHonest.card
end Go.Proofs.YtoehjolmniddlaaDoor
