/-
  EftPremise: for any two patterns the law returns true: wherever the premises hold the answers are exact, and the greater one is the nearest float. As a card: the library's tables and the layout of package bits start as the program's text lays them.
-/
import Derived.Test.YtoehjolmniddlaaDoorPart16
import Derived.Test.YtoehjolmniddlaaDoorCards
import Derived.Test.YtoehjolmniddlaaDoorTie
namespace Go.Proofs.YtoehjolmniddlaaDoor.eftPremise
open Go Go.ChangeShapes Go.WideShapes Go.ChangeAt Go.RowKit Go.Proofs.YtoehjolmniddlaaDoor Go.Proofs.YtoehjolmniddlaaDoor.M
set_option linter.unusedSimpArgs false
set_option linter.unusedVariables false

theorem same6 {h n : Int} (rh : M.rng h) (rn : M.rng n) (e : same h n = true) (W : World) : Calls Tryd.prog 14 #[.int .i64 h, .int .i64 n] W fun r w' => r = .returned (.bool true) ∧ Below W.heap.size W w' := by
  refine (bitsSame h n W rh rn).mono ?_
  rintro r w' ⟨rfl, rfl⟩
  exact ⟨by rw [e], bel_refl _⟩
theorem abs6 {a : Int} (ha : M.rng a) {W : World} (H : Hold4 W) : Calls Tryd.prog 16 #[.int .i64 a] W fun r w' => r = .returned (.int .i64 (M.abs a)) ∧ Below W.heap.size W w' := by
  refine (bitsAbs a W H.env.lays ha).mono ?_
  rintro r w' ⟨h, g⟩
  exact ⟨h, g.be⟩
theorem less6 {a b : Int} {R : Bool} (ha : M.rng a) (hb : M.rng b) (e : less a b = R) (W : World) : Calls Tryd.prog 15 #[.int .i64 a, .int .i64 b] W fun r w' => r = .returned (.bool R) ∧ Below W.heap.size W w' := by
  refine (bitsLess1 a b W ha hb).mono ?_
  rintro r w' ⟨rfl, rfl⟩
  exact ⟨by rw [e], bel_refl _⟩
theorem join6 {W : World} (H : Hold4 W) : Calls Tryd.prog 21 #[.bool false, .int .i64 1, .int .i64 (-969)] W fun r w' => r = .returned (.tuple #[.int .i64 243194379878006784, .bool true]) ∧ Below W.heap.size W w' := by
  refine (bitsJoin false 1 (-969) W H.env (by unfold M.rng; decide) (by unfold M.rng; decide)).mono ?_
  rintro r w' ⟨h, g⟩
  exact ⟨by rw [h, show jp false 1 (-969) = 243194379878006784 by decide +kernel, show jk 52 2047 (-1074) 1 (-969) = true by decide +kernel], g.be⟩
theorem sp_996 {a : Int} (ha : M.rng a) (h : szB a 9092767647661031424 = true) : pok (spL a) = true := by
  obtain ⟨pa, ra⟩ := sz_of h
  have g0 := (rg_lt ha pa).1
  refine sp_fin ha pa (B := (V Ieee.double 9092767647661031424 : Int)) ?_ max_996
  rw [iV_abs]; exact V_le (by omega)
theorem dnum_zero {w : World} {ng : Bool} {o : Option Addr} {n c : Nat} {e V : Int} (h : DNum w (.agg #[.bool ng, .slice o n c, .int .i64 e]) V) : n = 0 ↔ V = 0 := by
  obtain ⟨ng', s, m, e', h1, hy, hN⟩ := h
  simp only [Value.agg.injEq, Array.mk.injEq, List.cons.injEq, and_true] at h1
  obtain ⟨_, h2, _⟩ := h1
  subst h2
  rw [hy.eq_zero, hN.zero]
set_option maxRecDepth 100000 in
set_option maxHeartbeats 8000000 in
theorem walk (a b : Int) (w : World) (ha : M.rng a) (hb : M.rng b) (H : Hold4 w) :
    Calls Tryd.prog 3 #[.int .i64 a, .int .i64 b] w fun e w' => e = .returned (.bool true) ∧ Below w.heap.size w w' := by
  have hb0 := bel_refl w
  have Z1 : Hid (∀ W, Hold4 W → _) := fun W HW => size_any (b := a) (k := 1023) (P := 9214364837600034816) ha (by unfold M.rng; decide) (by decide +kernel) (by decide +kernel) (by decide) (by decide) W HW
  have Z2 : Hid (∀ W, Hold4 W → _) := fun W HW => size_any (b := b) (k := 1023) (P := 9214364837600034816) hb (by unfold M.rng; decide) (by decide +kernel) (by decide +kernel) (by decide) (by decide) W HW
  have Z3 : Hid (∀ W, Hold4 W → _) := fun W HW => size_any (b := a) (k := 996) (P := 9092767647661031424) ha (by unfold M.rng; decide) (by decide +kernel) (by decide +kernel) (by decide) (by decide) W HW
  have Z4 : Hid (∀ W, Hold4 W → _) := fun W HW => size_any (b := b) (k := 996) (P := 9092767647661031424) hb (by unfold M.rng; decide) (by decide +kernel) (by decide +kernel) (by decide) (by decide) W HW
  have Z5 : Hid (∀ W, Hold4 W → _) := fun W HW => size_any (b := fprod a b) (k := 1023) (P := 9214364837600034816) (fprod_rng ha hb) (by unfold M.rng; decide) (by decide +kernel) (by decide +kernel) (by decide) (by decide) W HW
  have C1 := fun W => twoSum_any ha hb W
  have C2 : Hid (∀ W, Hold4 W → _) := fun W HW => twoDiff_any ha hb W HW.env.lays
  have C3 := fun W => fastTwoSum_any ha hb W
  have C4 : Hid (∀ W, Hold4 W → _) := fun W HW => twoProd_any ha hb W HW
  have C5 := fun W => esplitF_any ha W
  have HA : Hid (M.rng a) := ha
  have HB : Hid (M.rng b) := hb
  clear ha hb
  go_enter Tryd.func3, Tryd.ntmps3
  go_wp2_with fail
  refine (alive6 _ H).mono ?_
  rintro _ y1 ⟨rfl, hw1⟩
  have H := H.keeps hw1
  have hb1 := bel_trans hb0 hw1
  go_wp2_with fail
  refine (Z1.out _ H).mono ?_
  rintro _ y2 ⟨rfl, hw2⟩
  have H := H.keeps hw2
  have hb2 := bel_trans hb1 hw2
  cases hz1 : szB a 9214364837600034816
  · clear Z1 Z2 Z3 Z4 Z5 C1 C2 C3 C4 C5
    go_wp2
    all_goals go_ret
    all_goals exact ⟨rfl, hb2⟩
  · clear Z1
    go_wp2_with fail
    refine (Z2.out _ H).mono ?_
    rintro _ y3 ⟨rfl, hw3⟩
    have H := H.keeps hw3
    have hb3 := bel_trans hb2 hw3
    cases hz2 : szB b 9214364837600034816
    · clear Z2 Z3 Z4 Z5 C1 C2 C3 C4 C5
      go_wp2
      all_goals go_ret
      all_goals exact ⟨rfl, hb3⟩
    · obtain ⟨⟨pa, pb⟩, ta, tb, tn, s1, s2, f1, f2, hN, rh⟩ := prem_sum HA.out HB.out hz1 hz2
      rw [ta, tb, s1] at C1
      rw [ta, tn, s2] at C2
      rw [ta, tb] at C3 C4
      rw [ta] at C5
      clear ta tb tn s1 s2 hz1 hz2 Z2
      have F1 : Hid (¬ rg a < rg b → fX a b = true) := f1
      have F2 : Hid (cls a = 0 → fX a b = true) := f2
      have HN : Hid ((patV a + patV b = 0 ∧ fsum a b = patS (decide (a < 0) && decide (b < 0)) 0) ∨ (patV a + patV b ≠ 0 ∧ fsum a b = nearP (patV a + patV b))) := hN
      have RH : Hid (M.rng (fsum a b)) := rh
      have L1 := fun R (e : less (M.abs a) (M.abs b) = R) => less6 (abs_rng HA.out pa) (abs_rng HB.out pb) e
      have LR : Hid (less (M.abs a) (M.abs b) = decide (rg a < rg b)) := less_rg HA.out HB.out pa pb
      clear f1 f2 hN rh
      have bS := (patV_bd pa).add (patV_bd pb) (by omega)
      generalize fsum a (M.neg b) = hd at *
      generalize sL a b = l1 at *
      generalize sL a (M.neg b) = l2 at *
      generalize fL a b = l3 at *
      generalize fX a b = F at *
      generalize fsum a b = h at *
      go_wp2_with fail
      refine (of_ok pa H).mono ?_
      rintro _ y4 ⟨v, rfl, h4⟩
      obtain ⟨x_g, x_o, x_n, x_c, x_e, rfl⟩ := dans_shape h4
      have hw4 := h4.below
      have x_D := h4.num
      have H := H.keeps hw4
      have hb4 := bel_trans hb3 hw4
      have x_k := heap_a1 y4 (.cells #[.bool x_g, .slice x_o x_n x_c, .int .i64 x_e] 26)
      have x_D := x_D.keeps (bel_alloc y4 (.cells #[.bool x_g, .slice x_o x_n x_c, .int .i64 x_e] 26))
      have H := H.keeps (bel_alloc y4 (.cells #[.bool x_g, .slice x_o x_n x_c, .int .i64 x_e] 26))
      have hb5' := bel_trans hb4 (bel_alloc y4 (.cells #[.bool x_g, .slice x_o x_n x_c, .int .i64 x_e] 26))
      go_wp2_with fail
      generalize y4.alloc (.cells #[.bool x_g, .slice x_o x_n x_c, .int .i64 x_e] 26) = x5 at x_k x_D H hb5' ⊢
      refine (of_ok pb H).mono ?_
      rintro _ y5 ⟨v, rfl, h5⟩
      obtain ⟨y_g, y_o, y_n, y_c, y_e, rfl⟩ := dans_shape h5
      have hw5 := h5.below
      have y_D := h5.num
      have H := H.keeps hw5
      have x_k := (hw5.block _ (Array.getElem?_eq_some_iff.1 x_k).1).trans x_k
      have x_D := x_D.keeps hw5
      have hb5 := bel_trans hb5' hw5
      have x_k := heap_past (.cells #[.bool y_g, .slice y_o y_n y_c, .int .i64 y_e] 26) x_k
      have y_k := heap_a1 y5 (.cells #[.bool y_g, .slice y_o y_n y_c, .int .i64 y_e] 26)
      have x_D := x_D.keeps (bel_alloc y5 (.cells #[.bool y_g, .slice y_o y_n y_c, .int .i64 y_e] 26))
      have y_D := y_D.keeps (bel_alloc y5 (.cells #[.bool y_g, .slice y_o y_n y_c, .int .i64 y_e] 26))
      have H := H.keeps (bel_alloc y5 (.cells #[.bool y_g, .slice y_o y_n y_c, .int .i64 y_e] 26))
      have hb6' := bel_trans hb5 (bel_alloc y5 (.cells #[.bool y_g, .slice y_o y_n y_c, .int .i64 y_e] 26))
      have f_x0 := blkC x_k 0 rfl
      have f_x1 := blkC x_k 1 rfl
      have f_x2 := blkC x_k 2 rfl
      go_wp2_with fail
      clear f_x0 f_x1 f_x2
      generalize y5.alloc (.cells #[.bool y_g, .slice y_o y_n y_c, .int .i64 y_e] 26) = x6 at x_k y_k x_D y_D H hb6' ⊢
      refine (add_B x_D y_D (patV_bd pa) (patV_bd pb) (by omega) H.tab).mono ?_
      rintro _ y6 ⟨v, rfl, h6⟩
      obtain ⟨s_g, s_o, s_n, s_c, s_e, rfl⟩ := dans_shape h6
      have hw6 := h6.below
      have s_D := h6.num
      have H := H.keeps hw6
      have x_k := (hw6.block _ (Array.getElem?_eq_some_iff.1 x_k).1).trans x_k
      have x_D := x_D.keeps hw6
      have y_k := (hw6.block _ (Array.getElem?_eq_some_iff.1 y_k).1).trans y_k
      have y_D := y_D.keeps hw6
      have hb6 := bel_trans hb6' hw6
      obtain ⟨nx, ox, vx, gx, F4⟩ := to_four s_D (bS.ok (by omega)) H
      have R1 := to_rd ox
      rw [vx] at R1
      have r1 := toR_range ox 0
      obtain ⟨f, hf⟩ : ∃ f, f = fun way => toR way nx := ⟨_, rfl⟩
      rw [← hf] at F4 R1
      have r1 : M.rng (f 0).1 := by rw [hf]; exact r1
      have S1 := fun W => same6 RH.out r1 (same_near R1 HN.out) W
      clear R1 r1 HN RH vx gx ox hf bS
      have x_k := heap_past (.cells #[.bool s_g, .slice s_o s_n s_c, .int .i64 s_e] 26) x_k
      have y_k := heap_past (.cells #[.bool s_g, .slice s_o s_n s_c, .int .i64 s_e] 26) y_k
      have s_k := heap_a1 y6 (.cells #[.bool s_g, .slice s_o s_n s_c, .int .i64 s_e] 26)
      have x_D := x_D.keeps (bel_alloc y6 (.cells #[.bool s_g, .slice s_o s_n s_c, .int .i64 s_e] 26))
      have y_D := y_D.keeps (bel_alloc y6 (.cells #[.bool s_g, .slice s_o s_n s_c, .int .i64 s_e] 26))
      have s_D := s_D.keeps (bel_alloc y6 (.cells #[.bool s_g, .slice s_o s_n s_c, .int .i64 s_e] 26))
      have H := H.keeps (bel_alloc y6 (.cells #[.bool s_g, .slice s_o s_n s_c, .int .i64 s_e] 26))
      have F4 := F4.keeps (bel_alloc y6 (.cells #[.bool s_g, .slice s_o s_n s_c, .int .i64 s_e] 26))
      have hb7' := bel_trans hb6 (bel_alloc y6 (.cells #[.bool s_g, .slice s_o s_n s_c, .int .i64 s_e] 26))
      go_wp2_with fail
      generalize y6.alloc (.cells #[.bool s_g, .slice s_o s_n s_c, .int .i64 s_e] 26) = x7 at x_k y_k s_k x_D y_D s_D H F4 hb7' ⊢
      refine (F4.at 0 (by decide)).mono ?_
      rintro _ y7 ⟨rfl, hw7⟩
      have H := H.keeps hw7
      have F4 := F4.keeps hw7
      have x_k := (hw7.block _ (Array.getElem?_eq_some_iff.1 x_k).1).trans x_k
      have x_D := x_D.keeps hw7
      have y_k := (hw7.block _ (Array.getElem?_eq_some_iff.1 y_k).1).trans y_k
      have y_D := y_D.keeps hw7
      have s_k := (hw7.block _ (Array.getElem?_eq_some_iff.1 s_k).1).trans s_k
      have s_D := s_D.keeps hw7
      have hb7 := bel_trans hb7' hw7
      clear F4
      generalize (f 0).1 = n1 at *
      generalize (f 0).2 = o1 at *
      go_wp2_with fail
      refine (C1 _).mono ?_
      rintro _ y8 ⟨rfl, hw8⟩
      have H := H.keeps hw8
      have x_k := (hw8.block _ (Array.getElem?_eq_some_iff.1 x_k).1).trans x_k
      have x_D := x_D.keeps hw8
      have y_k := (hw8.block _ (Array.getElem?_eq_some_iff.1 y_k).1).trans y_k
      have y_D := y_D.keeps hw8
      have s_k := (hw8.block _ (Array.getElem?_eq_some_iff.1 s_k).1).trans s_k
      have s_D := s_D.keeps hw8
      have hb8 := bel_trans hb7 hw8
      go_wp2_with fail
      refine (C2.out _ H).mono ?_
      rintro _ y9 ⟨rfl, hw9⟩
      have H := H.keeps hw9
      have x_k := (hw9.block _ (Array.getElem?_eq_some_iff.1 x_k).1).trans x_k
      have x_D := x_D.keeps hw9
      have y_k := (hw9.block _ (Array.getElem?_eq_some_iff.1 y_k).1).trans y_k
      have y_D := y_D.keeps hw9
      have s_k := (hw9.block _ (Array.getElem?_eq_some_iff.1 s_k).1).trans s_k
      have s_D := s_D.keeps hw9
      have hb9 := bel_trans hb8 hw9
      go_wp2_with fail
      refine (C3 _).mono ?_
      rintro _ y10 ⟨rfl, hw10⟩
      have H := H.keeps hw10
      have x_k := (hw10.block _ (Array.getElem?_eq_some_iff.1 x_k).1).trans x_k
      have x_D := x_D.keeps hw10
      have y_k := (hw10.block _ (Array.getElem?_eq_some_iff.1 y_k).1).trans y_k
      have y_D := y_D.keeps hw10
      have s_k := (hw10.block _ (Array.getElem?_eq_some_iff.1 s_k).1).trans s_k
      have s_D := s_D.keeps hw10
      have hb10 := bel_trans hb9 hw10
      clear C1 C2 C3
      go_wp2_with fail
      refine (S1 _).mono ?_
      rintro _ y11 ⟨rfl, hw11⟩
      have H := H.keeps hw11
      have x_k := (hw11.block _ (Array.getElem?_eq_some_iff.1 x_k).1).trans x_k
      have x_D := x_D.keeps hw11
      have y_k := (hw11.block _ (Array.getElem?_eq_some_iff.1 y_k).1).trans y_k
      have y_D := y_D.keeps hw11
      have s_k := (hw11.block _ (Array.getElem?_eq_some_iff.1 s_k).1).trans s_k
      have s_D := s_D.keeps hw11
      have hb11 := bel_trans hb10 hw11
      go_wp2_with fail
      refine (S1 _).mono ?_
      rintro _ y12 ⟨rfl, hw12⟩
      have H := H.keeps hw12
      have x_k := (hw12.block _ (Array.getElem?_eq_some_iff.1 x_k).1).trans x_k
      have x_D := x_D.keeps hw12
      have y_k := (hw12.block _ (Array.getElem?_eq_some_iff.1 y_k).1).trans y_k
      have y_D := y_D.keeps hw12
      have s_k := (hw12.block _ (Array.getElem?_eq_some_iff.1 s_k).1).trans s_k
      have s_D := s_D.keeps hw12
      have hb12 := bel_trans hb11 hw12
      clear S1
      go_wp2_with fail
      refine (abs6 HA.out H).mono ?_
      rintro _ y13 ⟨rfl, hw13⟩
      have H := H.keeps hw13
      have x_k := (hw13.block _ (Array.getElem?_eq_some_iff.1 x_k).1).trans x_k
      have x_D := x_D.keeps hw13
      have y_k := (hw13.block _ (Array.getElem?_eq_some_iff.1 y_k).1).trans y_k
      have y_D := y_D.keeps hw13
      have s_k := (hw13.block _ (Array.getElem?_eq_some_iff.1 s_k).1).trans s_k
      have s_D := s_D.keeps hw13
      have hb13 := bel_trans hb12 hw13
      go_wp2_with fail
      refine (abs6 HB.out H).mono ?_
      rintro _ y14 ⟨rfl, hw14⟩
      have H := H.keeps hw14
      have x_k := (hw14.block _ (Array.getElem?_eq_some_iff.1 x_k).1).trans x_k
      have x_D := x_D.keeps hw14
      have y_k := (hw14.block _ (Array.getElem?_eq_some_iff.1 y_k).1).trans y_k
      have y_D := y_D.keeps hw14
      have s_k := (hw14.block _ (Array.getElem?_eq_some_iff.1 s_k).1).trans s_k
      have s_D := s_D.keeps hw14
      have hb14 := bel_trans hb13 hw14
      by_cases hl : rg a < rg b
      · have LL := L1 true (LR.out.trans (decide_eq_true hl))
        clear L1 LR F1
        generalize M.abs a = aa at *
        generalize M.abs b = ab at *
        go_wp2_with fail
        refine (LL _).mono ?_
        rintro _ y15 ⟨rfl, hw15⟩
        have H := H.keeps hw15
        have x_k := (hw15.block _ (Array.getElem?_eq_some_iff.1 x_k).1).trans x_k
        have x_D := x_D.keeps hw15
        have y_k := (hw15.block _ (Array.getElem?_eq_some_iff.1 y_k).1).trans y_k
        have y_D := y_D.keeps hw15
        have s_k := (hw15.block _ (Array.getElem?_eq_some_iff.1 s_k).1).trans s_k
        have s_D := s_D.keeps hw15
        have hb15 := bel_trans hb14 hw15
        clear LL hl
        go_wp2_with fail
        refine (class6 (b := a) _ H).mono ?_
        rintro _ y16 ⟨rfl, hw16⟩
        have H := H.keeps hw16
        have x_k := (hw16.block _ (Array.getElem?_eq_some_iff.1 x_k).1).trans x_k
        have x_D := x_D.keeps hw16
        have y_k := (hw16.block _ (Array.getElem?_eq_some_iff.1 y_k).1).trans y_k
        have y_D := y_D.keeps hw16
        have s_k := (hw16.block _ (Array.getElem?_eq_some_iff.1 s_k).1).trans s_k
        have s_D := s_D.keeps hw16
        have hb16 := bel_trans hb15 hw16
        by_cases hc : cls a = 0
        · have e1 := F2.out hc
          clear F2
          subst e1
          go_wp2_with fail
          refine (Z3.out _ H).mono ?_
          rintro _ y17 ⟨rfl, hw17⟩
          have H := H.keeps hw17
          have x_k := (hw17.block _ (Array.getElem?_eq_some_iff.1 x_k).1).trans x_k
          have x_D := x_D.keeps hw17
          have y_k := (hw17.block _ (Array.getElem?_eq_some_iff.1 y_k).1).trans y_k
          have y_D := y_D.keeps hw17
          have s_k := (hw17.block _ (Array.getElem?_eq_some_iff.1 s_k).1).trans s_k
          have s_D := s_D.keeps hw17
          have hb17 := bel_trans hb16 hw17
          cases hz3 : szB a 9092767647661031424
          · clear Z3 Z4 Z5 C4 C5
            go_wp2
            all_goals go_ret
            all_goals exact ⟨rfl, hb17⟩
          · clear Z3
            go_wp2_with fail
            refine (Z4.out _ H).mono ?_
            rintro _ y18 ⟨rfl, hw18⟩
            have H := H.keeps hw18
            have x_k := (hw18.block _ (Array.getElem?_eq_some_iff.1 x_k).1).trans x_k
            have x_D := x_D.keeps hw18
            have y_k := (hw18.block _ (Array.getElem?_eq_some_iff.1 y_k).1).trans y_k
            have y_D := y_D.keeps hw18
            have s_k := (hw18.block _ (Array.getElem?_eq_some_iff.1 s_k).1).trans s_k
            have s_D := s_D.keeps hw18
            have hb18 := bel_trans hb17 hw18
            cases hz4 : szB b 9092767647661031424
            · clear Z4 Z5 C4 C5
              go_wp2
              all_goals go_ret
              all_goals exact ⟨rfl, hb18⟩
            · clear Z4
              rw [sp_996 HA.out hz3] at C5
              generalize spH a = q1 at *
              generalize spL a = q2 at *
              go_wp2_with fail
              refine (C5 _).mono ?_
              rintro _ y19 ⟨rfl, hw19⟩
              have H := H.keeps hw19
              have x_k := (hw19.block _ (Array.getElem?_eq_some_iff.1 x_k).1).trans x_k
              have x_D := x_D.keeps hw19
              have y_k := (hw19.block _ (Array.getElem?_eq_some_iff.1 y_k).1).trans y_k
              have y_D := y_D.keeps hw19
              have s_k := (hw19.block _ (Array.getElem?_eq_some_iff.1 s_k).1).trans s_k
              have s_D := s_D.keeps hw19
              have hb19 := bel_trans hb18 hw19
              clear C5
              have f_x0 := blkC x_k 0 rfl
              have f_x1 := blkC x_k 1 rfl
              have f_x2 := blkC x_k 2 rfl
              have f_y0 := blkC y_k 0 rfl
              have f_y1 := blkC y_k 1 rfl
              have f_y2 := blkC y_k 2 rfl
              go_wp2_with fail
              clear f_x0 f_x1 f_x2 f_y0 f_y1 f_y2
              refine (mul_B x_D y_D (patV_bd pa) (patV_bd pb) (by omega) H.tab).mono ?_
              rintro _ y20 ⟨v, C, rfl, h20, hC, bC⟩
              obtain ⟨p_g, p_o, p_n, p_c, p_e, rfl⟩ := dans_shape h20
              have hw20 := h20.below
              have p_D := h20.num
              have H := H.keeps hw20
              have x_k := (hw20.block _ (Array.getElem?_eq_some_iff.1 x_k).1).trans x_k
              have x_D := x_D.keeps hw20
              have y_k := (hw20.block _ (Array.getElem?_eq_some_iff.1 y_k).1).trans y_k
              have y_D := y_D.keeps hw20
              have s_k := (hw20.block _ (Array.getElem?_eq_some_iff.1 s_k).1).trans s_k
              have s_D := s_D.keeps hw20
              have hb20 := bel_trans hb19 hw20
              obtain ⟨_, rm, mN, x1, x2⟩ := prem_prod HA.out HB.out hz3 hz4 hC
              have X1 : Hid (C = 0 → pX a b = true) := x1
              have X2 : Hid (C ≠ 0 → szB (fprod a b) 9214364837600034816 = true → rg (fprod a b) < 243194379878006784 ∨ pX a b = true) := x2
              have RM : Hid (M.rng (fprod a b)) := rm
              clear x1 x2 hC hz3 hz4
              obtain ⟨ny, oy, vy, gy, F4⟩ := to_four p_D (bC.ok (by omega)) H
              have R1 := to_rd oy
              rw [vy] at R1
              have r1 := toR_range oy 0
              obtain ⟨k, hk⟩ : ∃ k, k = fun way => toR way ny := ⟨_, rfl⟩
              rw [← hk] at F4 R1
              have r1 : M.rng (k 0).1 := by rw [hk]; exact r1
              have S2 := fun W => same6 rm r1 (same_near R1 mN) W
              have hp0 := dnum_zero p_D
              clear R1 r1 mN vy gy oy hk bC rm
              generalize pX a b = PX at *
              generalize prL a b = l4 at *
              generalize fprod a b = m at *
              have x_k := heap_past (.cells #[.bool p_g, .slice p_o p_n p_c, .int .i64 p_e] 26) x_k
              have y_k := heap_past (.cells #[.bool p_g, .slice p_o p_n p_c, .int .i64 p_e] 26) y_k
              have s_k := heap_past (.cells #[.bool p_g, .slice p_o p_n p_c, .int .i64 p_e] 26) s_k
              have p_k := heap_a1 y20 (.cells #[.bool p_g, .slice p_o p_n p_c, .int .i64 p_e] 26)
              have x_D := x_D.keeps (bel_alloc y20 (.cells #[.bool p_g, .slice p_o p_n p_c, .int .i64 p_e] 26))
              have y_D := y_D.keeps (bel_alloc y20 (.cells #[.bool p_g, .slice p_o p_n p_c, .int .i64 p_e] 26))
              have s_D := s_D.keeps (bel_alloc y20 (.cells #[.bool p_g, .slice p_o p_n p_c, .int .i64 p_e] 26))
              have p_D := p_D.keeps (bel_alloc y20 (.cells #[.bool p_g, .slice p_o p_n p_c, .int .i64 p_e] 26))
              have H := H.keeps (bel_alloc y20 (.cells #[.bool p_g, .slice p_o p_n p_c, .int .i64 p_e] 26))
              have F4 := F4.keeps (bel_alloc y20 (.cells #[.bool p_g, .slice p_o p_n p_c, .int .i64 p_e] 26))
              have hb21' := bel_trans hb20 (bel_alloc y20 (.cells #[.bool p_g, .slice p_o p_n p_c, .int .i64 p_e] 26))
              go_wp2_with fail
              generalize y20.alloc (.cells #[.bool p_g, .slice p_o p_n p_c, .int .i64 p_e] 26) = x21 at x_k y_k s_k p_k x_D y_D s_D p_D H F4 hb21' ⊢
              refine (F4.at 0 (by decide)).mono ?_
              rintro _ y21 ⟨rfl, hw21⟩
              have H := H.keeps hw21
              have F4 := F4.keeps hw21
              have x_k := (hw21.block _ (Array.getElem?_eq_some_iff.1 x_k).1).trans x_k
              have x_D := x_D.keeps hw21
              have y_k := (hw21.block _ (Array.getElem?_eq_some_iff.1 y_k).1).trans y_k
              have y_D := y_D.keeps hw21
              have s_k := (hw21.block _ (Array.getElem?_eq_some_iff.1 s_k).1).trans s_k
              have s_D := s_D.keeps hw21
              have p_k := (hw21.block _ (Array.getElem?_eq_some_iff.1 p_k).1).trans p_k
              have p_D := p_D.keeps hw21
              have hb21 := bel_trans hb21' hw21
              clear F4
              generalize (k 0).1 = n2 at *
              generalize (k 0).2 = o2 at *
              go_wp2_with fail
              refine (C4.out _ H).mono ?_
              rintro _ y22 ⟨rfl, hw22⟩
              have H := H.keeps hw22
              have x_k := (hw22.block _ (Array.getElem?_eq_some_iff.1 x_k).1).trans x_k
              have x_D := x_D.keeps hw22
              have y_k := (hw22.block _ (Array.getElem?_eq_some_iff.1 y_k).1).trans y_k
              have y_D := y_D.keeps hw22
              have s_k := (hw22.block _ (Array.getElem?_eq_some_iff.1 s_k).1).trans s_k
              have s_D := s_D.keeps hw22
              have p_k := (hw22.block _ (Array.getElem?_eq_some_iff.1 p_k).1).trans p_k
              have p_D := p_D.keeps hw22
              have hb22 := bel_trans hb21 hw22
              go_wp2_with fail
              refine (join6 H).mono ?_
              rintro _ y23 ⟨rfl, hw23⟩
              have H := H.keeps hw23
              have x_k := (hw23.block _ (Array.getElem?_eq_some_iff.1 x_k).1).trans x_k
              have x_D := x_D.keeps hw23
              have y_k := (hw23.block _ (Array.getElem?_eq_some_iff.1 y_k).1).trans y_k
              have y_D := y_D.keeps hw23
              have s_k := (hw23.block _ (Array.getElem?_eq_some_iff.1 s_k).1).trans s_k
              have s_D := s_D.keeps hw23
              have p_k := (hw23.block _ (Array.getElem?_eq_some_iff.1 p_k).1).trans p_k
              have p_D := p_D.keeps hw23
              have hb23 := bel_trans hb22 hw23
              go_wp2_with fail
              refine (S2 _).mono ?_
              rintro _ y24 ⟨rfl, hw24⟩
              have H := H.keeps hw24
              have x_k := (hw24.block _ (Array.getElem?_eq_some_iff.1 x_k).1).trans x_k
              have x_D := x_D.keeps hw24
              have y_k := (hw24.block _ (Array.getElem?_eq_some_iff.1 y_k).1).trans y_k
              have y_D := y_D.keeps hw24
              have s_k := (hw24.block _ (Array.getElem?_eq_some_iff.1 s_k).1).trans s_k
              have s_D := s_D.keeps hw24
              have p_k := (hw24.block _ (Array.getElem?_eq_some_iff.1 p_k).1).trans p_k
              have p_D := p_D.keeps hw24
              have hb24 := bel_trans hb23 hw24
              clear C4 S2
              by_cases hC0 : C = 0
              · have e1 := X1.out hC0
                have hpn := hp0.2 hC0
                clear X1 X2 hp0 hC0 Z5 RM
                subst e1
                have f_p0 := blkC p_k 0 rfl
                have f_p1 := blkC p_k 1 rfl
                have f_p2 := blkC p_k 2 rfl
                go_wp2
                all_goals go_ret
                all_goals exact ⟨rfl, hb24⟩
              · have e2 := X2.out hC0
                have E2 : Hid (szB m 9214364837600034816 = true → rg m < 243194379878006784 ∨ PX = true) := e2
                have hpn : ¬ p_n = 0 := fun c => hC0 (hp0.1 c)
                clear X1 X2 hp0 hC0 e2
                have f_p0 := blkC p_k 0 rfl
                have f_p1 := blkC p_k 1 rfl
                have f_p2 := blkC p_k 2 rfl
                go_wp2_with fail
                clear f_p0 f_p1 f_p2
                refine (Z5.out _ H).mono ?_
                rintro _ y25 ⟨rfl, hw25⟩
                have H := H.keeps hw25
                have x_k := (hw25.block _ (Array.getElem?_eq_some_iff.1 x_k).1).trans x_k
                have x_D := x_D.keeps hw25
                have y_k := (hw25.block _ (Array.getElem?_eq_some_iff.1 y_k).1).trans y_k
                have y_D := y_D.keeps hw25
                have s_k := (hw25.block _ (Array.getElem?_eq_some_iff.1 s_k).1).trans s_k
                have s_D := s_D.keeps hw25
                have p_k := (hw25.block _ (Array.getElem?_eq_some_iff.1 p_k).1).trans p_k
                have p_D := p_D.keeps hw25
                have hb25 := bel_trans hb24 hw25
                cases hz5 : szB m 9214364837600034816
                · clear Z5 E2
                  go_wp2
                  all_goals go_ret
                  all_goals exact ⟨rfl, hb25⟩
                · have pm := (sz_of hz5).1
                  have e3 := E2.out hz5
                  have LM := size_less RM.out pm (show (0 : Int) ≤ 243194379878006784 by decide) (show (243194379878006784 : Int) < 9218868437227405312 by decide)
                  clear Z5 E2 hz5
                  go_wp2_with fail
                  refine (abs6 RM.out H).mono ?_
                  rintro _ y26 ⟨rfl, hw26⟩
                  have H := H.keeps hw26
                  have x_k := (hw26.block _ (Array.getElem?_eq_some_iff.1 x_k).1).trans x_k
                  have x_D := x_D.keeps hw26
                  have y_k := (hw26.block _ (Array.getElem?_eq_some_iff.1 y_k).1).trans y_k
                  have y_D := y_D.keeps hw26
                  have s_k := (hw26.block _ (Array.getElem?_eq_some_iff.1 s_k).1).trans s_k
                  have s_D := s_D.keeps hw26
                  have p_k := (hw26.block _ (Array.getElem?_eq_some_iff.1 p_k).1).trans p_k
                  have p_D := p_D.keeps hw26
                  have hb26 := bel_trans hb25 hw26
                  by_cases hl2 : rg m < 243194379878006784
                  · rw [decide_eq_true hl2] at LM
                    have LL := fun W => less6 (abs_rng RM.out pm) (show M.rng 243194379878006784 by unfold M.rng; decide) LM W
                    clear LM e3 hl2
                    generalize M.abs m = am at *
                    go_wp2_with fail
                    refine (LL _).mono ?_
                    rintro _ y27 ⟨rfl, hw27⟩
                    have H := H.keeps hw27
                    have x_k := (hw27.block _ (Array.getElem?_eq_some_iff.1 x_k).1).trans x_k
                    have x_D := x_D.keeps hw27
                    have y_k := (hw27.block _ (Array.getElem?_eq_some_iff.1 y_k).1).trans y_k
                    have y_D := y_D.keeps hw27
                    have s_k := (hw27.block _ (Array.getElem?_eq_some_iff.1 s_k).1).trans s_k
                    have s_D := s_D.keeps hw27
                    have p_k := (hw27.block _ (Array.getElem?_eq_some_iff.1 p_k).1).trans p_k
                    have p_D := p_D.keeps hw27
                    have hb27 := bel_trans hb26 hw27
                    go_wp2
                    all_goals go_ret
                    all_goals exact ⟨rfl, hb27⟩
                  · rw [decide_eq_false hl2] at LM
                    have LL := fun W => less6 (abs_rng RM.out pm) (show M.rng 243194379878006784 by unfold M.rng; decide) LM W
                    have e4 : PX = true := by rcases e3 with g | g; exact absurd g hl2; exact g
                    clear LM e3 hl2
                    generalize M.abs m = am at *
                    subst e4
                    go_wp2_with fail
                    refine (LL _).mono ?_
                    rintro _ y27 ⟨rfl, hw27⟩
                    have H := H.keeps hw27
                    have x_k := (hw27.block _ (Array.getElem?_eq_some_iff.1 x_k).1).trans x_k
                    have x_D := x_D.keeps hw27
                    have y_k := (hw27.block _ (Array.getElem?_eq_some_iff.1 y_k).1).trans y_k
                    have y_D := y_D.keeps hw27
                    have s_k := (hw27.block _ (Array.getElem?_eq_some_iff.1 s_k).1).trans s_k
                    have s_D := s_D.keeps hw27
                    have p_k := (hw27.block _ (Array.getElem?_eq_some_iff.1 p_k).1).trans p_k
                    have p_D := p_D.keeps hw27
                    have hb27 := bel_trans hb26 hw27
                    go_wp2
                    all_goals go_ret
                    all_goals exact ⟨rfl, hb27⟩
        · clear F2
          go_wp2_with fail
          refine (Z3.out _ H).mono ?_
          rintro _ y17 ⟨rfl, hw17⟩
          have H := H.keeps hw17
          have x_k := (hw17.block _ (Array.getElem?_eq_some_iff.1 x_k).1).trans x_k
          have x_D := x_D.keeps hw17
          have y_k := (hw17.block _ (Array.getElem?_eq_some_iff.1 y_k).1).trans y_k
          have y_D := y_D.keeps hw17
          have s_k := (hw17.block _ (Array.getElem?_eq_some_iff.1 s_k).1).trans s_k
          have s_D := s_D.keeps hw17
          have hb17 := bel_trans hb16 hw17
          cases hz3 : szB a 9092767647661031424
          · clear Z3 Z4 Z5 C4 C5
            go_wp2
            all_goals go_ret
            all_goals exact ⟨rfl, hb17⟩
          · clear Z3
            go_wp2_with fail
            refine (Z4.out _ H).mono ?_
            rintro _ y18 ⟨rfl, hw18⟩
            have H := H.keeps hw18
            have x_k := (hw18.block _ (Array.getElem?_eq_some_iff.1 x_k).1).trans x_k
            have x_D := x_D.keeps hw18
            have y_k := (hw18.block _ (Array.getElem?_eq_some_iff.1 y_k).1).trans y_k
            have y_D := y_D.keeps hw18
            have s_k := (hw18.block _ (Array.getElem?_eq_some_iff.1 s_k).1).trans s_k
            have s_D := s_D.keeps hw18
            have hb18 := bel_trans hb17 hw18
            cases hz4 : szB b 9092767647661031424
            · clear Z4 Z5 C4 C5
              go_wp2
              all_goals go_ret
              all_goals exact ⟨rfl, hb18⟩
            · clear Z4
              rw [sp_996 HA.out hz3] at C5
              generalize spH a = q1 at *
              generalize spL a = q2 at *
              go_wp2_with fail
              refine (C5 _).mono ?_
              rintro _ y19 ⟨rfl, hw19⟩
              have H := H.keeps hw19
              have x_k := (hw19.block _ (Array.getElem?_eq_some_iff.1 x_k).1).trans x_k
              have x_D := x_D.keeps hw19
              have y_k := (hw19.block _ (Array.getElem?_eq_some_iff.1 y_k).1).trans y_k
              have y_D := y_D.keeps hw19
              have s_k := (hw19.block _ (Array.getElem?_eq_some_iff.1 s_k).1).trans s_k
              have s_D := s_D.keeps hw19
              have hb19 := bel_trans hb18 hw19
              clear C5
              have f_x0 := blkC x_k 0 rfl
              have f_x1 := blkC x_k 1 rfl
              have f_x2 := blkC x_k 2 rfl
              have f_y0 := blkC y_k 0 rfl
              have f_y1 := blkC y_k 1 rfl
              have f_y2 := blkC y_k 2 rfl
              go_wp2_with fail
              clear f_x0 f_x1 f_x2 f_y0 f_y1 f_y2
              refine (mul_B x_D y_D (patV_bd pa) (patV_bd pb) (by omega) H.tab).mono ?_
              rintro _ y20 ⟨v, C, rfl, h20, hC, bC⟩
              obtain ⟨p_g, p_o, p_n, p_c, p_e, rfl⟩ := dans_shape h20
              have hw20 := h20.below
              have p_D := h20.num
              have H := H.keeps hw20
              have x_k := (hw20.block _ (Array.getElem?_eq_some_iff.1 x_k).1).trans x_k
              have x_D := x_D.keeps hw20
              have y_k := (hw20.block _ (Array.getElem?_eq_some_iff.1 y_k).1).trans y_k
              have y_D := y_D.keeps hw20
              have s_k := (hw20.block _ (Array.getElem?_eq_some_iff.1 s_k).1).trans s_k
              have s_D := s_D.keeps hw20
              have hb20 := bel_trans hb19 hw20
              obtain ⟨_, rm, mN, x1, x2⟩ := prem_prod HA.out HB.out hz3 hz4 hC
              have X1 : Hid (C = 0 → pX a b = true) := x1
              have X2 : Hid (C ≠ 0 → szB (fprod a b) 9214364837600034816 = true → rg (fprod a b) < 243194379878006784 ∨ pX a b = true) := x2
              have RM : Hid (M.rng (fprod a b)) := rm
              clear x1 x2 hC hz3 hz4
              obtain ⟨ny, oy, vy, gy, F4⟩ := to_four p_D (bC.ok (by omega)) H
              have R1 := to_rd oy
              rw [vy] at R1
              have r1 := toR_range oy 0
              obtain ⟨k, hk⟩ : ∃ k, k = fun way => toR way ny := ⟨_, rfl⟩
              rw [← hk] at F4 R1
              have r1 : M.rng (k 0).1 := by rw [hk]; exact r1
              have S2 := fun W => same6 rm r1 (same_near R1 mN) W
              have hp0 := dnum_zero p_D
              clear R1 r1 mN vy gy oy hk bC rm
              generalize pX a b = PX at *
              generalize prL a b = l4 at *
              generalize fprod a b = m at *
              have x_k := heap_past (.cells #[.bool p_g, .slice p_o p_n p_c, .int .i64 p_e] 26) x_k
              have y_k := heap_past (.cells #[.bool p_g, .slice p_o p_n p_c, .int .i64 p_e] 26) y_k
              have s_k := heap_past (.cells #[.bool p_g, .slice p_o p_n p_c, .int .i64 p_e] 26) s_k
              have p_k := heap_a1 y20 (.cells #[.bool p_g, .slice p_o p_n p_c, .int .i64 p_e] 26)
              have x_D := x_D.keeps (bel_alloc y20 (.cells #[.bool p_g, .slice p_o p_n p_c, .int .i64 p_e] 26))
              have y_D := y_D.keeps (bel_alloc y20 (.cells #[.bool p_g, .slice p_o p_n p_c, .int .i64 p_e] 26))
              have s_D := s_D.keeps (bel_alloc y20 (.cells #[.bool p_g, .slice p_o p_n p_c, .int .i64 p_e] 26))
              have p_D := p_D.keeps (bel_alloc y20 (.cells #[.bool p_g, .slice p_o p_n p_c, .int .i64 p_e] 26))
              have H := H.keeps (bel_alloc y20 (.cells #[.bool p_g, .slice p_o p_n p_c, .int .i64 p_e] 26))
              have F4 := F4.keeps (bel_alloc y20 (.cells #[.bool p_g, .slice p_o p_n p_c, .int .i64 p_e] 26))
              have hb21' := bel_trans hb20 (bel_alloc y20 (.cells #[.bool p_g, .slice p_o p_n p_c, .int .i64 p_e] 26))
              go_wp2_with fail
              generalize y20.alloc (.cells #[.bool p_g, .slice p_o p_n p_c, .int .i64 p_e] 26) = x21 at x_k y_k s_k p_k x_D y_D s_D p_D H F4 hb21' ⊢
              refine (F4.at 0 (by decide)).mono ?_
              rintro _ y21 ⟨rfl, hw21⟩
              have H := H.keeps hw21
              have F4 := F4.keeps hw21
              have x_k := (hw21.block _ (Array.getElem?_eq_some_iff.1 x_k).1).trans x_k
              have x_D := x_D.keeps hw21
              have y_k := (hw21.block _ (Array.getElem?_eq_some_iff.1 y_k).1).trans y_k
              have y_D := y_D.keeps hw21
              have s_k := (hw21.block _ (Array.getElem?_eq_some_iff.1 s_k).1).trans s_k
              have s_D := s_D.keeps hw21
              have p_k := (hw21.block _ (Array.getElem?_eq_some_iff.1 p_k).1).trans p_k
              have p_D := p_D.keeps hw21
              have hb21 := bel_trans hb21' hw21
              clear F4
              generalize (k 0).1 = n2 at *
              generalize (k 0).2 = o2 at *
              go_wp2_with fail
              refine (C4.out _ H).mono ?_
              rintro _ y22 ⟨rfl, hw22⟩
              have H := H.keeps hw22
              have x_k := (hw22.block _ (Array.getElem?_eq_some_iff.1 x_k).1).trans x_k
              have x_D := x_D.keeps hw22
              have y_k := (hw22.block _ (Array.getElem?_eq_some_iff.1 y_k).1).trans y_k
              have y_D := y_D.keeps hw22
              have s_k := (hw22.block _ (Array.getElem?_eq_some_iff.1 s_k).1).trans s_k
              have s_D := s_D.keeps hw22
              have p_k := (hw22.block _ (Array.getElem?_eq_some_iff.1 p_k).1).trans p_k
              have p_D := p_D.keeps hw22
              have hb22 := bel_trans hb21 hw22
              go_wp2_with fail
              refine (join6 H).mono ?_
              rintro _ y23 ⟨rfl, hw23⟩
              have H := H.keeps hw23
              have x_k := (hw23.block _ (Array.getElem?_eq_some_iff.1 x_k).1).trans x_k
              have x_D := x_D.keeps hw23
              have y_k := (hw23.block _ (Array.getElem?_eq_some_iff.1 y_k).1).trans y_k
              have y_D := y_D.keeps hw23
              have s_k := (hw23.block _ (Array.getElem?_eq_some_iff.1 s_k).1).trans s_k
              have s_D := s_D.keeps hw23
              have p_k := (hw23.block _ (Array.getElem?_eq_some_iff.1 p_k).1).trans p_k
              have p_D := p_D.keeps hw23
              have hb23 := bel_trans hb22 hw23
              go_wp2_with fail
              refine (S2 _).mono ?_
              rintro _ y24 ⟨rfl, hw24⟩
              have H := H.keeps hw24
              have x_k := (hw24.block _ (Array.getElem?_eq_some_iff.1 x_k).1).trans x_k
              have x_D := x_D.keeps hw24
              have y_k := (hw24.block _ (Array.getElem?_eq_some_iff.1 y_k).1).trans y_k
              have y_D := y_D.keeps hw24
              have s_k := (hw24.block _ (Array.getElem?_eq_some_iff.1 s_k).1).trans s_k
              have s_D := s_D.keeps hw24
              have p_k := (hw24.block _ (Array.getElem?_eq_some_iff.1 p_k).1).trans p_k
              have p_D := p_D.keeps hw24
              have hb24 := bel_trans hb23 hw24
              clear C4 S2
              by_cases hC0 : C = 0
              · have e1 := X1.out hC0
                have hpn := hp0.2 hC0
                clear X1 X2 hp0 hC0 Z5 RM
                subst e1
                have f_p0 := blkC p_k 0 rfl
                have f_p1 := blkC p_k 1 rfl
                have f_p2 := blkC p_k 2 rfl
                go_wp2
                all_goals go_ret
                all_goals exact ⟨rfl, hb24⟩
              · have e2 := X2.out hC0
                have E2 : Hid (szB m 9214364837600034816 = true → rg m < 243194379878006784 ∨ PX = true) := e2
                have hpn : ¬ p_n = 0 := fun c => hC0 (hp0.1 c)
                clear X1 X2 hp0 hC0 e2
                have f_p0 := blkC p_k 0 rfl
                have f_p1 := blkC p_k 1 rfl
                have f_p2 := blkC p_k 2 rfl
                go_wp2_with fail
                clear f_p0 f_p1 f_p2
                refine (Z5.out _ H).mono ?_
                rintro _ y25 ⟨rfl, hw25⟩
                have H := H.keeps hw25
                have x_k := (hw25.block _ (Array.getElem?_eq_some_iff.1 x_k).1).trans x_k
                have x_D := x_D.keeps hw25
                have y_k := (hw25.block _ (Array.getElem?_eq_some_iff.1 y_k).1).trans y_k
                have y_D := y_D.keeps hw25
                have s_k := (hw25.block _ (Array.getElem?_eq_some_iff.1 s_k).1).trans s_k
                have s_D := s_D.keeps hw25
                have p_k := (hw25.block _ (Array.getElem?_eq_some_iff.1 p_k).1).trans p_k
                have p_D := p_D.keeps hw25
                have hb25 := bel_trans hb24 hw25
                cases hz5 : szB m 9214364837600034816
                · clear Z5 E2
                  go_wp2
                  all_goals go_ret
                  all_goals exact ⟨rfl, hb25⟩
                · have pm := (sz_of hz5).1
                  have e3 := E2.out hz5
                  have LM := size_less RM.out pm (show (0 : Int) ≤ 243194379878006784 by decide) (show (243194379878006784 : Int) < 9218868437227405312 by decide)
                  clear Z5 E2 hz5
                  go_wp2_with fail
                  refine (abs6 RM.out H).mono ?_
                  rintro _ y26 ⟨rfl, hw26⟩
                  have H := H.keeps hw26
                  have x_k := (hw26.block _ (Array.getElem?_eq_some_iff.1 x_k).1).trans x_k
                  have x_D := x_D.keeps hw26
                  have y_k := (hw26.block _ (Array.getElem?_eq_some_iff.1 y_k).1).trans y_k
                  have y_D := y_D.keeps hw26
                  have s_k := (hw26.block _ (Array.getElem?_eq_some_iff.1 s_k).1).trans s_k
                  have s_D := s_D.keeps hw26
                  have p_k := (hw26.block _ (Array.getElem?_eq_some_iff.1 p_k).1).trans p_k
                  have p_D := p_D.keeps hw26
                  have hb26 := bel_trans hb25 hw26
                  by_cases hl2 : rg m < 243194379878006784
                  · rw [decide_eq_true hl2] at LM
                    have LL := fun W => less6 (abs_rng RM.out pm) (show M.rng 243194379878006784 by unfold M.rng; decide) LM W
                    clear LM e3 hl2
                    generalize M.abs m = am at *
                    go_wp2_with fail
                    refine (LL _).mono ?_
                    rintro _ y27 ⟨rfl, hw27⟩
                    have H := H.keeps hw27
                    have x_k := (hw27.block _ (Array.getElem?_eq_some_iff.1 x_k).1).trans x_k
                    have x_D := x_D.keeps hw27
                    have y_k := (hw27.block _ (Array.getElem?_eq_some_iff.1 y_k).1).trans y_k
                    have y_D := y_D.keeps hw27
                    have s_k := (hw27.block _ (Array.getElem?_eq_some_iff.1 s_k).1).trans s_k
                    have s_D := s_D.keeps hw27
                    have p_k := (hw27.block _ (Array.getElem?_eq_some_iff.1 p_k).1).trans p_k
                    have p_D := p_D.keeps hw27
                    have hb27 := bel_trans hb26 hw27
                    go_wp2
                    all_goals go_ret
                    all_goals exact ⟨rfl, hb27⟩
                  · rw [decide_eq_false hl2] at LM
                    have LL := fun W => less6 (abs_rng RM.out pm) (show M.rng 243194379878006784 by unfold M.rng; decide) LM W
                    have e4 : PX = true := by rcases e3 with g | g; exact absurd g hl2; exact g
                    clear LM e3 hl2
                    generalize M.abs m = am at *
                    subst e4
                    go_wp2_with fail
                    refine (LL _).mono ?_
                    rintro _ y27 ⟨rfl, hw27⟩
                    have H := H.keeps hw27
                    have x_k := (hw27.block _ (Array.getElem?_eq_some_iff.1 x_k).1).trans x_k
                    have x_D := x_D.keeps hw27
                    have y_k := (hw27.block _ (Array.getElem?_eq_some_iff.1 y_k).1).trans y_k
                    have y_D := y_D.keeps hw27
                    have s_k := (hw27.block _ (Array.getElem?_eq_some_iff.1 s_k).1).trans s_k
                    have s_D := s_D.keeps hw27
                    have p_k := (hw27.block _ (Array.getElem?_eq_some_iff.1 p_k).1).trans p_k
                    have p_D := p_D.keeps hw27
                    have hb27 := bel_trans hb26 hw27
                    go_wp2
                    all_goals go_ret
                    all_goals exact ⟨rfl, hb27⟩
      · have LL := L1 false (LR.out.trans (decide_eq_false hl))
        have e1 := F1.out (by omega)
        clear F2
        subst e1
        clear L1 LR F1
        generalize M.abs a = aa at *
        generalize M.abs b = ab at *
        go_wp2_with fail
        refine (LL _).mono ?_
        rintro _ y15 ⟨rfl, hw15⟩
        have H := H.keeps hw15
        have x_k := (hw15.block _ (Array.getElem?_eq_some_iff.1 x_k).1).trans x_k
        have x_D := x_D.keeps hw15
        have y_k := (hw15.block _ (Array.getElem?_eq_some_iff.1 y_k).1).trans y_k
        have y_D := y_D.keeps hw15
        have s_k := (hw15.block _ (Array.getElem?_eq_some_iff.1 s_k).1).trans s_k
        have s_D := s_D.keeps hw15
        have hb15 := bel_trans hb14 hw15
        clear LL hl
        go_wp2_with fail
        refine (class6 (b := a) _ H).mono ?_
        rintro _ y16 ⟨rfl, hw16⟩
        have H := H.keeps hw16
        have x_k := (hw16.block _ (Array.getElem?_eq_some_iff.1 x_k).1).trans x_k
        have x_D := x_D.keeps hw16
        have y_k := (hw16.block _ (Array.getElem?_eq_some_iff.1 y_k).1).trans y_k
        have y_D := y_D.keeps hw16
        have s_k := (hw16.block _ (Array.getElem?_eq_some_iff.1 s_k).1).trans s_k
        have s_D := s_D.keeps hw16
        have hb16 := bel_trans hb15 hw16
        by_cases hc : cls a = 0
        · go_wp2_with fail
          refine (Z3.out _ H).mono ?_
          rintro _ y17 ⟨rfl, hw17⟩
          have H := H.keeps hw17
          have x_k := (hw17.block _ (Array.getElem?_eq_some_iff.1 x_k).1).trans x_k
          have x_D := x_D.keeps hw17
          have y_k := (hw17.block _ (Array.getElem?_eq_some_iff.1 y_k).1).trans y_k
          have y_D := y_D.keeps hw17
          have s_k := (hw17.block _ (Array.getElem?_eq_some_iff.1 s_k).1).trans s_k
          have s_D := s_D.keeps hw17
          have hb17 := bel_trans hb16 hw17
          cases hz3 : szB a 9092767647661031424
          · clear Z3 Z4 Z5 C4 C5
            go_wp2
            all_goals go_ret
            all_goals exact ⟨rfl, hb17⟩
          · clear Z3
            go_wp2_with fail
            refine (Z4.out _ H).mono ?_
            rintro _ y18 ⟨rfl, hw18⟩
            have H := H.keeps hw18
            have x_k := (hw18.block _ (Array.getElem?_eq_some_iff.1 x_k).1).trans x_k
            have x_D := x_D.keeps hw18
            have y_k := (hw18.block _ (Array.getElem?_eq_some_iff.1 y_k).1).trans y_k
            have y_D := y_D.keeps hw18
            have s_k := (hw18.block _ (Array.getElem?_eq_some_iff.1 s_k).1).trans s_k
            have s_D := s_D.keeps hw18
            have hb18 := bel_trans hb17 hw18
            cases hz4 : szB b 9092767647661031424
            · clear Z4 Z5 C4 C5
              go_wp2
              all_goals go_ret
              all_goals exact ⟨rfl, hb18⟩
            · clear Z4
              rw [sp_996 HA.out hz3] at C5
              generalize spH a = q1 at *
              generalize spL a = q2 at *
              go_wp2_with fail
              refine (C5 _).mono ?_
              rintro _ y19 ⟨rfl, hw19⟩
              have H := H.keeps hw19
              have x_k := (hw19.block _ (Array.getElem?_eq_some_iff.1 x_k).1).trans x_k
              have x_D := x_D.keeps hw19
              have y_k := (hw19.block _ (Array.getElem?_eq_some_iff.1 y_k).1).trans y_k
              have y_D := y_D.keeps hw19
              have s_k := (hw19.block _ (Array.getElem?_eq_some_iff.1 s_k).1).trans s_k
              have s_D := s_D.keeps hw19
              have hb19 := bel_trans hb18 hw19
              clear C5
              have f_x0 := blkC x_k 0 rfl
              have f_x1 := blkC x_k 1 rfl
              have f_x2 := blkC x_k 2 rfl
              have f_y0 := blkC y_k 0 rfl
              have f_y1 := blkC y_k 1 rfl
              have f_y2 := blkC y_k 2 rfl
              go_wp2_with fail
              clear f_x0 f_x1 f_x2 f_y0 f_y1 f_y2
              refine (mul_B x_D y_D (patV_bd pa) (patV_bd pb) (by omega) H.tab).mono ?_
              rintro _ y20 ⟨v, C, rfl, h20, hC, bC⟩
              obtain ⟨p_g, p_o, p_n, p_c, p_e, rfl⟩ := dans_shape h20
              have hw20 := h20.below
              have p_D := h20.num
              have H := H.keeps hw20
              have x_k := (hw20.block _ (Array.getElem?_eq_some_iff.1 x_k).1).trans x_k
              have x_D := x_D.keeps hw20
              have y_k := (hw20.block _ (Array.getElem?_eq_some_iff.1 y_k).1).trans y_k
              have y_D := y_D.keeps hw20
              have s_k := (hw20.block _ (Array.getElem?_eq_some_iff.1 s_k).1).trans s_k
              have s_D := s_D.keeps hw20
              have hb20 := bel_trans hb19 hw20
              obtain ⟨_, rm, mN, x1, x2⟩ := prem_prod HA.out HB.out hz3 hz4 hC
              have X1 : Hid (C = 0 → pX a b = true) := x1
              have X2 : Hid (C ≠ 0 → szB (fprod a b) 9214364837600034816 = true → rg (fprod a b) < 243194379878006784 ∨ pX a b = true) := x2
              have RM : Hid (M.rng (fprod a b)) := rm
              clear x1 x2 hC hz3 hz4
              obtain ⟨ny, oy, vy, gy, F4⟩ := to_four p_D (bC.ok (by omega)) H
              have R1 := to_rd oy
              rw [vy] at R1
              have r1 := toR_range oy 0
              obtain ⟨k, hk⟩ : ∃ k, k = fun way => toR way ny := ⟨_, rfl⟩
              rw [← hk] at F4 R1
              have r1 : M.rng (k 0).1 := by rw [hk]; exact r1
              have S2 := fun W => same6 rm r1 (same_near R1 mN) W
              have hp0 := dnum_zero p_D
              clear R1 r1 mN vy gy oy hk bC rm
              generalize pX a b = PX at *
              generalize prL a b = l4 at *
              generalize fprod a b = m at *
              have x_k := heap_past (.cells #[.bool p_g, .slice p_o p_n p_c, .int .i64 p_e] 26) x_k
              have y_k := heap_past (.cells #[.bool p_g, .slice p_o p_n p_c, .int .i64 p_e] 26) y_k
              have s_k := heap_past (.cells #[.bool p_g, .slice p_o p_n p_c, .int .i64 p_e] 26) s_k
              have p_k := heap_a1 y20 (.cells #[.bool p_g, .slice p_o p_n p_c, .int .i64 p_e] 26)
              have x_D := x_D.keeps (bel_alloc y20 (.cells #[.bool p_g, .slice p_o p_n p_c, .int .i64 p_e] 26))
              have y_D := y_D.keeps (bel_alloc y20 (.cells #[.bool p_g, .slice p_o p_n p_c, .int .i64 p_e] 26))
              have s_D := s_D.keeps (bel_alloc y20 (.cells #[.bool p_g, .slice p_o p_n p_c, .int .i64 p_e] 26))
              have p_D := p_D.keeps (bel_alloc y20 (.cells #[.bool p_g, .slice p_o p_n p_c, .int .i64 p_e] 26))
              have H := H.keeps (bel_alloc y20 (.cells #[.bool p_g, .slice p_o p_n p_c, .int .i64 p_e] 26))
              have F4 := F4.keeps (bel_alloc y20 (.cells #[.bool p_g, .slice p_o p_n p_c, .int .i64 p_e] 26))
              have hb21' := bel_trans hb20 (bel_alloc y20 (.cells #[.bool p_g, .slice p_o p_n p_c, .int .i64 p_e] 26))
              go_wp2_with fail
              generalize y20.alloc (.cells #[.bool p_g, .slice p_o p_n p_c, .int .i64 p_e] 26) = x21 at x_k y_k s_k p_k x_D y_D s_D p_D H F4 hb21' ⊢
              refine (F4.at 0 (by decide)).mono ?_
              rintro _ y21 ⟨rfl, hw21⟩
              have H := H.keeps hw21
              have F4 := F4.keeps hw21
              have x_k := (hw21.block _ (Array.getElem?_eq_some_iff.1 x_k).1).trans x_k
              have x_D := x_D.keeps hw21
              have y_k := (hw21.block _ (Array.getElem?_eq_some_iff.1 y_k).1).trans y_k
              have y_D := y_D.keeps hw21
              have s_k := (hw21.block _ (Array.getElem?_eq_some_iff.1 s_k).1).trans s_k
              have s_D := s_D.keeps hw21
              have p_k := (hw21.block _ (Array.getElem?_eq_some_iff.1 p_k).1).trans p_k
              have p_D := p_D.keeps hw21
              have hb21 := bel_trans hb21' hw21
              clear F4
              generalize (k 0).1 = n2 at *
              generalize (k 0).2 = o2 at *
              go_wp2_with fail
              refine (C4.out _ H).mono ?_
              rintro _ y22 ⟨rfl, hw22⟩
              have H := H.keeps hw22
              have x_k := (hw22.block _ (Array.getElem?_eq_some_iff.1 x_k).1).trans x_k
              have x_D := x_D.keeps hw22
              have y_k := (hw22.block _ (Array.getElem?_eq_some_iff.1 y_k).1).trans y_k
              have y_D := y_D.keeps hw22
              have s_k := (hw22.block _ (Array.getElem?_eq_some_iff.1 s_k).1).trans s_k
              have s_D := s_D.keeps hw22
              have p_k := (hw22.block _ (Array.getElem?_eq_some_iff.1 p_k).1).trans p_k
              have p_D := p_D.keeps hw22
              have hb22 := bel_trans hb21 hw22
              go_wp2_with fail
              refine (join6 H).mono ?_
              rintro _ y23 ⟨rfl, hw23⟩
              have H := H.keeps hw23
              have x_k := (hw23.block _ (Array.getElem?_eq_some_iff.1 x_k).1).trans x_k
              have x_D := x_D.keeps hw23
              have y_k := (hw23.block _ (Array.getElem?_eq_some_iff.1 y_k).1).trans y_k
              have y_D := y_D.keeps hw23
              have s_k := (hw23.block _ (Array.getElem?_eq_some_iff.1 s_k).1).trans s_k
              have s_D := s_D.keeps hw23
              have p_k := (hw23.block _ (Array.getElem?_eq_some_iff.1 p_k).1).trans p_k
              have p_D := p_D.keeps hw23
              have hb23 := bel_trans hb22 hw23
              go_wp2_with fail
              refine (S2 _).mono ?_
              rintro _ y24 ⟨rfl, hw24⟩
              have H := H.keeps hw24
              have x_k := (hw24.block _ (Array.getElem?_eq_some_iff.1 x_k).1).trans x_k
              have x_D := x_D.keeps hw24
              have y_k := (hw24.block _ (Array.getElem?_eq_some_iff.1 y_k).1).trans y_k
              have y_D := y_D.keeps hw24
              have s_k := (hw24.block _ (Array.getElem?_eq_some_iff.1 s_k).1).trans s_k
              have s_D := s_D.keeps hw24
              have p_k := (hw24.block _ (Array.getElem?_eq_some_iff.1 p_k).1).trans p_k
              have p_D := p_D.keeps hw24
              have hb24 := bel_trans hb23 hw24
              clear C4 S2
              by_cases hC0 : C = 0
              · have e1 := X1.out hC0
                have hpn := hp0.2 hC0
                clear X1 X2 hp0 hC0 Z5 RM
                subst e1
                have f_p0 := blkC p_k 0 rfl
                have f_p1 := blkC p_k 1 rfl
                have f_p2 := blkC p_k 2 rfl
                go_wp2
                all_goals go_ret
                all_goals exact ⟨rfl, hb24⟩
              · have e2 := X2.out hC0
                have E2 : Hid (szB m 9214364837600034816 = true → rg m < 243194379878006784 ∨ PX = true) := e2
                have hpn : ¬ p_n = 0 := fun c => hC0 (hp0.1 c)
                clear X1 X2 hp0 hC0 e2
                have f_p0 := blkC p_k 0 rfl
                have f_p1 := blkC p_k 1 rfl
                have f_p2 := blkC p_k 2 rfl
                go_wp2_with fail
                clear f_p0 f_p1 f_p2
                refine (Z5.out _ H).mono ?_
                rintro _ y25 ⟨rfl, hw25⟩
                have H := H.keeps hw25
                have x_k := (hw25.block _ (Array.getElem?_eq_some_iff.1 x_k).1).trans x_k
                have x_D := x_D.keeps hw25
                have y_k := (hw25.block _ (Array.getElem?_eq_some_iff.1 y_k).1).trans y_k
                have y_D := y_D.keeps hw25
                have s_k := (hw25.block _ (Array.getElem?_eq_some_iff.1 s_k).1).trans s_k
                have s_D := s_D.keeps hw25
                have p_k := (hw25.block _ (Array.getElem?_eq_some_iff.1 p_k).1).trans p_k
                have p_D := p_D.keeps hw25
                have hb25 := bel_trans hb24 hw25
                cases hz5 : szB m 9214364837600034816
                · clear Z5 E2
                  go_wp2
                  all_goals go_ret
                  all_goals exact ⟨rfl, hb25⟩
                · have pm := (sz_of hz5).1
                  have e3 := E2.out hz5
                  have LM := size_less RM.out pm (show (0 : Int) ≤ 243194379878006784 by decide) (show (243194379878006784 : Int) < 9218868437227405312 by decide)
                  clear Z5 E2 hz5
                  go_wp2_with fail
                  refine (abs6 RM.out H).mono ?_
                  rintro _ y26 ⟨rfl, hw26⟩
                  have H := H.keeps hw26
                  have x_k := (hw26.block _ (Array.getElem?_eq_some_iff.1 x_k).1).trans x_k
                  have x_D := x_D.keeps hw26
                  have y_k := (hw26.block _ (Array.getElem?_eq_some_iff.1 y_k).1).trans y_k
                  have y_D := y_D.keeps hw26
                  have s_k := (hw26.block _ (Array.getElem?_eq_some_iff.1 s_k).1).trans s_k
                  have s_D := s_D.keeps hw26
                  have p_k := (hw26.block _ (Array.getElem?_eq_some_iff.1 p_k).1).trans p_k
                  have p_D := p_D.keeps hw26
                  have hb26 := bel_trans hb25 hw26
                  by_cases hl2 : rg m < 243194379878006784
                  · rw [decide_eq_true hl2] at LM
                    have LL := fun W => less6 (abs_rng RM.out pm) (show M.rng 243194379878006784 by unfold M.rng; decide) LM W
                    clear LM e3 hl2
                    generalize M.abs m = am at *
                    go_wp2_with fail
                    refine (LL _).mono ?_
                    rintro _ y27 ⟨rfl, hw27⟩
                    have H := H.keeps hw27
                    have x_k := (hw27.block _ (Array.getElem?_eq_some_iff.1 x_k).1).trans x_k
                    have x_D := x_D.keeps hw27
                    have y_k := (hw27.block _ (Array.getElem?_eq_some_iff.1 y_k).1).trans y_k
                    have y_D := y_D.keeps hw27
                    have s_k := (hw27.block _ (Array.getElem?_eq_some_iff.1 s_k).1).trans s_k
                    have s_D := s_D.keeps hw27
                    have p_k := (hw27.block _ (Array.getElem?_eq_some_iff.1 p_k).1).trans p_k
                    have p_D := p_D.keeps hw27
                    have hb27 := bel_trans hb26 hw27
                    go_wp2
                    all_goals go_ret
                    all_goals exact ⟨rfl, hb27⟩
                  · rw [decide_eq_false hl2] at LM
                    have LL := fun W => less6 (abs_rng RM.out pm) (show M.rng 243194379878006784 by unfold M.rng; decide) LM W
                    have e4 : PX = true := by rcases e3 with g | g; exact absurd g hl2; exact g
                    clear LM e3 hl2
                    generalize M.abs m = am at *
                    subst e4
                    go_wp2_with fail
                    refine (LL _).mono ?_
                    rintro _ y27 ⟨rfl, hw27⟩
                    have H := H.keeps hw27
                    have x_k := (hw27.block _ (Array.getElem?_eq_some_iff.1 x_k).1).trans x_k
                    have x_D := x_D.keeps hw27
                    have y_k := (hw27.block _ (Array.getElem?_eq_some_iff.1 y_k).1).trans y_k
                    have y_D := y_D.keeps hw27
                    have s_k := (hw27.block _ (Array.getElem?_eq_some_iff.1 s_k).1).trans s_k
                    have s_D := s_D.keeps hw27
                    have p_k := (hw27.block _ (Array.getElem?_eq_some_iff.1 p_k).1).trans p_k
                    have p_D := p_D.keeps hw27
                    have hb27 := bel_trans hb26 hw27
                    go_wp2
                    all_goals go_ret
                    all_goals exact ⟨rfl, hb27⟩
        · go_wp2_with fail
          refine (Z3.out _ H).mono ?_
          rintro _ y17 ⟨rfl, hw17⟩
          have H := H.keeps hw17
          have x_k := (hw17.block _ (Array.getElem?_eq_some_iff.1 x_k).1).trans x_k
          have x_D := x_D.keeps hw17
          have y_k := (hw17.block _ (Array.getElem?_eq_some_iff.1 y_k).1).trans y_k
          have y_D := y_D.keeps hw17
          have s_k := (hw17.block _ (Array.getElem?_eq_some_iff.1 s_k).1).trans s_k
          have s_D := s_D.keeps hw17
          have hb17 := bel_trans hb16 hw17
          cases hz3 : szB a 9092767647661031424
          · clear Z3 Z4 Z5 C4 C5
            go_wp2
            all_goals go_ret
            all_goals exact ⟨rfl, hb17⟩
          · clear Z3
            go_wp2_with fail
            refine (Z4.out _ H).mono ?_
            rintro _ y18 ⟨rfl, hw18⟩
            have H := H.keeps hw18
            have x_k := (hw18.block _ (Array.getElem?_eq_some_iff.1 x_k).1).trans x_k
            have x_D := x_D.keeps hw18
            have y_k := (hw18.block _ (Array.getElem?_eq_some_iff.1 y_k).1).trans y_k
            have y_D := y_D.keeps hw18
            have s_k := (hw18.block _ (Array.getElem?_eq_some_iff.1 s_k).1).trans s_k
            have s_D := s_D.keeps hw18
            have hb18 := bel_trans hb17 hw18
            cases hz4 : szB b 9092767647661031424
            · clear Z4 Z5 C4 C5
              go_wp2
              all_goals go_ret
              all_goals exact ⟨rfl, hb18⟩
            · clear Z4
              rw [sp_996 HA.out hz3] at C5
              generalize spH a = q1 at *
              generalize spL a = q2 at *
              go_wp2_with fail
              refine (C5 _).mono ?_
              rintro _ y19 ⟨rfl, hw19⟩
              have H := H.keeps hw19
              have x_k := (hw19.block _ (Array.getElem?_eq_some_iff.1 x_k).1).trans x_k
              have x_D := x_D.keeps hw19
              have y_k := (hw19.block _ (Array.getElem?_eq_some_iff.1 y_k).1).trans y_k
              have y_D := y_D.keeps hw19
              have s_k := (hw19.block _ (Array.getElem?_eq_some_iff.1 s_k).1).trans s_k
              have s_D := s_D.keeps hw19
              have hb19 := bel_trans hb18 hw19
              clear C5
              have f_x0 := blkC x_k 0 rfl
              have f_x1 := blkC x_k 1 rfl
              have f_x2 := blkC x_k 2 rfl
              have f_y0 := blkC y_k 0 rfl
              have f_y1 := blkC y_k 1 rfl
              have f_y2 := blkC y_k 2 rfl
              go_wp2_with fail
              clear f_x0 f_x1 f_x2 f_y0 f_y1 f_y2
              refine (mul_B x_D y_D (patV_bd pa) (patV_bd pb) (by omega) H.tab).mono ?_
              rintro _ y20 ⟨v, C, rfl, h20, hC, bC⟩
              obtain ⟨p_g, p_o, p_n, p_c, p_e, rfl⟩ := dans_shape h20
              have hw20 := h20.below
              have p_D := h20.num
              have H := H.keeps hw20
              have x_k := (hw20.block _ (Array.getElem?_eq_some_iff.1 x_k).1).trans x_k
              have x_D := x_D.keeps hw20
              have y_k := (hw20.block _ (Array.getElem?_eq_some_iff.1 y_k).1).trans y_k
              have y_D := y_D.keeps hw20
              have s_k := (hw20.block _ (Array.getElem?_eq_some_iff.1 s_k).1).trans s_k
              have s_D := s_D.keeps hw20
              have hb20 := bel_trans hb19 hw20
              obtain ⟨_, rm, mN, x1, x2⟩ := prem_prod HA.out HB.out hz3 hz4 hC
              have X1 : Hid (C = 0 → pX a b = true) := x1
              have X2 : Hid (C ≠ 0 → szB (fprod a b) 9214364837600034816 = true → rg (fprod a b) < 243194379878006784 ∨ pX a b = true) := x2
              have RM : Hid (M.rng (fprod a b)) := rm
              clear x1 x2 hC hz3 hz4
              obtain ⟨ny, oy, vy, gy, F4⟩ := to_four p_D (bC.ok (by omega)) H
              have R1 := to_rd oy
              rw [vy] at R1
              have r1 := toR_range oy 0
              obtain ⟨k, hk⟩ : ∃ k, k = fun way => toR way ny := ⟨_, rfl⟩
              rw [← hk] at F4 R1
              have r1 : M.rng (k 0).1 := by rw [hk]; exact r1
              have S2 := fun W => same6 rm r1 (same_near R1 mN) W
              have hp0 := dnum_zero p_D
              clear R1 r1 mN vy gy oy hk bC rm
              generalize pX a b = PX at *
              generalize prL a b = l4 at *
              generalize fprod a b = m at *
              have x_k := heap_past (.cells #[.bool p_g, .slice p_o p_n p_c, .int .i64 p_e] 26) x_k
              have y_k := heap_past (.cells #[.bool p_g, .slice p_o p_n p_c, .int .i64 p_e] 26) y_k
              have s_k := heap_past (.cells #[.bool p_g, .slice p_o p_n p_c, .int .i64 p_e] 26) s_k
              have p_k := heap_a1 y20 (.cells #[.bool p_g, .slice p_o p_n p_c, .int .i64 p_e] 26)
              have x_D := x_D.keeps (bel_alloc y20 (.cells #[.bool p_g, .slice p_o p_n p_c, .int .i64 p_e] 26))
              have y_D := y_D.keeps (bel_alloc y20 (.cells #[.bool p_g, .slice p_o p_n p_c, .int .i64 p_e] 26))
              have s_D := s_D.keeps (bel_alloc y20 (.cells #[.bool p_g, .slice p_o p_n p_c, .int .i64 p_e] 26))
              have p_D := p_D.keeps (bel_alloc y20 (.cells #[.bool p_g, .slice p_o p_n p_c, .int .i64 p_e] 26))
              have H := H.keeps (bel_alloc y20 (.cells #[.bool p_g, .slice p_o p_n p_c, .int .i64 p_e] 26))
              have F4 := F4.keeps (bel_alloc y20 (.cells #[.bool p_g, .slice p_o p_n p_c, .int .i64 p_e] 26))
              have hb21' := bel_trans hb20 (bel_alloc y20 (.cells #[.bool p_g, .slice p_o p_n p_c, .int .i64 p_e] 26))
              go_wp2_with fail
              generalize y20.alloc (.cells #[.bool p_g, .slice p_o p_n p_c, .int .i64 p_e] 26) = x21 at x_k y_k s_k p_k x_D y_D s_D p_D H F4 hb21' ⊢
              refine (F4.at 0 (by decide)).mono ?_
              rintro _ y21 ⟨rfl, hw21⟩
              have H := H.keeps hw21
              have F4 := F4.keeps hw21
              have x_k := (hw21.block _ (Array.getElem?_eq_some_iff.1 x_k).1).trans x_k
              have x_D := x_D.keeps hw21
              have y_k := (hw21.block _ (Array.getElem?_eq_some_iff.1 y_k).1).trans y_k
              have y_D := y_D.keeps hw21
              have s_k := (hw21.block _ (Array.getElem?_eq_some_iff.1 s_k).1).trans s_k
              have s_D := s_D.keeps hw21
              have p_k := (hw21.block _ (Array.getElem?_eq_some_iff.1 p_k).1).trans p_k
              have p_D := p_D.keeps hw21
              have hb21 := bel_trans hb21' hw21
              clear F4
              generalize (k 0).1 = n2 at *
              generalize (k 0).2 = o2 at *
              go_wp2_with fail
              refine (C4.out _ H).mono ?_
              rintro _ y22 ⟨rfl, hw22⟩
              have H := H.keeps hw22
              have x_k := (hw22.block _ (Array.getElem?_eq_some_iff.1 x_k).1).trans x_k
              have x_D := x_D.keeps hw22
              have y_k := (hw22.block _ (Array.getElem?_eq_some_iff.1 y_k).1).trans y_k
              have y_D := y_D.keeps hw22
              have s_k := (hw22.block _ (Array.getElem?_eq_some_iff.1 s_k).1).trans s_k
              have s_D := s_D.keeps hw22
              have p_k := (hw22.block _ (Array.getElem?_eq_some_iff.1 p_k).1).trans p_k
              have p_D := p_D.keeps hw22
              have hb22 := bel_trans hb21 hw22
              go_wp2_with fail
              refine (join6 H).mono ?_
              rintro _ y23 ⟨rfl, hw23⟩
              have H := H.keeps hw23
              have x_k := (hw23.block _ (Array.getElem?_eq_some_iff.1 x_k).1).trans x_k
              have x_D := x_D.keeps hw23
              have y_k := (hw23.block _ (Array.getElem?_eq_some_iff.1 y_k).1).trans y_k
              have y_D := y_D.keeps hw23
              have s_k := (hw23.block _ (Array.getElem?_eq_some_iff.1 s_k).1).trans s_k
              have s_D := s_D.keeps hw23
              have p_k := (hw23.block _ (Array.getElem?_eq_some_iff.1 p_k).1).trans p_k
              have p_D := p_D.keeps hw23
              have hb23 := bel_trans hb22 hw23
              go_wp2_with fail
              refine (S2 _).mono ?_
              rintro _ y24 ⟨rfl, hw24⟩
              have H := H.keeps hw24
              have x_k := (hw24.block _ (Array.getElem?_eq_some_iff.1 x_k).1).trans x_k
              have x_D := x_D.keeps hw24
              have y_k := (hw24.block _ (Array.getElem?_eq_some_iff.1 y_k).1).trans y_k
              have y_D := y_D.keeps hw24
              have s_k := (hw24.block _ (Array.getElem?_eq_some_iff.1 s_k).1).trans s_k
              have s_D := s_D.keeps hw24
              have p_k := (hw24.block _ (Array.getElem?_eq_some_iff.1 p_k).1).trans p_k
              have p_D := p_D.keeps hw24
              have hb24 := bel_trans hb23 hw24
              clear C4 S2
              by_cases hC0 : C = 0
              · have e1 := X1.out hC0
                have hpn := hp0.2 hC0
                clear X1 X2 hp0 hC0 Z5 RM
                subst e1
                have f_p0 := blkC p_k 0 rfl
                have f_p1 := blkC p_k 1 rfl
                have f_p2 := blkC p_k 2 rfl
                go_wp2
                all_goals go_ret
                all_goals exact ⟨rfl, hb24⟩
              · have e2 := X2.out hC0
                have E2 : Hid (szB m 9214364837600034816 = true → rg m < 243194379878006784 ∨ PX = true) := e2
                have hpn : ¬ p_n = 0 := fun c => hC0 (hp0.1 c)
                clear X1 X2 hp0 hC0 e2
                have f_p0 := blkC p_k 0 rfl
                have f_p1 := blkC p_k 1 rfl
                have f_p2 := blkC p_k 2 rfl
                go_wp2_with fail
                clear f_p0 f_p1 f_p2
                refine (Z5.out _ H).mono ?_
                rintro _ y25 ⟨rfl, hw25⟩
                have H := H.keeps hw25
                have x_k := (hw25.block _ (Array.getElem?_eq_some_iff.1 x_k).1).trans x_k
                have x_D := x_D.keeps hw25
                have y_k := (hw25.block _ (Array.getElem?_eq_some_iff.1 y_k).1).trans y_k
                have y_D := y_D.keeps hw25
                have s_k := (hw25.block _ (Array.getElem?_eq_some_iff.1 s_k).1).trans s_k
                have s_D := s_D.keeps hw25
                have p_k := (hw25.block _ (Array.getElem?_eq_some_iff.1 p_k).1).trans p_k
                have p_D := p_D.keeps hw25
                have hb25 := bel_trans hb24 hw25
                cases hz5 : szB m 9214364837600034816
                · clear Z5 E2
                  go_wp2
                  all_goals go_ret
                  all_goals exact ⟨rfl, hb25⟩
                · have pm := (sz_of hz5).1
                  have e3 := E2.out hz5
                  have LM := size_less RM.out pm (show (0 : Int) ≤ 243194379878006784 by decide) (show (243194379878006784 : Int) < 9218868437227405312 by decide)
                  clear Z5 E2 hz5
                  go_wp2_with fail
                  refine (abs6 RM.out H).mono ?_
                  rintro _ y26 ⟨rfl, hw26⟩
                  have H := H.keeps hw26
                  have x_k := (hw26.block _ (Array.getElem?_eq_some_iff.1 x_k).1).trans x_k
                  have x_D := x_D.keeps hw26
                  have y_k := (hw26.block _ (Array.getElem?_eq_some_iff.1 y_k).1).trans y_k
                  have y_D := y_D.keeps hw26
                  have s_k := (hw26.block _ (Array.getElem?_eq_some_iff.1 s_k).1).trans s_k
                  have s_D := s_D.keeps hw26
                  have p_k := (hw26.block _ (Array.getElem?_eq_some_iff.1 p_k).1).trans p_k
                  have p_D := p_D.keeps hw26
                  have hb26 := bel_trans hb25 hw26
                  by_cases hl2 : rg m < 243194379878006784
                  · rw [decide_eq_true hl2] at LM
                    have LL := fun W => less6 (abs_rng RM.out pm) (show M.rng 243194379878006784 by unfold M.rng; decide) LM W
                    clear LM e3 hl2
                    generalize M.abs m = am at *
                    go_wp2_with fail
                    refine (LL _).mono ?_
                    rintro _ y27 ⟨rfl, hw27⟩
                    have H := H.keeps hw27
                    have x_k := (hw27.block _ (Array.getElem?_eq_some_iff.1 x_k).1).trans x_k
                    have x_D := x_D.keeps hw27
                    have y_k := (hw27.block _ (Array.getElem?_eq_some_iff.1 y_k).1).trans y_k
                    have y_D := y_D.keeps hw27
                    have s_k := (hw27.block _ (Array.getElem?_eq_some_iff.1 s_k).1).trans s_k
                    have s_D := s_D.keeps hw27
                    have p_k := (hw27.block _ (Array.getElem?_eq_some_iff.1 p_k).1).trans p_k
                    have p_D := p_D.keeps hw27
                    have hb27 := bel_trans hb26 hw27
                    go_wp2
                    all_goals go_ret
                    all_goals exact ⟨rfl, hb27⟩
                  · rw [decide_eq_false hl2] at LM
                    have LL := fun W => less6 (abs_rng RM.out pm) (show M.rng 243194379878006784 by unfold M.rng; decide) LM W
                    have e4 : PX = true := by rcases e3 with g | g; exact absurd g hl2; exact g
                    clear LM e3 hl2
                    generalize M.abs m = am at *
                    subst e4
                    go_wp2_with fail
                    refine (LL _).mono ?_
                    rintro _ y27 ⟨rfl, hw27⟩
                    have H := H.keeps hw27
                    have x_k := (hw27.block _ (Array.getElem?_eq_some_iff.1 x_k).1).trans x_k
                    have x_D := x_D.keeps hw27
                    have y_k := (hw27.block _ (Array.getElem?_eq_some_iff.1 y_k).1).trans y_k
                    have y_D := y_D.keeps hw27
                    have s_k := (hw27.block _ (Array.getElem?_eq_some_iff.1 s_k).1).trans s_k
                    have s_D := s_D.keeps hw27
                    have p_k := (hw27.block _ (Array.getElem?_eq_some_iff.1 p_k).1).trans p_k
                    have p_D := p_D.keeps hw27
                    have hb27 := bel_trans hb26 hw27
                    go_wp2
                    all_goals go_ret
                    all_goals exact ⟨rfl, hb27⟩
theorem own : ownKnob Tryd.prog.godebug = none := by kernel_rfl
theorem laidOut : laidOutB Tryd.prog = true := by kernel_rfl
theorem door_met (os : Os) (args : Array Value) : laidMetH Tryd.prog Rows.eftPremiseRow.laid ((World.doorLaid Tryd.prog 400 os).forCall (fun _ _ => 0) ⟨#[], args, []⟩).memory :=
  laidMetH_of_parts3 (fuel := 8) (laidMet_of_run' 8 (by kernel_rfl) (by kernel_rfl)) (by kernel_rfl) (by kernel_rfl)
set_option maxRecDepth 100000 in
theorem lifted (os : Os) (started : os.Started) (H : Type) (enc : TypeId × Value → H) :
    ReturnsInHanded {} Tryd.checked os 3 .any (fun w args => (Rows.eftPremiseSpec.pre enc Tryd.prog Tryd.f3 [] false w args ∧ laidMetH Tryd.prog Rows.eftPremiseRow.laid w) ∧ sizedMet enc Tryd.prog Tryd.f3 (OpenSpec.ofChange Rows.eftPremiseSpec) false w args)
      (Rows.eftPremiseSpec.post enc Tryd.prog Tryd.f3 false true false false) := by
  refine returnsInHanded_of_change_and (C := Tryd.checked) (X := fun w _ => laidMetH Tryd.prog Rows.eftPremiseRow.laid w) (fun _ _ _ hh h => h.of_heap hh) own started (by kernel_rfl) Tryd.func3
    (ChangeSpec.witness_shaped (enc := enc) (C := Tryd.checked) (os := os) (X := fun w _ => laidMetH Tryd.prog Rows.eftPremiseRow.laid w) false (World.doorLaid Tryd.prog 400 os) #[.int .i64 0, .int .i64 0] 8 rfl (World.shaped_of_RefB (by kernel_rfl) (by kernel_rfl)) (by kernel_rfl) (by kernel_rfl) (by kernel_rfl) (door_met os _)) ?_
  intro W base args ds gs before hval0 hW _ _ hL _
  have hval : ∀ (j : Nat) t v, Tryd.f3.params[j]? = some t → args[j]? = some v → Value.okWide Tryd.prog W .any base t v := hval0
  have hW' := hW
  obtain ⟨p, q, hA0, hV, rfl, hfz, hnd⟩ := hW
  have hA : DataW.TrodAll enc Tryd.prog W 0 (fun _ => true) true Tryd.f3.params.toList args.toList ds p := hA0
  rw [Tryd.params3] at hA hval
  obtain ⟨v0, vs0, d0, ds0, p0, q0, hargs, rfl, rfl, h0, r0⟩ := trodAll_cons hA
  obtain ⟨v1, vs1, d1, ds1, p1, q1, rfl, rfl, rfl, h1, r1⟩ := trodAll_cons r0
  obtain ⟨rfl, rfl, rfl⟩ := trodAll_nil r1
  obtain rfl : args = #[v0, v1] := by cases args; simp_all
  obtain ⟨rfl, rfl⟩ := trodVars_none hV
  obtain ⟨a0, rfl, rfl, rfl, w0⟩ := open_int Tryd.underlying3 (hval 0 3 v0 rfl rfl) h0
  obtain ⟨a1, rfl, rfl, rfl, w1⟩ := open_int Tryd.underlying3 (hval 1 3 v1 rfl rfl) h1
  clear hA0 hval0
  refine (walk a0 a1 W (rng_of w0) (rng_of w1) (hold6_of hL)).mono fun e W' ⟨he, bel⟩ => ?_
  subst he
  exact ⟨_, rfl, _, _, _, [], _, [], hW', trodAll_mk1 (shut_bool Tryd.underlying4 _), (trodAll_cons_mk (shut_int Tryd.underlying3 w0) (trodAll_cons_mk (shut_int Tryd.underlying3 w1) trodAll_mk0)), rfl, bel.frame _, fun h => by cases h⟩
theorem said : Rows.EftPremiseSaid :=
  OpenClaim.holds_of_wide 3 Tryd.f3 rfl rfl rfl rfl rfl rfl rfl ⟨rfl, rfl, rfl, rfl, rfl⟩ rfl rfl rfl rfl rfl (by kernel_rfl) Tryd.func3 (by kernel_rfl)
    (of_decide_eq_true (by kernel_rfl)) (by unfold Func.isWrapper; first | (rw [if_pos (by decide +kernel)]; kernel_rfl) | (rw [if_neg (by decide +kernel)]; exact ⟨rfl, rfl⟩))
    (fun os started H enc _ => lifted os started H enc)
theorem plain (f : FuncId) (fn : Func) (hf : Tryd.pinned.checked.prog.funcNamed Tryd.f3.name = some f) (hfn : Tryd.pinned.checked.prog.funcs[f]? = some fn) :
    true = Tryd.pinned.checked.prog.looks [] ∧ ∀ (j : Nat) t, fn.params[j]? = some t → Tryd.pinned.checked.prog.wantsStandIn t = false := by
  obtain rfl : f = 3 := Option.some.inj ((show Tryd.prog.funcNamed Tryd.f3.name = some 3 by kernel_rfl).symm.trans hf) |>.symm
  obtain rfl : fn = Tryd.f3 := (Option.some.inj (Tryd.func3.symm.trans hfn)).symm
  refine ⟨by kernel_rfl, fun j t ht => ?_⟩
  rw [Tryd.params3] at ht
  obtain rfl : t = 3 := by simpa using Array.mem_of_getElem? ht
  exact (show Tryd.prog.wantsStandIn 3 = false by kernel_rfl)
/-- THE CARD. -/
theorem card : Rows.EftPremiseCardSaid :=
  Claim7.holds_tied_plain_at .later [] _ _ _ _ said (fun _ h => by cases h) (by kernel_rfl) (fun _ h => by cases h) eftPremise_row_tie rfl ⟨rfl, rfl⟩ (by kernel_rfl) rfl plain (by kernel_rfl)
end Go.Proofs.YtoehjolmniddlaaDoor.eftPremise
namespace Go.Proofs.YtoehjolmniddlaaDoor
/-- EftPremise: the statement as it is given. -/
theorem eftPremise_holds : Rows.EftPremiseCardSaid := eftPremise.card
end Go.Proofs.YtoehjolmniddlaaDoor
