/-
  RoundNearest: for every number the law returns true: no float is nearer than the nearest, and of two as near it is the even one. As a card: the library's tables and the layouts start as the program's text lays them.
-/
import Derived.Test.YtgplnodgndbdeaaDoorPart14
import Derived.Test.YtgplnodgndbdeaaDoorCards
import Derived.Test.YtgplnodgndbdeaaDoorTie
namespace Go.Proofs.YtgplnodgndbdeaaDoor.roundNearest
open Go Go.ChangeShapes Go.WideShapes Go.ChangeAt Go.RowKit Go.Proofs.YtgplnodgndbdeaaDoor Go.Proofs.YtgplnodgndbdeaaDoor.M
set_option linter.unusedSimpArgs false
set_option linter.unusedVariables false

set_option maxRecDepth 100000 in
set_option maxHeartbeats 8000000 in
theorem walk (l : NumR) (w : World) (hl : Row w l.ao l.n l.cap l.d) (el : rng l.e) (H : Hold4 w) :
    Calls Tryd.prog 4 #[l.v] w fun e w' => e = .returned (.bool true) ∧ Below w.heap.size w w' := by
  have l_N := fun W hb => num4_B l W (hl.keeps hb) el
  unfold NumR.v at *
  obtain ⟨l_g, l_o, l_n, l_c, l_d, l_e⟩ := l
  simp only at *
  clear hl el
  go_enter Tryd.func4, Tryd.ntmps4
  have l_k : (w.alloc (.cells #[.bool l_g, .slice l_o l_n l_c, .int .i64 l_e] 24)).heap[w.heap.size]? = some (.cells #[.bool l_g, .slice l_o l_n l_c, .int .i64 l_e] 24 (0, 0)) := heap_a1 _ _
  have hb0 : Below w.heap.size w (w.alloc (.cells #[.bool l_g, .slice l_o l_n l_c, .int .i64 l_e] 24)) := bel_alloc _ _
  go_wp2_with fail
  generalize (w.alloc (.cells #[.bool l_g, .slice l_o l_n l_c, .int .i64 l_e] 24)) = x0 at l_k hb0 ⊢
  have H := H.keeps hb0
  refine (l_N _ hb0 H.tab).mono ?_
  rintro _ y1 ⟨v, y_V, rfl, h1 , y_B⟩
  obtain ⟨y_g, y_o, y_n, y_c, y_e, rfl⟩ := dans_shape h1
  have hw1 := h1.below
  have y_D := h1.num
  have H := H.keeps hw1
  have l_k := (hw1.block _ (Array.getElem?_eq_some_iff.1 l_k).1).trans l_k
  have hb1 := bel_trans hb0 hw1
  obtain ⟨f, F4, hB, hR, hN⟩ := to_nea y_D (y_B.ok (by omega)) H
  have l_k := heap_past (.cells #[.bool y_g, .slice y_o y_n y_c, .int .i64 y_e] 24) l_k
  have y_k := heap_a1 y1 (.cells #[.bool y_g, .slice y_o y_n y_c, .int .i64 y_e] 24)
  have y_D := y_D.keeps (bel_alloc y1 (.cells #[.bool y_g, .slice y_o y_n y_c, .int .i64 y_e] 24))
  have H := H.keeps (bel_alloc y1 (.cells #[.bool y_g, .slice y_o y_n y_c, .int .i64 y_e] 24))
  have F4 := F4.keeps (bel_alloc y1 (.cells #[.bool y_g, .slice y_o y_n y_c, .int .i64 y_e] 24))
  have hb2' := bel_trans hb1 (bel_alloc y1 (.cells #[.bool y_g, .slice y_o y_n y_c, .int .i64 y_e] 24))
  go_wp2_with fail
  generalize y1.alloc (.cells #[.bool y_g, .slice y_o y_n y_c, .int .i64 y_e] 24) = x2 at l_k y_k y_D H F4 hb2' ⊢
  refine (F4.at 0 (by decide)).mono ?_
  rintro _ y2 ⟨rfl, hw2⟩
  have H := H.keeps hw2
  have F4 := F4.keeps hw2
  have l_k := (hw2.block _ (Array.getElem?_eq_some_iff.1 l_k).1).trans l_k
  have y_k := (hw2.block _ (Array.getElem?_eq_some_iff.1 y_k).1).trans y_k
  have y_D := y_D.keeps hw2
  have hb2 := bel_trans hb2' hw2
  go_wp2_with fail
  refine (alive4 _ H.env H.tab).mono ?_
  rintro _ y3 ⟨rfl, hw3⟩
  have H := H.keeps hw3
  have F4 := F4.keeps hw3
  have l_k := (hw3.block _ (Array.getElem?_eq_some_iff.1 l_k).1).trans l_k
  have y_k := (hw3.block _ (Array.getElem?_eq_some_iff.1 y_k).1).trans y_k
  have y_D := y_D.keeps hw3
  have hb3 := bel_trans hb2 hw3
  have hN1 : (f 0).2 = true → pok (f 1).1 = true → pok (f 2).1 = true → Nea y_V f := fun a b c => nearest hN a b c
  clear hN
  obtain ⟨_, _, o0, _, _, _, up0⟩ := hB
  have up1 : (f 0).2 = true → (f 0).1 = (f 1).1 ∨ (f 0).1 = (f 2).1 := fun h => (up0 (o0.symm.trans h)).2.2.1
  clear o0 up0
  have F1 := fun W (h : To4 W (.agg #[.bool y_g, .slice y_o y_n y_c, .int .i64 y_e]) f) => h.at 1 (by decide)
  have F2 := fun W (h : To4 W (.agg #[.bool y_g, .slice y_o y_n y_c, .int .i64 y_e]) f) => h.at 2 (by decide)
  have hN : Hid ((f 0).2 = true → pok (f 1).1 = true → pok (f 2).1 = true → (ord (y_V - patV (f 1).1) (patV (f 2).1 - y_V) < 0 → (f 0).1 = (f 1).1) ∧ (0 < ord (y_V - patV (f 1).1) (patV (f 2).1 - y_V) → (f 0).1 = (f 2).1) ∧ (ord (y_V - patV (f 1).1) (patV (f 2).1 - y_V) = 0 → (f 0).1 % 2 = 0)) := fun a b c => ⟨(hN1 a b c).lo, (hN1 a b c).hi, (hN1 a b c).ev⟩
  clear hN1
  generalize (f 0).1 = n at *
  generalize (f 0).2 = o at *
  generalize (f 1).1 = d at *
  generalize (f 2).1 = u at *
  generalize (f 1).2 = o1 at *
  generalize (f 2).2 = o2 at *
  have up : Hid (o = true → n = d ∨ n = u) := up1
  clear up1
  cases o
  · clear up hN F1 F2
    go_wp2_with fail
    refine (alive4 _ H.env H.tab).mono ?_
    rintro _ y4 ⟨rfl, hw4⟩
    have H := H.keeps hw4
    have F4 := F4.keeps hw4
    have l_k := (hw4.block _ (Array.getElem?_eq_some_iff.1 l_k).1).trans l_k
    have y_k := (hw4.block _ (Array.getElem?_eq_some_iff.1 y_k).1).trans y_k
    have y_D := y_D.keeps hw4
    have hb4 := bel_trans hb3 hw4
    go_wp2
    go_ret
    exact ⟨rfl, hb4⟩
  · have up1 := up.out (by first | rfl | trivial)
    clear up
    have up : Hid (n = d ∨ n = u) := up1
    clear up1
    have f_y0 := blkC y_k 0 rfl
    have f_y1 := blkC y_k 1 rfl
    have f_y2 := blkC y_k 2 rfl
    go_wp2_with fail
    clear f_y0 f_y1 f_y2
    refine (F1 _ F4).mono ?_
    rintro _ y4 ⟨rfl, hw4⟩
    have H := H.keeps hw4
    have F4 := F4.keeps hw4
    have l_k := (hw4.block _ (Array.getElem?_eq_some_iff.1 l_k).1).trans l_k
    have y_k := (hw4.block _ (Array.getElem?_eq_some_iff.1 y_k).1).trans y_k
    have y_D := y_D.keeps hw4
    have hb4 := bel_trans hb3 hw4
    have f_y0 := blkC y_k 0 rfl
    have f_y1 := blkC y_k 1 rfl
    have f_y2 := blkC y_k 2 rfl
    go_wp2_with fail
    clear f_y0 f_y1 f_y2
    refine (F2 _ F4).mono ?_
    rintro _ y5 ⟨rfl, hw5⟩
    have H := H.keeps hw5
    have F4 := F4.keeps hw5
    have l_k := (hw5.block _ (Array.getElem?_eq_some_iff.1 l_k).1).trans l_k
    have y_k := (hw5.block _ (Array.getElem?_eq_some_iff.1 y_k).1).trans y_k
    have y_D := y_D.keeps hw5
    have hb5 := bel_trans hb4 hw5
    clear F1 F2 l_N
    cases hpd : pok d
    · go_wp2_with fail
      refine (of_no hpd H).mono ?_
      rintro _ y6 ⟨rfl, hw6⟩
      have H := H.keeps hw6
      have l_k := (hw6.block _ (Array.getElem?_eq_some_iff.1 l_k).1).trans l_k
      have y_k := (hw6.block _ (Array.getElem?_eq_some_iff.1 y_k).1).trans y_k
      have y_D := y_D.keeps hw6
      have hb6 := bel_trans hb5 hw6
      cases hpu : pok u
      · have l_k := heap_past (.cells #[.bool false, .slice none 0 0, .int .i64 0] 24) l_k
        have y_k := heap_past (.cells #[.bool false, .slice none 0 0, .int .i64 0] 24) y_k
        have p_k := heap_a1 y6 (.cells #[.bool false, .slice none 0 0, .int .i64 0] 24)
        have y_D := y_D.keeps (bel_alloc y6 (.cells #[.bool false, .slice none 0 0, .int .i64 0] 24))
        have H := H.keeps (bel_alloc y6 (.cells #[.bool false, .slice none 0 0, .int .i64 0] 24))
        have hb7' := bel_trans hb6 (bel_alloc y6 (.cells #[.bool false, .slice none 0 0, .int .i64 0] 24))
        go_wp2_with fail
        generalize y6.alloc (.cells #[.bool false, .slice none 0 0, .int .i64 0] 24) = x7 at l_k y_k p_k y_D H hb7' ⊢
        refine (of_no hpu H).mono ?_
        rintro _ y7 ⟨rfl, hw7⟩
        have H := H.keeps hw7
        have l_k := (hw7.block _ (Array.getElem?_eq_some_iff.1 l_k).1).trans l_k
        have y_k := (hw7.block _ (Array.getElem?_eq_some_iff.1 y_k).1).trans y_k
        have y_D := y_D.keeps hw7
        have p_k := (hw7.block _ (Array.getElem?_eq_some_iff.1 p_k).1).trans p_k
        have hb7 := bel_trans hb7' hw7
        clear hN
        have hbE := bel_trans hb7 (bel_alloc y7 (.cells #[.bool false, .slice none 0 0, .int .i64 0] 24))
        rcases up.out with e | e
        · subst e
          go_wp2
          all_goals go_ret
          all_goals exact ⟨rfl, hbE⟩
        · subst e
          go_wp2
          all_goals go_ret
          all_goals exact ⟨rfl, hbE⟩
      · have l_k := heap_past (.cells #[.bool false, .slice none 0 0, .int .i64 0] 24) l_k
        have y_k := heap_past (.cells #[.bool false, .slice none 0 0, .int .i64 0] 24) y_k
        have p_k := heap_a1 y6 (.cells #[.bool false, .slice none 0 0, .int .i64 0] 24)
        have y_D := y_D.keeps (bel_alloc y6 (.cells #[.bool false, .slice none 0 0, .int .i64 0] 24))
        have H := H.keeps (bel_alloc y6 (.cells #[.bool false, .slice none 0 0, .int .i64 0] 24))
        have hb7' := bel_trans hb6 (bel_alloc y6 (.cells #[.bool false, .slice none 0 0, .int .i64 0] 24))
        go_wp2_with fail
        generalize y6.alloc (.cells #[.bool false, .slice none 0 0, .int .i64 0] 24) = x7 at l_k y_k p_k y_D H hb7' ⊢
        refine (of_ok hpu H).mono ?_
        rintro _ y7 ⟨v, rfl, h7⟩
        obtain ⟨q_g, q_o, q_n, q_c, q_e, rfl⟩ := dans_shape h7
        have hw7 := h7.below
        have q_D := h7.num
        have H := H.keeps hw7
        have l_k := (hw7.block _ (Array.getElem?_eq_some_iff.1 l_k).1).trans l_k
        have y_k := (hw7.block _ (Array.getElem?_eq_some_iff.1 y_k).1).trans y_k
        have y_D := y_D.keeps hw7
        have p_k := (hw7.block _ (Array.getElem?_eq_some_iff.1 p_k).1).trans p_k
        have hb7 := bel_trans hb7' hw7
        clear hN
        have hbE := bel_trans hb7 (bel_alloc y7 (.cells #[.bool q_g, .slice q_o q_n q_c, .int .i64 q_e] 24))
        rcases up.out with e | e
        · subst e
          go_wp2
          all_goals go_ret
          all_goals exact ⟨rfl, hbE⟩
        · subst e
          go_wp2
          all_goals go_ret
          all_goals exact ⟨rfl, hbE⟩
    · go_wp2_with fail
      refine (of_ok hpd H).mono ?_
      rintro _ y6 ⟨v, rfl, h6⟩
      obtain ⟨p_g, p_o, p_n, p_c, p_e, rfl⟩ := dans_shape h6
      have hw6 := h6.below
      have p_D := h6.num
      have H := H.keeps hw6
      have l_k := (hw6.block _ (Array.getElem?_eq_some_iff.1 l_k).1).trans l_k
      have y_k := (hw6.block _ (Array.getElem?_eq_some_iff.1 y_k).1).trans y_k
      have y_D := y_D.keeps hw6
      have hb6 := bel_trans hb5 hw6
      cases hpu : pok u
      · have l_k := heap_past (.cells #[.bool p_g, .slice p_o p_n p_c, .int .i64 p_e] 24) l_k
        have y_k := heap_past (.cells #[.bool p_g, .slice p_o p_n p_c, .int .i64 p_e] 24) y_k
        have p_k := heap_a1 y6 (.cells #[.bool p_g, .slice p_o p_n p_c, .int .i64 p_e] 24)
        have y_D := y_D.keeps (bel_alloc y6 (.cells #[.bool p_g, .slice p_o p_n p_c, .int .i64 p_e] 24))
        have p_D := p_D.keeps (bel_alloc y6 (.cells #[.bool p_g, .slice p_o p_n p_c, .int .i64 p_e] 24))
        have H := H.keeps (bel_alloc y6 (.cells #[.bool p_g, .slice p_o p_n p_c, .int .i64 p_e] 24))
        have hb7' := bel_trans hb6 (bel_alloc y6 (.cells #[.bool p_g, .slice p_o p_n p_c, .int .i64 p_e] 24))
        go_wp2_with fail
        generalize y6.alloc (.cells #[.bool p_g, .slice p_o p_n p_c, .int .i64 p_e] 24) = x7 at l_k y_k p_k y_D p_D H hb7' ⊢
        refine (of_no hpu H).mono ?_
        rintro _ y7 ⟨rfl, hw7⟩
        have H := H.keeps hw7
        have l_k := (hw7.block _ (Array.getElem?_eq_some_iff.1 l_k).1).trans l_k
        have y_k := (hw7.block _ (Array.getElem?_eq_some_iff.1 y_k).1).trans y_k
        have y_D := y_D.keeps hw7
        have p_k := (hw7.block _ (Array.getElem?_eq_some_iff.1 p_k).1).trans p_k
        have p_D := p_D.keeps hw7
        have hb7 := bel_trans hb7' hw7
        clear hN
        have hbE := bel_trans hb7 (bel_alloc y7 (.cells #[.bool false, .slice none 0 0, .int .i64 0] 24))
        rcases up.out with e | e
        · subst e
          go_wp2
          all_goals go_ret
          all_goals exact ⟨rfl, hbE⟩
        · subst e
          go_wp2
          all_goals go_ret
          all_goals exact ⟨rfl, hbE⟩
      · have l_k := heap_past (.cells #[.bool p_g, .slice p_o p_n p_c, .int .i64 p_e] 24) l_k
        have y_k := heap_past (.cells #[.bool p_g, .slice p_o p_n p_c, .int .i64 p_e] 24) y_k
        have p_k := heap_a1 y6 (.cells #[.bool p_g, .slice p_o p_n p_c, .int .i64 p_e] 24)
        have y_D := y_D.keeps (bel_alloc y6 (.cells #[.bool p_g, .slice p_o p_n p_c, .int .i64 p_e] 24))
        have p_D := p_D.keeps (bel_alloc y6 (.cells #[.bool p_g, .slice p_o p_n p_c, .int .i64 p_e] 24))
        have H := H.keeps (bel_alloc y6 (.cells #[.bool p_g, .slice p_o p_n p_c, .int .i64 p_e] 24))
        have hb7' := bel_trans hb6 (bel_alloc y6 (.cells #[.bool p_g, .slice p_o p_n p_c, .int .i64 p_e] 24))
        go_wp2_with fail
        generalize y6.alloc (.cells #[.bool p_g, .slice p_o p_n p_c, .int .i64 p_e] 24) = x7 at l_k y_k p_k y_D p_D H hb7' ⊢
        refine (of_ok hpu H).mono ?_
        rintro _ y7 ⟨v, rfl, h7⟩
        obtain ⟨q_g, q_o, q_n, q_c, q_e, rfl⟩ := dans_shape h7
        have hw7 := h7.below
        have q_D := h7.num
        have H := H.keeps hw7
        have l_k := (hw7.block _ (Array.getElem?_eq_some_iff.1 l_k).1).trans l_k
        have y_k := (hw7.block _ (Array.getElem?_eq_some_iff.1 y_k).1).trans y_k
        have y_D := y_D.keeps hw7
        have p_k := (hw7.block _ (Array.getElem?_eq_some_iff.1 p_k).1).trans p_k
        have p_D := p_D.keeps hw7
        have hb7 := bel_trans hb7' hw7
        have p_B := patV_bd hpd
        have q_B := patV_bd hpu
        obtain ⟨n1, n2, n3⟩ := hN.out (by first | rfl | trivial) hpd hpu
        clear hN hpd hpu up
        generalize patV d = p_V at *
        generalize patV u = q_V at *
        have n1 : Hid (ord (y_V - p_V) (q_V - y_V) < 0 → n = d) := n1
        have n2 : Hid (0 < ord (y_V - p_V) (q_V - y_V) → n = u) := n2
        have n3 : Hid (ord (y_V - p_V) (q_V - y_V) = 0 → n % 2 = 0) := n3
        have l_k := heap_past (.cells #[.bool q_g, .slice q_o q_n q_c, .int .i64 q_e] 24) l_k
        have y_k := heap_past (.cells #[.bool q_g, .slice q_o q_n q_c, .int .i64 q_e] 24) y_k
        have p_k := heap_past (.cells #[.bool q_g, .slice q_o q_n q_c, .int .i64 q_e] 24) p_k
        have q_k := heap_a1 y7 (.cells #[.bool q_g, .slice q_o q_n q_c, .int .i64 q_e] 24)
        have y_D := y_D.keeps (bel_alloc y7 (.cells #[.bool q_g, .slice q_o q_n q_c, .int .i64 q_e] 24))
        have p_D := p_D.keeps (bel_alloc y7 (.cells #[.bool q_g, .slice q_o q_n q_c, .int .i64 q_e] 24))
        have q_D := q_D.keeps (bel_alloc y7 (.cells #[.bool q_g, .slice q_o q_n q_c, .int .i64 q_e] 24))
        have H := H.keeps (bel_alloc y7 (.cells #[.bool q_g, .slice q_o q_n q_c, .int .i64 q_e] 24))
        have hb8' := bel_trans hb7 (bel_alloc y7 (.cells #[.bool q_g, .slice q_o q_n q_c, .int .i64 q_e] 24))
        have f_y0 := blkC y_k 0 rfl
        have f_y1 := blkC y_k 1 rfl
        have f_y2 := blkC y_k 2 rfl
        have f_p0 := blkC p_k 0 rfl
        have f_p1 := blkC p_k 1 rfl
        have f_p2 := blkC p_k 2 rfl
        go_wp2_with fail
        clear f_y0 f_y1 f_y2 f_p0 f_p1 f_p2
        generalize y7.alloc (.cells #[.bool q_g, .slice q_o q_n q_c, .int .i64 q_e] 24) = x8 at l_k y_k p_k q_k y_D p_D q_D H hb8' ⊢
        refine (sub_B y_D p_D y_B p_B (by omega) H.tab).mono ?_
        rintro _ y8 ⟨v, rfl, h8⟩
        obtain ⟨a_g, a_o, a_n, a_c, a_e, rfl⟩ := dans_shape h8
        have hw8 := h8.below
        have a_D := h8.num
        have H := H.keeps hw8
        have l_k := (hw8.block _ (Array.getElem?_eq_some_iff.1 l_k).1).trans l_k
        have y_k := (hw8.block _ (Array.getElem?_eq_some_iff.1 y_k).1).trans y_k
        have y_D := y_D.keeps hw8
        have p_k := (hw8.block _ (Array.getElem?_eq_some_iff.1 p_k).1).trans p_k
        have p_D := p_D.keeps hw8
        have q_k := (hw8.block _ (Array.getElem?_eq_some_iff.1 q_k).1).trans q_k
        have q_D := q_D.keeps hw8
        have hb8 := bel_trans hb8' hw8
        have l_k := heap_past (.cells #[.bool a_g, .slice a_o a_n a_c, .int .i64 a_e] 24) l_k
        have y_k := heap_past (.cells #[.bool a_g, .slice a_o a_n a_c, .int .i64 a_e] 24) y_k
        have p_k := heap_past (.cells #[.bool a_g, .slice a_o a_n a_c, .int .i64 a_e] 24) p_k
        have q_k := heap_past (.cells #[.bool a_g, .slice a_o a_n a_c, .int .i64 a_e] 24) q_k
        have a_k := heap_a1 y8 (.cells #[.bool a_g, .slice a_o a_n a_c, .int .i64 a_e] 24)
        have y_D := y_D.keeps (bel_alloc y8 (.cells #[.bool a_g, .slice a_o a_n a_c, .int .i64 a_e] 24))
        have p_D := p_D.keeps (bel_alloc y8 (.cells #[.bool a_g, .slice a_o a_n a_c, .int .i64 a_e] 24))
        have q_D := q_D.keeps (bel_alloc y8 (.cells #[.bool a_g, .slice a_o a_n a_c, .int .i64 a_e] 24))
        have a_D := a_D.keeps (bel_alloc y8 (.cells #[.bool a_g, .slice a_o a_n a_c, .int .i64 a_e] 24))
        have H := H.keeps (bel_alloc y8 (.cells #[.bool a_g, .slice a_o a_n a_c, .int .i64 a_e] 24))
        have hb9' := bel_trans hb8 (bel_alloc y8 (.cells #[.bool a_g, .slice a_o a_n a_c, .int .i64 a_e] 24))
        have f_q0 := blkC q_k 0 rfl
        have f_q1 := blkC q_k 1 rfl
        have f_q2 := blkC q_k 2 rfl
        have f_y0 := blkC y_k 0 rfl
        have f_y1 := blkC y_k 1 rfl
        have f_y2 := blkC y_k 2 rfl
        go_wp2_with fail
        clear f_q0 f_q1 f_q2 f_y0 f_y1 f_y2
        generalize y8.alloc (.cells #[.bool a_g, .slice a_o a_n a_c, .int .i64 a_e] 24) = x9 at l_k y_k p_k q_k a_k y_D p_D q_D a_D H hb9' ⊢
        refine (sub_B q_D y_D q_B y_B (by omega) H.tab).mono ?_
        rintro _ y9 ⟨v, rfl, h9⟩
        obtain ⟨b_g, b_o, b_n, b_c, b_e, rfl⟩ := dans_shape h9
        have hw9 := h9.below
        have b_D := h9.num
        have H := H.keeps hw9
        have l_k := (hw9.block _ (Array.getElem?_eq_some_iff.1 l_k).1).trans l_k
        have y_k := (hw9.block _ (Array.getElem?_eq_some_iff.1 y_k).1).trans y_k
        have y_D := y_D.keeps hw9
        have p_k := (hw9.block _ (Array.getElem?_eq_some_iff.1 p_k).1).trans p_k
        have p_D := p_D.keeps hw9
        have q_k := (hw9.block _ (Array.getElem?_eq_some_iff.1 q_k).1).trans q_k
        have q_D := q_D.keeps hw9
        have a_k := (hw9.block _ (Array.getElem?_eq_some_iff.1 a_k).1).trans a_k
        have a_D := a_D.keeps hw9
        have hb9 := bel_trans hb9' hw9
        have a_B := Bd.sub y_B p_B (by omega)
        have b_B := Bd.sub q_B y_B (by omega)
        have l_k := heap_past (.cells #[.bool b_g, .slice b_o b_n b_c, .int .i64 b_e] 24) l_k
        have y_k := heap_past (.cells #[.bool b_g, .slice b_o b_n b_c, .int .i64 b_e] 24) y_k
        have p_k := heap_past (.cells #[.bool b_g, .slice b_o b_n b_c, .int .i64 b_e] 24) p_k
        have q_k := heap_past (.cells #[.bool b_g, .slice b_o b_n b_c, .int .i64 b_e] 24) q_k
        have a_k := heap_past (.cells #[.bool b_g, .slice b_o b_n b_c, .int .i64 b_e] 24) a_k
        have b_k := heap_a1 y9 (.cells #[.bool b_g, .slice b_o b_n b_c, .int .i64 b_e] 24)
        have y_D := y_D.keeps (bel_alloc y9 (.cells #[.bool b_g, .slice b_o b_n b_c, .int .i64 b_e] 24))
        have p_D := p_D.keeps (bel_alloc y9 (.cells #[.bool b_g, .slice b_o b_n b_c, .int .i64 b_e] 24))
        have q_D := q_D.keeps (bel_alloc y9 (.cells #[.bool b_g, .slice b_o b_n b_c, .int .i64 b_e] 24))
        have a_D := a_D.keeps (bel_alloc y9 (.cells #[.bool b_g, .slice b_o b_n b_c, .int .i64 b_e] 24))
        have b_D := b_D.keeps (bel_alloc y9 (.cells #[.bool b_g, .slice b_o b_n b_c, .int .i64 b_e] 24))
        have H := H.keeps (bel_alloc y9 (.cells #[.bool b_g, .slice b_o b_n b_c, .int .i64 b_e] 24))
        have hb10' := bel_trans hb9 (bel_alloc y9 (.cells #[.bool b_g, .slice b_o b_n b_c, .int .i64 b_e] 24))
        have f_a0 := blkC a_k 0 rfl
        have f_a1 := blkC a_k 1 rfl
        have f_a2 := blkC a_k 2 rfl
        go_wp2_with fail
        clear f_a0 f_a1 f_a2
        generalize y9.alloc (.cells #[.bool b_g, .slice b_o b_n b_c, .int .i64 b_e] 24) = x10 at l_k y_k p_k q_k a_k b_k y_D p_D q_D a_D b_D H hb10' ⊢
        refine (cmp_D a_D b_D (a_B.ok (by omega)) (b_B.ok (by omega))).mono ?_
        rintro _ y10 ⟨rfl, hw10⟩
        have H := H.keeps hw10
        have l_k := (hw10.block _ (Array.getElem?_eq_some_iff.1 l_k).1).trans l_k
        have y_k := (hw10.block _ (Array.getElem?_eq_some_iff.1 y_k).1).trans y_k
        have y_D := y_D.keeps hw10
        have p_k := (hw10.block _ (Array.getElem?_eq_some_iff.1 p_k).1).trans p_k
        have p_D := p_D.keeps hw10
        have q_k := (hw10.block _ (Array.getElem?_eq_some_iff.1 q_k).1).trans q_k
        have q_D := q_D.keeps hw10
        have a_k := (hw10.block _ (Array.getElem?_eq_some_iff.1 a_k).1).trans a_k
        have a_D := a_D.keeps hw10
        have b_k := (hw10.block _ (Array.getElem?_eq_some_iff.1 b_k).1).trans b_k
        have b_D := b_D.keeps hw10
        have hb10 := bel_trans hb10' hw10
        have h3 := ord_three (y_V - p_V) (q_V - y_V)
        clear a_D b_D y_D p_D q_D a_B b_B y_B p_B q_B a_k b_k y_k p_k q_k l_k
        generalize ord (y_V - p_V) (q_V - y_V) = c at *
        rcases h3 with rfl | rfl | rfl
        · have e := n2.out (by decide)
          subst e
          clear n1 n2 n3
          go_wp2
          all_goals go_ret
          all_goals exact ⟨rfl, hb10⟩
        · have e := n3.out rfl
          clear n1 n2 n3
          have e1 : bits .and .i64 n 1 = 0 := by rw [and_one, e]
          go_wp2
          all_goals go_ret
          all_goals exact ⟨rfl, hb10⟩
        · have e := n1.out (by decide)
          subst e
          clear n1 n2 n3
          go_wp2
          all_goals go_ret
          all_goals exact ⟨rfl, hb10⟩
theorem own : ownKnob Tryd.prog.godebug = none := by kernel_rfl
theorem laidOut : laidOutB Tryd.prog = true := by kernel_rfl
theorem door_met (os : Os) (args : Array Value) : laidMetH Tryd.prog Rows.roundNearestRow.laid ((World.doorLaid Tryd.prog 400 os).forCall (fun _ _ => 0) ⟨#[], args, []⟩).memory :=
  laidMetH_of_parts3 (fuel := 8) (laidMet_of_run' 8 (by kernel_rfl) (by kernel_rfl)) (by kernel_rfl) (by kernel_rfl)
set_option maxRecDepth 100000 in
theorem lifted (os : Os) (started : os.Started) (H : Type) (enc : TypeId × Value → H) :
    ReturnsInHanded {} Tryd.checked os 4 .any (fun w args => (Rows.roundNearestSpec.pre enc Tryd.prog Tryd.f4 [] false w args ∧ laidMetH Tryd.prog Rows.roundNearestRow.laid w) ∧ sizedMet enc Tryd.prog Tryd.f4 (OpenSpec.ofChange Rows.roundNearestSpec) false w args)
      (Rows.roundNearestSpec.post enc Tryd.prog Tryd.f4 false true false false) := by
  refine returnsInHanded_of_change_and (C := Tryd.checked) (X := fun w _ => laidMetH Tryd.prog Rows.roundNearestRow.laid w) (fun _ _ _ hh h => h.of_heap hh) own started (by kernel_rfl) Tryd.func4
    (ChangeSpec.witness_shaped (enc := enc) (C := Tryd.checked) (os := os) (X := fun w _ => laidMetH Tryd.prog Rows.roundNearestRow.laid w) false (World.doorLaid Tryd.prog 400 os) #[.agg #[.bool false, .slice none 0 0, .int .i64 0]] 8 rfl (World.shaped_of_RefB (by kernel_rfl) (by kernel_rfl)) (by kernel_rfl) (by kernel_rfl) (by kernel_rfl) (door_met os _)) ?_
  intro W base args ds gs before hval0 hW _ _ hL _
  have hval : ∀ (j : Nat) t v, Tryd.f4.params[j]? = some t → args[j]? = some v → Value.okWide Tryd.prog W .any base t v := hval0
  have hW' := hW
  obtain ⟨p, q, hA0, hV, rfl, hfz, hnd⟩ := hW
  have hA : DataW.TrodAll enc Tryd.prog W 0 (fun _ => true) true Tryd.f4.params.toList args.toList ds p := hA0
  rw [Tryd.params4] at hA hval
  obtain ⟨v0, vs0, d0, ds0, p0, q0, hargs, rfl, rfl, h0, r0⟩ := trodAll_cons hA
  obtain ⟨rfl, rfl, rfl⟩ := trodAll_nil r0
  obtain rfl : args = #[v0] := by cases args; simp_all
  obtain ⟨rfl, rfl⟩ := trodVars_none hV
  have k0 := h0
  have lt0 : ∀ x ∈ p0, x.block < W.heap.size := by obtain ⟨m, hm⟩ := k0; exact DataW.trod_lt m _ _ _ hm
  obtain ⟨x0, rfl, w0, g0⟩ := num_of (hval 0 24 v0 rfl rfl) h0
  clear hA0 hval0
  refine (walk x0 W w0 g0 (hold4_of hL)).mono fun e W' ⟨he, bel⟩ => ?_
  subst he
  exact ⟨_, rfl, _, _, _, [], _, [], hW', trodAll_mk1 (shut_bool Tryd.underlying4 _), (trodAll_cons_mk (Below.trod laidOut (by kernel_rfl) (of_decide_eq_true (by kernel_rfl)) k0 bel lt0) trodAll_mk0), rfl, bel.frame _, fun h => by cases h⟩
theorem said : Rows.RoundNearestSaid :=
  OpenClaim.holds_of_wide 4 Tryd.f4 rfl rfl rfl rfl rfl rfl rfl ⟨rfl, rfl, rfl, rfl, rfl⟩ rfl rfl rfl rfl rfl (by kernel_rfl) Tryd.func4 (by kernel_rfl)
    (of_decide_eq_true (by kernel_rfl)) (by unfold Func.isWrapper; first | (rw [if_pos (by decide +kernel)]; kernel_rfl) | (rw [if_neg (by decide +kernel)]; exact ⟨rfl, rfl⟩))
    (fun os started H enc _ => lifted os started H enc)
theorem plain (f : FuncId) (fn : Func) (hf : Tryd.pinned.checked.prog.funcNamed Tryd.f4.name = some f) (hfn : Tryd.pinned.checked.prog.funcs[f]? = some fn) :
    true = Tryd.pinned.checked.prog.looks [] ∧ ∀ (j : Nat) t, fn.params[j]? = some t → Tryd.pinned.checked.prog.wantsStandIn t = false := by
  obtain rfl : f = 4 := Option.some.inj ((show Tryd.prog.funcNamed Tryd.f4.name = some 4 by kernel_rfl).symm.trans hf) |>.symm
  obtain rfl : fn = Tryd.f4 := (Option.some.inj (Tryd.func4.symm.trans hfn)).symm
  refine ⟨by kernel_rfl, fun j t ht => ?_⟩
  rw [Tryd.params4] at ht
  obtain rfl : t = 24 := by simpa using Array.mem_of_getElem? ht
  exact (show Tryd.prog.wantsStandIn 24 = false by kernel_rfl)
/-- THE CARD. -/
theorem card : Rows.RoundNearestCardSaid :=
  Claim7.holds_tied_plain_at .later [] _ _ _ _ said (fun _ h => by cases h) (by kernel_rfl) (fun _ h => by cases h) roundNearest_row_tie rfl ⟨rfl, rfl⟩ (by kernel_rfl) rfl plain (by kernel_rfl)
end Go.Proofs.YtgplnodgndbdeaaDoor.roundNearest
namespace Go.Proofs.YtgplnodgndbdeaaDoor
/-- RoundNearest: the statement as it is given. -/
theorem roundNearest_holds : Rows.RoundNearestCardSaid := roundNearest.card
end Go.Proofs.YtgplnodgndbdeaaDoor
