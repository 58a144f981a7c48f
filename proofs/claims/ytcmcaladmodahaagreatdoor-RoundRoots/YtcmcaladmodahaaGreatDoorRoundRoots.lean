/-
  RoundRoots: for every number and pattern the law returns true: the square of a root rounded down is not greater, that of the next float is; the root of a square is the number. As a card: the library's tables and the layouts start as the program's text lays them.
-/
import Derived.Test.YtcmcaladmodahaaGreatDoorPart15
import Derived.Test.YtcmcaladmodahaaGreatDoorCards
import Derived.Test.YtcmcaladmodahaaGreatDoorTie
namespace Go.Proofs.YtcmcaladmodahaaGreatDoor.roundRoots
open Go Go.ChangeShapes Go.WideShapes Go.ChangeAt Go.RowKit Go.Proofs.YtcmcaladmodahaaGreatDoor Go.Proofs.YtcmcaladmodahaaGreatDoor.M
set_option linter.unusedSimpArgs false
set_option linter.unusedVariables false

set_option maxRecDepth 100000 in
set_option maxHeartbeats 8000000 in
theorem walk (l : NumR) (b : Int) (w : World) (hl : Row w l.ao l.n l.cap l.d) (el : rng l.e) (hrb : rng b) (H : Hold4 w) :
    Calls Tryz.prog 3 #[l.v, .int .i64 b] w fun e w' => e = .returned (.bool true) ∧ Below w.heap.size w w' := by
  have l_N := fun W hb => num4_L l W (hl.keeps hb) el
  unfold NumR.v at *
  obtain ⟨l_g, l_o, l_n, l_c, l_d, l_e⟩ := l
  simp only at *
  clear hl el
  go_enter Tryz.func3, Tryz.ntmps3
  have l_k : (w.alloc (.cells #[.bool l_g, .slice l_o l_n l_c, .int .i64 l_e] 24)).heap[w.heap.size]? = some (.cells #[.bool l_g, .slice l_o l_n l_c, .int .i64 l_e] 24 (0, 0)) := heap_a1 _ _
  have hb0 : Below w.heap.size w (w.alloc (.cells #[.bool l_g, .slice l_o l_n l_c, .int .i64 l_e] 24)) := bel_alloc _ _
  go_wp2_with fail
  generalize (w.alloc (.cells #[.bool l_g, .slice l_o l_n l_c, .int .i64 l_e] 24)) = x0 at l_k hb0 ⊢
  have H := H.keeps hb0
  refine (l_N _ hb0 H.tab).mono ?_
  rintro _ y1 ⟨v, y_V, rfl, h1 , y_B, y_L⟩
  obtain ⟨y_g, y_o, y_n, y_c, y_e, rfl⟩ := dans_shape h1
  have hw1 := h1.below
  have y_D := h1.num
  have H := H.keeps hw1
  have l_k := (hw1.block _ (Array.getElem?_eq_some_iff.1 l_k).1).trans l_k
  have hb1 := bel_trans hb0 hw1
  clear l_N
  have y_D' := (abs_D y_D (y_B.ok (by omega)))
  have y_B := y_B.sg y_g
  have y_L := y_L y_g
  clear y_D
  have y_D := y_D'
  clear y_D'
  generalize M.sg y_g y_V = y_W at *
  obtain ⟨d, o, hQ, Q⟩ := root_D1 y_D (y_B.ok (by omega)) y_L H
  have p_k := heap_a1 y1 (.cells #[.bool y_g, .slice y_o y_n y_c, .int .i64 y_e] 24)
  have p0 := blkC p_k 0 rfl
  have pF := blkF p_k 0
  have hbl := bel_alloc y1 (.cells #[.bool false, .slice y_o y_n y_c, .int .i64 y_e] 24)
  have Q := fun W hb => Q W (bel_trans hbl hb)
  have l_k := heap_past (.cells #[.bool false, .slice y_o y_n y_c, .int .i64 y_e] 24) l_k
  have y_k := heap_a1 y1 (.cells #[.bool false, .slice y_o y_n y_c, .int .i64 y_e] 24)
  have y_D := y_D.keeps hbl
  have H := H.keeps hbl
  have hb2' := bel_trans hb1 hbl
  have f_y0 := blkC y_k 0 rfl
  have f_y1 := blkC y_k 1 rfl
  have f_y2 := blkC y_k 2 rfl
  go_wp2_with fail
  clear f_y0 f_y1 f_y2 p_k p0 pF hbl
  generalize y1.alloc (.cells #[.bool false, .slice y_o y_n y_c, .int .i64 y_e] 24) = x2 at Q l_k y_k y_D H hb2' ⊢
  refine (Q _ (bel_refl _)).mono ?_
  rintro _ y3 ⟨rfl, hw3⟩
  have H := H.keeps hw3
  have l_k := (hw3.block _ (Array.getElem?_eq_some_iff.1 l_k).1).trans l_k
  have y_k := (hw3.block _ (Array.getElem?_eq_some_iff.1 y_k).1).trans y_k
  have y_D := y_D.keeps hw3
  have hb3 := bel_trans hb2' hw3
  clear Q
  obtain ⟨rg, hpd, lo, eq, nxt⟩ := hQ
  have F0 : Hid (∀ m_V, m_V * 2 ^ 4194304 = patV d * patV d → ord m_V y_W ≤ 0 ∧ (ord m_V y_W = 0 ↔ o = false)) := fun m_V e => by
    rw [ord_up (two_pos 4194304) e rfl]
    exact ⟨ord_le0 lo, ord_zero_iff.trans eq⟩
  have F1 : Hid (∀ m_V, m_V * 2 ^ 4194304 = patV (next d) * patV (next d) → pok (next d) = true → 0 < ord m_V y_W) := fun m_V e h => by
    rw [ord_up (two_pos 4194304) e rfl]
    exact ord_pos_iff.2 (nxt h)
  clear lo eq nxt
  have CN := fun W (H : Hold4 W) => next_B rg H
  have p_B := patV_bd hpd
  go_wp2_with fail
  refine (of_ok hpd H).mono ?_
  rintro _ y4 ⟨v, rfl, h4⟩
  obtain ⟨p_g, p_o, p_n, p_c, p_e, rfl⟩ := dans_shape h4
  have hw4 := h4.below
  have p_D := h4.num
  have H := H.keeps hw4
  have l_k := (hw4.block _ (Array.getElem?_eq_some_iff.1 l_k).1).trans l_k
  have y_k := (hw4.block _ (Array.getElem?_eq_some_iff.1 y_k).1).trans y_k
  have y_D := y_D.keeps hw4
  have hb4 := bel_trans hb3 hw4
  have l_k := heap_past (.cells #[.bool p_g, .slice p_o p_n p_c, .int .i64 p_e] 24) l_k
  have y_k := heap_past (.cells #[.bool p_g, .slice p_o p_n p_c, .int .i64 p_e] 24) y_k
  have p_k := heap_a1 y4 (.cells #[.bool p_g, .slice p_o p_n p_c, .int .i64 p_e] 24)
  have y_D := y_D.keeps (bel_alloc y4 (.cells #[.bool p_g, .slice p_o p_n p_c, .int .i64 p_e] 24))
  have p_D := p_D.keeps (bel_alloc y4 (.cells #[.bool p_g, .slice p_o p_n p_c, .int .i64 p_e] 24))
  have H := H.keeps (bel_alloc y4 (.cells #[.bool p_g, .slice p_o p_n p_c, .int .i64 p_e] 24))
  have hb5' := bel_trans hb4 (bel_alloc y4 (.cells #[.bool p_g, .slice p_o p_n p_c, .int .i64 p_e] 24))
  go_wp2_with fail
  generalize y4.alloc (.cells #[.bool p_g, .slice p_o p_n p_c, .int .i64 p_e] 24) = x5 at l_k y_k p_k y_D p_D H hb5' ⊢
  refine (CN _ H).mono ?_
  rintro _ y5 ⟨rfl, hw5⟩
  have H := H.keeps hw5
  have l_k := (hw5.block _ (Array.getElem?_eq_some_iff.1 l_k).1).trans l_k
  have y_k := (hw5.block _ (Array.getElem?_eq_some_iff.1 y_k).1).trans y_k
  have y_D := y_D.keeps hw5
  have p_k := (hw5.block _ (Array.getElem?_eq_some_iff.1 p_k).1).trans p_k
  have p_D := p_D.keeps hw5
  have hb5 := bel_trans hb5' hw5
  clear CN
  generalize next d = e at *
  cases hpe : pok e
  · go_wp2_with fail
    refine (of_no hpe H).mono ?_
    rintro _ y6 ⟨rfl, hw6⟩
    have H := H.keeps hw6
    have l_k := (hw6.block _ (Array.getElem?_eq_some_iff.1 l_k).1).trans l_k
    have y_k := (hw6.block _ (Array.getElem?_eq_some_iff.1 y_k).1).trans y_k
    have y_D := y_D.keeps hw6
    have p_k := (hw6.block _ (Array.getElem?_eq_some_iff.1 p_k).1).trans p_k
    have p_D := p_D.keeps hw6
    have hb6 := bel_trans hb5 hw6
    have l_k := heap_past (.cells #[.bool false, .slice none 0 0, .int .i64 0] 24) l_k
    have y_k := heap_past (.cells #[.bool false, .slice none 0 0, .int .i64 0] 24) y_k
    have p_k := heap_past (.cells #[.bool false, .slice none 0 0, .int .i64 0] 24) p_k
    have q_k := heap_a1 y6 (.cells #[.bool false, .slice none 0 0, .int .i64 0] 24)
    have y_D := y_D.keeps (bel_alloc y6 (.cells #[.bool false, .slice none 0 0, .int .i64 0] 24))
    have p_D := p_D.keeps (bel_alloc y6 (.cells #[.bool false, .slice none 0 0, .int .i64 0] 24))
    have H := H.keeps (bel_alloc y6 (.cells #[.bool false, .slice none 0 0, .int .i64 0] 24))
    have hb7' := bel_trans hb6 (bel_alloc y6 (.cells #[.bool false, .slice none 0 0, .int .i64 0] 24))
    go_wp2_with fail
    generalize y6.alloc (.cells #[.bool false, .slice none 0 0, .int .i64 0] 24) = x7 at l_k y_k p_k q_k y_D p_D H hb7' ⊢
    refine (alive4 _ H.env H.tab).mono ?_
    rintro _ y7 ⟨rfl, hw7⟩
    have H := H.keeps hw7
    have l_k := (hw7.block _ (Array.getElem?_eq_some_iff.1 l_k).1).trans l_k
    have y_k := (hw7.block _ (Array.getElem?_eq_some_iff.1 y_k).1).trans y_k
    have y_D := y_D.keeps hw7
    have p_k := (hw7.block _ (Array.getElem?_eq_some_iff.1 p_k).1).trans p_k
    have p_D := p_D.keeps hw7
    have q_k := (hw7.block _ (Array.getElem?_eq_some_iff.1 q_k).1).trans q_k
    have hb7 := bel_trans hb7' hw7
    have f_p0 := blkC p_k 0 rfl
    have f_p1 := blkC p_k 1 rfl
    have f_p2 := blkC p_k 2 rfl
    go_wp2_with fail
    clear f_p0 f_p1 f_p2
    refine (mul_B p_D p_D p_B p_B (by omega) H.tab).mono ?_
    rintro _ y8 ⟨v, s_V, rfl, h8, s_E, s_B⟩
    obtain ⟨s_g, s_o, s_n, s_c, s_e, rfl⟩ := dans_shape h8
    have hw8 := h8.below
    have s_D := h8.num
    have H := H.keeps hw8
    have l_k := (hw8.block _ (Array.getElem?_eq_some_iff.1 l_k).1).trans l_k
    have y_k := (hw8.block _ (Array.getElem?_eq_some_iff.1 y_k).1).trans y_k
    have y_D := y_D.keeps hw8
    have p_k := (hw8.block _ (Array.getElem?_eq_some_iff.1 p_k).1).trans p_k
    have p_D := p_D.keeps hw8
    have q_k := (hw8.block _ (Array.getElem?_eq_some_iff.1 q_k).1).trans q_k
    have hb8 := bel_trans hb7 hw8
    obtain ⟨g1, g2⟩ := F0.out s_V s_E
    clear s_E F0
    have l_k := heap_past (.cells #[.bool s_g, .slice s_o s_n s_c, .int .i64 s_e] 24) l_k
    have y_k := heap_past (.cells #[.bool s_g, .slice s_o s_n s_c, .int .i64 s_e] 24) y_k
    have p_k := heap_past (.cells #[.bool s_g, .slice s_o s_n s_c, .int .i64 s_e] 24) p_k
    have q_k := heap_past (.cells #[.bool s_g, .slice s_o s_n s_c, .int .i64 s_e] 24) q_k
    have s_k := heap_a1 y8 (.cells #[.bool s_g, .slice s_o s_n s_c, .int .i64 s_e] 24)
    have y_D := y_D.keeps (bel_alloc y8 (.cells #[.bool s_g, .slice s_o s_n s_c, .int .i64 s_e] 24))
    have p_D := p_D.keeps (bel_alloc y8 (.cells #[.bool s_g, .slice s_o s_n s_c, .int .i64 s_e] 24))
    have s_D := s_D.keeps (bel_alloc y8 (.cells #[.bool s_g, .slice s_o s_n s_c, .int .i64 s_e] 24))
    have H := H.keeps (bel_alloc y8 (.cells #[.bool s_g, .slice s_o s_n s_c, .int .i64 s_e] 24))
    have hb9' := bel_trans hb8 (bel_alloc y8 (.cells #[.bool s_g, .slice s_o s_n s_c, .int .i64 s_e] 24))
    have f_y0 := blkC y_k 0 rfl
    have f_y1 := blkC y_k 1 rfl
    have f_y2 := blkC y_k 2 rfl
    go_wp2_with fail
    clear f_y0 f_y1 f_y2
    generalize y8.alloc (.cells #[.bool s_g, .slice s_o s_n s_c, .int .i64 s_e] 24) = x9 at l_k y_k p_k q_k s_k y_D p_D s_D H hb9' ⊢
    refine (cmp_D s_D y_D (s_B.ok (by omega)) (y_B.ok (by omega))).mono ?_
    rintro _ y9 ⟨rfl, hw9⟩
    have H := H.keeps hw9
    have l_k := (hw9.block _ (Array.getElem?_eq_some_iff.1 l_k).1).trans l_k
    have y_k := (hw9.block _ (Array.getElem?_eq_some_iff.1 y_k).1).trans y_k
    have y_D := y_D.keeps hw9
    have p_k := (hw9.block _ (Array.getElem?_eq_some_iff.1 p_k).1).trans p_k
    have p_D := p_D.keeps hw9
    have q_k := (hw9.block _ (Array.getElem?_eq_some_iff.1 q_k).1).trans q_k
    have s_k := (hw9.block _ (Array.getElem?_eq_some_iff.1 s_k).1).trans s_k
    have s_D := s_D.keeps hw9
    have hb9 := bel_trans hb9' hw9
    have h3 := ord_three s_V y_W
    generalize ord s_V y_W = c at *
    have h3 : Hid (c = 1 ∨ c = 0 ∨ c = -1) := h3
    have g2 : Hid (c = 0 ↔ o = false) := g2
    by_cases hc : c = 0
    · have ho := g2.out.1 hc
      clear h3
      subst hc ho
      clear g2
      clear F1
      cases hpb : pok b
      · go_wp2_with fail
        refine (of_no hpb H).mono ?_
        rintro _ y10 ⟨rfl, hw10⟩
        have H := H.keeps hw10
        have l_k := (hw10.block _ (Array.getElem?_eq_some_iff.1 l_k).1).trans l_k
        have y_k := (hw10.block _ (Array.getElem?_eq_some_iff.1 y_k).1).trans y_k
        have y_D := y_D.keeps hw10
        have p_k := (hw10.block _ (Array.getElem?_eq_some_iff.1 p_k).1).trans p_k
        have p_D := p_D.keeps hw10
        have q_k := (hw10.block _ (Array.getElem?_eq_some_iff.1 q_k).1).trans q_k
        have s_k := (hw10.block _ (Array.getElem?_eq_some_iff.1 s_k).1).trans s_k
        have s_D := s_D.keeps hw10
        have hb10 := bel_trans hb9 hw10
        have hbE := bel_trans hb10 (bel_alloc y10 (.cells #[.bool false, .slice none 0 0, .int .i64 0] 24))
        go_wp2
        all_goals go_ret
        all_goals exact ⟨rfl, hbE⟩
      · go_wp2_with fail
        refine (of_ok hpb H).mono ?_
        rintro _ y10 ⟨v, rfl, h10⟩
        obtain ⟨v_g, v_o, v_n, v_c, v_e, rfl⟩ := dans_shape h10
        have hw10 := h10.below
        have v_D := h10.num
        have H := H.keeps hw10
        have l_k := (hw10.block _ (Array.getElem?_eq_some_iff.1 l_k).1).trans l_k
        have y_k := (hw10.block _ (Array.getElem?_eq_some_iff.1 y_k).1).trans y_k
        have y_D := y_D.keeps hw10
        have p_k := (hw10.block _ (Array.getElem?_eq_some_iff.1 p_k).1).trans p_k
        have p_D := p_D.keeps hw10
        have q_k := (hw10.block _ (Array.getElem?_eq_some_iff.1 q_k).1).trans q_k
        have s_k := (hw10.block _ (Array.getElem?_eq_some_iff.1 s_k).1).trans s_k
        have s_D := s_D.keeps hw10
        have hb10 := bel_trans hb9 hw10
        have v_B := patV_bd hpb
        have l_k := heap_past (.cells #[.bool v_g, .slice v_o v_n v_c, .int .i64 v_e] 24) l_k
        have y_k := heap_past (.cells #[.bool v_g, .slice v_o v_n v_c, .int .i64 v_e] 24) y_k
        have p_k := heap_past (.cells #[.bool v_g, .slice v_o v_n v_c, .int .i64 v_e] 24) p_k
        have q_k := heap_past (.cells #[.bool v_g, .slice v_o v_n v_c, .int .i64 v_e] 24) q_k
        have s_k := heap_past (.cells #[.bool v_g, .slice v_o v_n v_c, .int .i64 v_e] 24) s_k
        have v_k := heap_a1 y10 (.cells #[.bool v_g, .slice v_o v_n v_c, .int .i64 v_e] 24)
        have y_D := y_D.keeps (bel_alloc y10 (.cells #[.bool v_g, .slice v_o v_n v_c, .int .i64 v_e] 24))
        have p_D := p_D.keeps (bel_alloc y10 (.cells #[.bool v_g, .slice v_o v_n v_c, .int .i64 v_e] 24))
        have s_D := s_D.keeps (bel_alloc y10 (.cells #[.bool v_g, .slice v_o v_n v_c, .int .i64 v_e] 24))
        have v_D := v_D.keeps (bel_alloc y10 (.cells #[.bool v_g, .slice v_o v_n v_c, .int .i64 v_e] 24))
        have H := H.keeps (bel_alloc y10 (.cells #[.bool v_g, .slice v_o v_n v_c, .int .i64 v_e] 24))
        have hb11' := bel_trans hb10 (bel_alloc y10 (.cells #[.bool v_g, .slice v_o v_n v_c, .int .i64 v_e] 24))
        go_wp2_with fail
        generalize y10.alloc (.cells #[.bool v_g, .slice v_o v_n v_c, .int .i64 v_e] 24) = x11 at l_k y_k p_k q_k s_k v_k y_D p_D s_D v_D H hb11' ⊢
        refine (mul_B v_D v_D v_B v_B (by omega) H.tab).mono ?_
        rintro _ y11 ⟨v, z_V, rfl, h11, z_E, z_B⟩
        obtain ⟨z_g, z_o, z_n, z_c, z_e, rfl⟩ := dans_shape h11
        have hw11 := h11.below
        have z_D := h11.num
        have H := H.keeps hw11
        have l_k := (hw11.block _ (Array.getElem?_eq_some_iff.1 l_k).1).trans l_k
        have y_k := (hw11.block _ (Array.getElem?_eq_some_iff.1 y_k).1).trans y_k
        have y_D := y_D.keeps hw11
        have p_k := (hw11.block _ (Array.getElem?_eq_some_iff.1 p_k).1).trans p_k
        have p_D := p_D.keeps hw11
        have q_k := (hw11.block _ (Array.getElem?_eq_some_iff.1 q_k).1).trans q_k
        have s_k := (hw11.block _ (Array.getElem?_eq_some_iff.1 s_k).1).trans s_k
        have s_D := s_D.keeps hw11
        have v_k := (hw11.block _ (Array.getElem?_eq_some_iff.1 v_k).1).trans v_k
        have v_D := v_D.keeps hw11
        have hb11 := bel_trans hb11' hw11
        have RZ := fun W (D : DNum W (.agg #[.bool z_g, .slice z_o z_n z_c, .int .i64 z_e]) z_V) (H : Hold4 W) => root_D0 D (z_B.ok (by omega)) hrb hpb z_E H
        clear z_E
        have l_k := heap_past (.cells #[.bool z_g, .slice z_o z_n z_c, .int .i64 z_e] 24) l_k
        have y_k := heap_past (.cells #[.bool z_g, .slice z_o z_n z_c, .int .i64 z_e] 24) y_k
        have p_k := heap_past (.cells #[.bool z_g, .slice z_o z_n z_c, .int .i64 z_e] 24) p_k
        have q_k := heap_past (.cells #[.bool z_g, .slice z_o z_n z_c, .int .i64 z_e] 24) q_k
        have s_k := heap_past (.cells #[.bool z_g, .slice z_o z_n z_c, .int .i64 z_e] 24) s_k
        have v_k := heap_past (.cells #[.bool z_g, .slice z_o z_n z_c, .int .i64 z_e] 24) v_k
        have z_k := heap_a1 y11 (.cells #[.bool z_g, .slice z_o z_n z_c, .int .i64 z_e] 24)
        have y_D := y_D.keeps (bel_alloc y11 (.cells #[.bool z_g, .slice z_o z_n z_c, .int .i64 z_e] 24))
        have p_D := p_D.keeps (bel_alloc y11 (.cells #[.bool z_g, .slice z_o z_n z_c, .int .i64 z_e] 24))
        have s_D := s_D.keeps (bel_alloc y11 (.cells #[.bool z_g, .slice z_o z_n z_c, .int .i64 z_e] 24))
        have v_D := v_D.keeps (bel_alloc y11 (.cells #[.bool z_g, .slice z_o z_n z_c, .int .i64 z_e] 24))
        have z_D := z_D.keeps (bel_alloc y11 (.cells #[.bool z_g, .slice z_o z_n z_c, .int .i64 z_e] 24))
        have H := H.keeps (bel_alloc y11 (.cells #[.bool z_g, .slice z_o z_n z_c, .int .i64 z_e] 24))
        have hb12' := bel_trans hb11 (bel_alloc y11 (.cells #[.bool z_g, .slice z_o z_n z_c, .int .i64 z_e] 24))
        go_wp2_with fail
        generalize y11.alloc (.cells #[.bool z_g, .slice z_o z_n z_c, .int .i64 z_e] 24) = x12 at l_k y_k p_k q_k s_k v_k z_k y_D p_D s_D v_D z_D H hb12' ⊢
        refine (RZ _ z_D H).mono ?_
        rintro _ y12 ⟨rfl, hw12⟩
        have H := H.keeps hw12
        have l_k := (hw12.block _ (Array.getElem?_eq_some_iff.1 l_k).1).trans l_k
        have y_k := (hw12.block _ (Array.getElem?_eq_some_iff.1 y_k).1).trans y_k
        have y_D := y_D.keeps hw12
        have p_k := (hw12.block _ (Array.getElem?_eq_some_iff.1 p_k).1).trans p_k
        have p_D := p_D.keeps hw12
        have q_k := (hw12.block _ (Array.getElem?_eq_some_iff.1 q_k).1).trans q_k
        have s_k := (hw12.block _ (Array.getElem?_eq_some_iff.1 s_k).1).trans s_k
        have s_D := s_D.keeps hw12
        have v_k := (hw12.block _ (Array.getElem?_eq_some_iff.1 v_k).1).trans v_k
        have v_D := v_D.keeps hw12
        have z_k := (hw12.block _ (Array.getElem?_eq_some_iff.1 z_k).1).trans z_k
        have z_D := z_D.keeps hw12
        have hb12 := bel_trans hb12' hw12
        clear RZ
        go_wp2_with fail
        refine (abs_B hrb H).mono ?_
        rintro _ y13 ⟨rfl, hw13⟩
        have H := H.keeps hw13
        have l_k := (hw13.block _ (Array.getElem?_eq_some_iff.1 l_k).1).trans l_k
        have y_k := (hw13.block _ (Array.getElem?_eq_some_iff.1 y_k).1).trans y_k
        have y_D := y_D.keeps hw13
        have p_k := (hw13.block _ (Array.getElem?_eq_some_iff.1 p_k).1).trans p_k
        have p_D := p_D.keeps hw13
        have q_k := (hw13.block _ (Array.getElem?_eq_some_iff.1 q_k).1).trans q_k
        have s_k := (hw13.block _ (Array.getElem?_eq_some_iff.1 s_k).1).trans s_k
        have s_D := s_D.keeps hw13
        have v_k := (hw13.block _ (Array.getElem?_eq_some_iff.1 v_k).1).trans v_k
        have v_D := v_D.keeps hw13
        have z_k := (hw13.block _ (Array.getElem?_eq_some_iff.1 z_k).1).trans z_k
        have z_D := z_D.keeps hw13
        have hb13 := bel_trans hb12 hw13
        go_wp2_with fail
        refine (canon_B H).mono ?_
        rintro _ y14 ⟨rfl, hw14⟩
        have H := H.keeps hw14
        have l_k := (hw14.block _ (Array.getElem?_eq_some_iff.1 l_k).1).trans l_k
        have y_k := (hw14.block _ (Array.getElem?_eq_some_iff.1 y_k).1).trans y_k
        have y_D := y_D.keeps hw14
        have p_k := (hw14.block _ (Array.getElem?_eq_some_iff.1 p_k).1).trans p_k
        have p_D := p_D.keeps hw14
        have q_k := (hw14.block _ (Array.getElem?_eq_some_iff.1 q_k).1).trans q_k
        have s_k := (hw14.block _ (Array.getElem?_eq_some_iff.1 s_k).1).trans s_k
        have s_D := s_D.keeps hw14
        have v_k := (hw14.block _ (Array.getElem?_eq_some_iff.1 v_k).1).trans v_k
        have v_D := v_D.keeps hw14
        have z_k := (hw14.block _ (Array.getElem?_eq_some_iff.1 z_k).1).trans z_k
        have z_D := z_D.keeps hw14
        have hb14 := bel_trans hb13 hw14
        go_wp2
        all_goals go_ret
        all_goals exact ⟨rfl, hb14⟩
    · have ho : o = true := by
        cases o
        · exact absurd (g2.out.2 rfl) hc
        · rfl
      subst ho
      clear g2
      obtain rfl : c = -1 := by have := h3.out; omega
      clear h3 hc g1
      clear F1
      cases hpb : pok b
      · go_wp2_with fail
        refine (of_no hpb H).mono ?_
        rintro _ y10 ⟨rfl, hw10⟩
        have H := H.keeps hw10
        have l_k := (hw10.block _ (Array.getElem?_eq_some_iff.1 l_k).1).trans l_k
        have y_k := (hw10.block _ (Array.getElem?_eq_some_iff.1 y_k).1).trans y_k
        have y_D := y_D.keeps hw10
        have p_k := (hw10.block _ (Array.getElem?_eq_some_iff.1 p_k).1).trans p_k
        have p_D := p_D.keeps hw10
        have q_k := (hw10.block _ (Array.getElem?_eq_some_iff.1 q_k).1).trans q_k
        have s_k := (hw10.block _ (Array.getElem?_eq_some_iff.1 s_k).1).trans s_k
        have s_D := s_D.keeps hw10
        have hb10 := bel_trans hb9 hw10
        have hbE := bel_trans hb10 (bel_alloc y10 (.cells #[.bool false, .slice none 0 0, .int .i64 0] 24))
        go_wp2
        all_goals go_ret
        all_goals exact ⟨rfl, hbE⟩
      · go_wp2_with fail
        refine (of_ok hpb H).mono ?_
        rintro _ y10 ⟨v, rfl, h10⟩
        obtain ⟨v_g, v_o, v_n, v_c, v_e, rfl⟩ := dans_shape h10
        have hw10 := h10.below
        have v_D := h10.num
        have H := H.keeps hw10
        have l_k := (hw10.block _ (Array.getElem?_eq_some_iff.1 l_k).1).trans l_k
        have y_k := (hw10.block _ (Array.getElem?_eq_some_iff.1 y_k).1).trans y_k
        have y_D := y_D.keeps hw10
        have p_k := (hw10.block _ (Array.getElem?_eq_some_iff.1 p_k).1).trans p_k
        have p_D := p_D.keeps hw10
        have q_k := (hw10.block _ (Array.getElem?_eq_some_iff.1 q_k).1).trans q_k
        have s_k := (hw10.block _ (Array.getElem?_eq_some_iff.1 s_k).1).trans s_k
        have s_D := s_D.keeps hw10
        have hb10 := bel_trans hb9 hw10
        have v_B := patV_bd hpb
        have l_k := heap_past (.cells #[.bool v_g, .slice v_o v_n v_c, .int .i64 v_e] 24) l_k
        have y_k := heap_past (.cells #[.bool v_g, .slice v_o v_n v_c, .int .i64 v_e] 24) y_k
        have p_k := heap_past (.cells #[.bool v_g, .slice v_o v_n v_c, .int .i64 v_e] 24) p_k
        have q_k := heap_past (.cells #[.bool v_g, .slice v_o v_n v_c, .int .i64 v_e] 24) q_k
        have s_k := heap_past (.cells #[.bool v_g, .slice v_o v_n v_c, .int .i64 v_e] 24) s_k
        have v_k := heap_a1 y10 (.cells #[.bool v_g, .slice v_o v_n v_c, .int .i64 v_e] 24)
        have y_D := y_D.keeps (bel_alloc y10 (.cells #[.bool v_g, .slice v_o v_n v_c, .int .i64 v_e] 24))
        have p_D := p_D.keeps (bel_alloc y10 (.cells #[.bool v_g, .slice v_o v_n v_c, .int .i64 v_e] 24))
        have s_D := s_D.keeps (bel_alloc y10 (.cells #[.bool v_g, .slice v_o v_n v_c, .int .i64 v_e] 24))
        have v_D := v_D.keeps (bel_alloc y10 (.cells #[.bool v_g, .slice v_o v_n v_c, .int .i64 v_e] 24))
        have H := H.keeps (bel_alloc y10 (.cells #[.bool v_g, .slice v_o v_n v_c, .int .i64 v_e] 24))
        have hb11' := bel_trans hb10 (bel_alloc y10 (.cells #[.bool v_g, .slice v_o v_n v_c, .int .i64 v_e] 24))
        go_wp2_with fail
        generalize y10.alloc (.cells #[.bool v_g, .slice v_o v_n v_c, .int .i64 v_e] 24) = x11 at l_k y_k p_k q_k s_k v_k y_D p_D s_D v_D H hb11' ⊢
        refine (mul_B v_D v_D v_B v_B (by omega) H.tab).mono ?_
        rintro _ y11 ⟨v, z_V, rfl, h11, z_E, z_B⟩
        obtain ⟨z_g, z_o, z_n, z_c, z_e, rfl⟩ := dans_shape h11
        have hw11 := h11.below
        have z_D := h11.num
        have H := H.keeps hw11
        have l_k := (hw11.block _ (Array.getElem?_eq_some_iff.1 l_k).1).trans l_k
        have y_k := (hw11.block _ (Array.getElem?_eq_some_iff.1 y_k).1).trans y_k
        have y_D := y_D.keeps hw11
        have p_k := (hw11.block _ (Array.getElem?_eq_some_iff.1 p_k).1).trans p_k
        have p_D := p_D.keeps hw11
        have q_k := (hw11.block _ (Array.getElem?_eq_some_iff.1 q_k).1).trans q_k
        have s_k := (hw11.block _ (Array.getElem?_eq_some_iff.1 s_k).1).trans s_k
        have s_D := s_D.keeps hw11
        have v_k := (hw11.block _ (Array.getElem?_eq_some_iff.1 v_k).1).trans v_k
        have v_D := v_D.keeps hw11
        have hb11 := bel_trans hb11' hw11
        have RZ := fun W (D : DNum W (.agg #[.bool z_g, .slice z_o z_n z_c, .int .i64 z_e]) z_V) (H : Hold4 W) => root_D0 D (z_B.ok (by omega)) hrb hpb z_E H
        clear z_E
        have l_k := heap_past (.cells #[.bool z_g, .slice z_o z_n z_c, .int .i64 z_e] 24) l_k
        have y_k := heap_past (.cells #[.bool z_g, .slice z_o z_n z_c, .int .i64 z_e] 24) y_k
        have p_k := heap_past (.cells #[.bool z_g, .slice z_o z_n z_c, .int .i64 z_e] 24) p_k
        have q_k := heap_past (.cells #[.bool z_g, .slice z_o z_n z_c, .int .i64 z_e] 24) q_k
        have s_k := heap_past (.cells #[.bool z_g, .slice z_o z_n z_c, .int .i64 z_e] 24) s_k
        have v_k := heap_past (.cells #[.bool z_g, .slice z_o z_n z_c, .int .i64 z_e] 24) v_k
        have z_k := heap_a1 y11 (.cells #[.bool z_g, .slice z_o z_n z_c, .int .i64 z_e] 24)
        have y_D := y_D.keeps (bel_alloc y11 (.cells #[.bool z_g, .slice z_o z_n z_c, .int .i64 z_e] 24))
        have p_D := p_D.keeps (bel_alloc y11 (.cells #[.bool z_g, .slice z_o z_n z_c, .int .i64 z_e] 24))
        have s_D := s_D.keeps (bel_alloc y11 (.cells #[.bool z_g, .slice z_o z_n z_c, .int .i64 z_e] 24))
        have v_D := v_D.keeps (bel_alloc y11 (.cells #[.bool z_g, .slice z_o z_n z_c, .int .i64 z_e] 24))
        have z_D := z_D.keeps (bel_alloc y11 (.cells #[.bool z_g, .slice z_o z_n z_c, .int .i64 z_e] 24))
        have H := H.keeps (bel_alloc y11 (.cells #[.bool z_g, .slice z_o z_n z_c, .int .i64 z_e] 24))
        have hb12' := bel_trans hb11 (bel_alloc y11 (.cells #[.bool z_g, .slice z_o z_n z_c, .int .i64 z_e] 24))
        go_wp2_with fail
        generalize y11.alloc (.cells #[.bool z_g, .slice z_o z_n z_c, .int .i64 z_e] 24) = x12 at l_k y_k p_k q_k s_k v_k z_k y_D p_D s_D v_D z_D H hb12' ⊢
        refine (RZ _ z_D H).mono ?_
        rintro _ y12 ⟨rfl, hw12⟩
        have H := H.keeps hw12
        have l_k := (hw12.block _ (Array.getElem?_eq_some_iff.1 l_k).1).trans l_k
        have y_k := (hw12.block _ (Array.getElem?_eq_some_iff.1 y_k).1).trans y_k
        have y_D := y_D.keeps hw12
        have p_k := (hw12.block _ (Array.getElem?_eq_some_iff.1 p_k).1).trans p_k
        have p_D := p_D.keeps hw12
        have q_k := (hw12.block _ (Array.getElem?_eq_some_iff.1 q_k).1).trans q_k
        have s_k := (hw12.block _ (Array.getElem?_eq_some_iff.1 s_k).1).trans s_k
        have s_D := s_D.keeps hw12
        have v_k := (hw12.block _ (Array.getElem?_eq_some_iff.1 v_k).1).trans v_k
        have v_D := v_D.keeps hw12
        have z_k := (hw12.block _ (Array.getElem?_eq_some_iff.1 z_k).1).trans z_k
        have z_D := z_D.keeps hw12
        have hb12 := bel_trans hb12' hw12
        clear RZ
        go_wp2_with fail
        refine (abs_B hrb H).mono ?_
        rintro _ y13 ⟨rfl, hw13⟩
        have H := H.keeps hw13
        have l_k := (hw13.block _ (Array.getElem?_eq_some_iff.1 l_k).1).trans l_k
        have y_k := (hw13.block _ (Array.getElem?_eq_some_iff.1 y_k).1).trans y_k
        have y_D := y_D.keeps hw13
        have p_k := (hw13.block _ (Array.getElem?_eq_some_iff.1 p_k).1).trans p_k
        have p_D := p_D.keeps hw13
        have q_k := (hw13.block _ (Array.getElem?_eq_some_iff.1 q_k).1).trans q_k
        have s_k := (hw13.block _ (Array.getElem?_eq_some_iff.1 s_k).1).trans s_k
        have s_D := s_D.keeps hw13
        have v_k := (hw13.block _ (Array.getElem?_eq_some_iff.1 v_k).1).trans v_k
        have v_D := v_D.keeps hw13
        have z_k := (hw13.block _ (Array.getElem?_eq_some_iff.1 z_k).1).trans z_k
        have z_D := z_D.keeps hw13
        have hb13 := bel_trans hb12 hw13
        go_wp2_with fail
        refine (canon_B H).mono ?_
        rintro _ y14 ⟨rfl, hw14⟩
        have H := H.keeps hw14
        have l_k := (hw14.block _ (Array.getElem?_eq_some_iff.1 l_k).1).trans l_k
        have y_k := (hw14.block _ (Array.getElem?_eq_some_iff.1 y_k).1).trans y_k
        have y_D := y_D.keeps hw14
        have p_k := (hw14.block _ (Array.getElem?_eq_some_iff.1 p_k).1).trans p_k
        have p_D := p_D.keeps hw14
        have q_k := (hw14.block _ (Array.getElem?_eq_some_iff.1 q_k).1).trans q_k
        have s_k := (hw14.block _ (Array.getElem?_eq_some_iff.1 s_k).1).trans s_k
        have s_D := s_D.keeps hw14
        have v_k := (hw14.block _ (Array.getElem?_eq_some_iff.1 v_k).1).trans v_k
        have v_D := v_D.keeps hw14
        have z_k := (hw14.block _ (Array.getElem?_eq_some_iff.1 z_k).1).trans z_k
        have z_D := z_D.keeps hw14
        have hb14 := bel_trans hb13 hw14
        go_wp2
        all_goals go_ret
        all_goals exact ⟨rfl, hb14⟩
  · go_wp2_with fail
    refine (of_ok hpe H).mono ?_
    rintro _ y6 ⟨v, rfl, h6⟩
    obtain ⟨q_g, q_o, q_n, q_c, q_e, rfl⟩ := dans_shape h6
    have hw6 := h6.below
    have q_D := h6.num
    have H := H.keeps hw6
    have l_k := (hw6.block _ (Array.getElem?_eq_some_iff.1 l_k).1).trans l_k
    have y_k := (hw6.block _ (Array.getElem?_eq_some_iff.1 y_k).1).trans y_k
    have y_D := y_D.keeps hw6
    have p_k := (hw6.block _ (Array.getElem?_eq_some_iff.1 p_k).1).trans p_k
    have p_D := p_D.keeps hw6
    have hb6 := bel_trans hb5 hw6
    have l_k := heap_past (.cells #[.bool q_g, .slice q_o q_n q_c, .int .i64 q_e] 24) l_k
    have y_k := heap_past (.cells #[.bool q_g, .slice q_o q_n q_c, .int .i64 q_e] 24) y_k
    have p_k := heap_past (.cells #[.bool q_g, .slice q_o q_n q_c, .int .i64 q_e] 24) p_k
    have q_k := heap_a1 y6 (.cells #[.bool q_g, .slice q_o q_n q_c, .int .i64 q_e] 24)
    have y_D := y_D.keeps (bel_alloc y6 (.cells #[.bool q_g, .slice q_o q_n q_c, .int .i64 q_e] 24))
    have p_D := p_D.keeps (bel_alloc y6 (.cells #[.bool q_g, .slice q_o q_n q_c, .int .i64 q_e] 24))
    have q_D := q_D.keeps (bel_alloc y6 (.cells #[.bool q_g, .slice q_o q_n q_c, .int .i64 q_e] 24))
    have H := H.keeps (bel_alloc y6 (.cells #[.bool q_g, .slice q_o q_n q_c, .int .i64 q_e] 24))
    have hb7' := bel_trans hb6 (bel_alloc y6 (.cells #[.bool q_g, .slice q_o q_n q_c, .int .i64 q_e] 24))
    go_wp2_with fail
    generalize y6.alloc (.cells #[.bool q_g, .slice q_o q_n q_c, .int .i64 q_e] 24) = x7 at l_k y_k p_k q_k y_D p_D q_D H hb7' ⊢
    refine (alive4 _ H.env H.tab).mono ?_
    rintro _ y7 ⟨rfl, hw7⟩
    have H := H.keeps hw7
    have l_k := (hw7.block _ (Array.getElem?_eq_some_iff.1 l_k).1).trans l_k
    have y_k := (hw7.block _ (Array.getElem?_eq_some_iff.1 y_k).1).trans y_k
    have y_D := y_D.keeps hw7
    have p_k := (hw7.block _ (Array.getElem?_eq_some_iff.1 p_k).1).trans p_k
    have p_D := p_D.keeps hw7
    have q_k := (hw7.block _ (Array.getElem?_eq_some_iff.1 q_k).1).trans q_k
    have q_D := q_D.keeps hw7
    have hb7 := bel_trans hb7' hw7
    have f_p0 := blkC p_k 0 rfl
    have f_p1 := blkC p_k 1 rfl
    have f_p2 := blkC p_k 2 rfl
    go_wp2_with fail
    clear f_p0 f_p1 f_p2
    refine (mul_B p_D p_D p_B p_B (by omega) H.tab).mono ?_
    rintro _ y8 ⟨v, s_V, rfl, h8, s_E, s_B⟩
    obtain ⟨s_g, s_o, s_n, s_c, s_e, rfl⟩ := dans_shape h8
    have hw8 := h8.below
    have s_D := h8.num
    have H := H.keeps hw8
    have l_k := (hw8.block _ (Array.getElem?_eq_some_iff.1 l_k).1).trans l_k
    have y_k := (hw8.block _ (Array.getElem?_eq_some_iff.1 y_k).1).trans y_k
    have y_D := y_D.keeps hw8
    have p_k := (hw8.block _ (Array.getElem?_eq_some_iff.1 p_k).1).trans p_k
    have p_D := p_D.keeps hw8
    have q_k := (hw8.block _ (Array.getElem?_eq_some_iff.1 q_k).1).trans q_k
    have q_D := q_D.keeps hw8
    have hb8 := bel_trans hb7 hw8
    obtain ⟨g1, g2⟩ := F0.out s_V s_E
    clear s_E F0
    have l_k := heap_past (.cells #[.bool s_g, .slice s_o s_n s_c, .int .i64 s_e] 24) l_k
    have y_k := heap_past (.cells #[.bool s_g, .slice s_o s_n s_c, .int .i64 s_e] 24) y_k
    have p_k := heap_past (.cells #[.bool s_g, .slice s_o s_n s_c, .int .i64 s_e] 24) p_k
    have q_k := heap_past (.cells #[.bool s_g, .slice s_o s_n s_c, .int .i64 s_e] 24) q_k
    have s_k := heap_a1 y8 (.cells #[.bool s_g, .slice s_o s_n s_c, .int .i64 s_e] 24)
    have y_D := y_D.keeps (bel_alloc y8 (.cells #[.bool s_g, .slice s_o s_n s_c, .int .i64 s_e] 24))
    have p_D := p_D.keeps (bel_alloc y8 (.cells #[.bool s_g, .slice s_o s_n s_c, .int .i64 s_e] 24))
    have q_D := q_D.keeps (bel_alloc y8 (.cells #[.bool s_g, .slice s_o s_n s_c, .int .i64 s_e] 24))
    have s_D := s_D.keeps (bel_alloc y8 (.cells #[.bool s_g, .slice s_o s_n s_c, .int .i64 s_e] 24))
    have H := H.keeps (bel_alloc y8 (.cells #[.bool s_g, .slice s_o s_n s_c, .int .i64 s_e] 24))
    have hb9' := bel_trans hb8 (bel_alloc y8 (.cells #[.bool s_g, .slice s_o s_n s_c, .int .i64 s_e] 24))
    have f_y0 := blkC y_k 0 rfl
    have f_y1 := blkC y_k 1 rfl
    have f_y2 := blkC y_k 2 rfl
    go_wp2_with fail
    clear f_y0 f_y1 f_y2
    generalize y8.alloc (.cells #[.bool s_g, .slice s_o s_n s_c, .int .i64 s_e] 24) = x9 at l_k y_k p_k q_k s_k y_D p_D q_D s_D H hb9' ⊢
    refine (cmp_D s_D y_D (s_B.ok (by omega)) (y_B.ok (by omega))).mono ?_
    rintro _ y9 ⟨rfl, hw9⟩
    have H := H.keeps hw9
    have l_k := (hw9.block _ (Array.getElem?_eq_some_iff.1 l_k).1).trans l_k
    have y_k := (hw9.block _ (Array.getElem?_eq_some_iff.1 y_k).1).trans y_k
    have y_D := y_D.keeps hw9
    have p_k := (hw9.block _ (Array.getElem?_eq_some_iff.1 p_k).1).trans p_k
    have p_D := p_D.keeps hw9
    have q_k := (hw9.block _ (Array.getElem?_eq_some_iff.1 q_k).1).trans q_k
    have q_D := q_D.keeps hw9
    have s_k := (hw9.block _ (Array.getElem?_eq_some_iff.1 s_k).1).trans s_k
    have s_D := s_D.keeps hw9
    have hb9 := bel_trans hb9' hw9
    have h3 := ord_three s_V y_W
    generalize ord s_V y_W = c at *
    have h3 : Hid (c = 1 ∨ c = 0 ∨ c = -1) := h3
    have g2 : Hid (c = 0 ↔ o = false) := g2
    by_cases hc : c = 0
    · have ho := g2.out.1 hc
      clear h3
      subst hc ho
      clear g2
      have q_B := patV_bd hpe
      have f_q0 := blkC q_k 0 rfl
      have f_q1 := blkC q_k 1 rfl
      have f_q2 := blkC q_k 2 rfl
      go_wp2_with fail
      clear f_q0 f_q1 f_q2
      refine (mul_B q_D q_D q_B q_B (by omega) H.tab).mono ?_
      rintro _ y10 ⟨v, t_V, rfl, h10, t_E, t_B⟩
      obtain ⟨t_g, t_o, t_n, t_c, t_e, rfl⟩ := dans_shape h10
      have hw10 := h10.below
      have t_D := h10.num
      have H := H.keeps hw10
      have l_k := (hw10.block _ (Array.getElem?_eq_some_iff.1 l_k).1).trans l_k
      have y_k := (hw10.block _ (Array.getElem?_eq_some_iff.1 y_k).1).trans y_k
      have y_D := y_D.keeps hw10
      have p_k := (hw10.block _ (Array.getElem?_eq_some_iff.1 p_k).1).trans p_k
      have p_D := p_D.keeps hw10
      have q_k := (hw10.block _ (Array.getElem?_eq_some_iff.1 q_k).1).trans q_k
      have q_D := q_D.keeps hw10
      have s_k := (hw10.block _ (Array.getElem?_eq_some_iff.1 s_k).1).trans s_k
      have s_D := s_D.keeps hw10
      have hb10 := bel_trans hb9 hw10
      have g3 := F1.out t_V t_E hpe
      clear t_E F1
      have l_k := heap_past (.cells #[.bool t_g, .slice t_o t_n t_c, .int .i64 t_e] 24) l_k
      have y_k := heap_past (.cells #[.bool t_g, .slice t_o t_n t_c, .int .i64 t_e] 24) y_k
      have p_k := heap_past (.cells #[.bool t_g, .slice t_o t_n t_c, .int .i64 t_e] 24) p_k
      have q_k := heap_past (.cells #[.bool t_g, .slice t_o t_n t_c, .int .i64 t_e] 24) q_k
      have s_k := heap_past (.cells #[.bool t_g, .slice t_o t_n t_c, .int .i64 t_e] 24) s_k
      have t_k := heap_a1 y10 (.cells #[.bool t_g, .slice t_o t_n t_c, .int .i64 t_e] 24)
      have y_D := y_D.keeps (bel_alloc y10 (.cells #[.bool t_g, .slice t_o t_n t_c, .int .i64 t_e] 24))
      have p_D := p_D.keeps (bel_alloc y10 (.cells #[.bool t_g, .slice t_o t_n t_c, .int .i64 t_e] 24))
      have q_D := q_D.keeps (bel_alloc y10 (.cells #[.bool t_g, .slice t_o t_n t_c, .int .i64 t_e] 24))
      have s_D := s_D.keeps (bel_alloc y10 (.cells #[.bool t_g, .slice t_o t_n t_c, .int .i64 t_e] 24))
      have t_D := t_D.keeps (bel_alloc y10 (.cells #[.bool t_g, .slice t_o t_n t_c, .int .i64 t_e] 24))
      have H := H.keeps (bel_alloc y10 (.cells #[.bool t_g, .slice t_o t_n t_c, .int .i64 t_e] 24))
      have hb11' := bel_trans hb10 (bel_alloc y10 (.cells #[.bool t_g, .slice t_o t_n t_c, .int .i64 t_e] 24))
      have f_y0 := blkC y_k 0 rfl
      have f_y1 := blkC y_k 1 rfl
      have f_y2 := blkC y_k 2 rfl
      go_wp2_with fail
      clear f_y0 f_y1 f_y2
      generalize y10.alloc (.cells #[.bool t_g, .slice t_o t_n t_c, .int .i64 t_e] 24) = x11 at l_k y_k p_k q_k s_k t_k y_D p_D q_D s_D t_D H hb11' ⊢
      refine (cmp_D t_D y_D (t_B.ok (by omega)) (y_B.ok (by omega))).mono ?_
      rintro _ y11 ⟨rfl, hw11⟩
      have H := H.keeps hw11
      have l_k := (hw11.block _ (Array.getElem?_eq_some_iff.1 l_k).1).trans l_k
      have y_k := (hw11.block _ (Array.getElem?_eq_some_iff.1 y_k).1).trans y_k
      have y_D := y_D.keeps hw11
      have p_k := (hw11.block _ (Array.getElem?_eq_some_iff.1 p_k).1).trans p_k
      have p_D := p_D.keeps hw11
      have q_k := (hw11.block _ (Array.getElem?_eq_some_iff.1 q_k).1).trans q_k
      have q_D := q_D.keeps hw11
      have s_k := (hw11.block _ (Array.getElem?_eq_some_iff.1 s_k).1).trans s_k
      have s_D := s_D.keeps hw11
      have t_k := (hw11.block _ (Array.getElem?_eq_some_iff.1 t_k).1).trans t_k
      have t_D := t_D.keeps hw11
      have hb11 := bel_trans hb11' hw11
      generalize ord t_V y_W = c' at *
      have g3' : ¬ c' ≤ 0 := by omega
      clear g3
      cases hpb : pok b
      · go_wp2_with fail
        refine (of_no hpb H).mono ?_
        rintro _ y12 ⟨rfl, hw12⟩
        have H := H.keeps hw12
        have l_k := (hw12.block _ (Array.getElem?_eq_some_iff.1 l_k).1).trans l_k
        have y_k := (hw12.block _ (Array.getElem?_eq_some_iff.1 y_k).1).trans y_k
        have y_D := y_D.keeps hw12
        have p_k := (hw12.block _ (Array.getElem?_eq_some_iff.1 p_k).1).trans p_k
        have p_D := p_D.keeps hw12
        have q_k := (hw12.block _ (Array.getElem?_eq_some_iff.1 q_k).1).trans q_k
        have q_D := q_D.keeps hw12
        have s_k := (hw12.block _ (Array.getElem?_eq_some_iff.1 s_k).1).trans s_k
        have s_D := s_D.keeps hw12
        have t_k := (hw12.block _ (Array.getElem?_eq_some_iff.1 t_k).1).trans t_k
        have t_D := t_D.keeps hw12
        have hb12 := bel_trans hb11 hw12
        have hbE := bel_trans hb12 (bel_alloc y12 (.cells #[.bool false, .slice none 0 0, .int .i64 0] 24))
        go_wp2
        all_goals go_ret
        all_goals exact ⟨rfl, hbE⟩
      · go_wp2_with fail
        refine (of_ok hpb H).mono ?_
        rintro _ y12 ⟨v, rfl, h12⟩
        obtain ⟨v_g, v_o, v_n, v_c, v_e, rfl⟩ := dans_shape h12
        have hw12 := h12.below
        have v_D := h12.num
        have H := H.keeps hw12
        have l_k := (hw12.block _ (Array.getElem?_eq_some_iff.1 l_k).1).trans l_k
        have y_k := (hw12.block _ (Array.getElem?_eq_some_iff.1 y_k).1).trans y_k
        have y_D := y_D.keeps hw12
        have p_k := (hw12.block _ (Array.getElem?_eq_some_iff.1 p_k).1).trans p_k
        have p_D := p_D.keeps hw12
        have q_k := (hw12.block _ (Array.getElem?_eq_some_iff.1 q_k).1).trans q_k
        have q_D := q_D.keeps hw12
        have s_k := (hw12.block _ (Array.getElem?_eq_some_iff.1 s_k).1).trans s_k
        have s_D := s_D.keeps hw12
        have t_k := (hw12.block _ (Array.getElem?_eq_some_iff.1 t_k).1).trans t_k
        have t_D := t_D.keeps hw12
        have hb12 := bel_trans hb11 hw12
        have v_B := patV_bd hpb
        have l_k := heap_past (.cells #[.bool v_g, .slice v_o v_n v_c, .int .i64 v_e] 24) l_k
        have y_k := heap_past (.cells #[.bool v_g, .slice v_o v_n v_c, .int .i64 v_e] 24) y_k
        have p_k := heap_past (.cells #[.bool v_g, .slice v_o v_n v_c, .int .i64 v_e] 24) p_k
        have q_k := heap_past (.cells #[.bool v_g, .slice v_o v_n v_c, .int .i64 v_e] 24) q_k
        have s_k := heap_past (.cells #[.bool v_g, .slice v_o v_n v_c, .int .i64 v_e] 24) s_k
        have t_k := heap_past (.cells #[.bool v_g, .slice v_o v_n v_c, .int .i64 v_e] 24) t_k
        have v_k := heap_a1 y12 (.cells #[.bool v_g, .slice v_o v_n v_c, .int .i64 v_e] 24)
        have y_D := y_D.keeps (bel_alloc y12 (.cells #[.bool v_g, .slice v_o v_n v_c, .int .i64 v_e] 24))
        have p_D := p_D.keeps (bel_alloc y12 (.cells #[.bool v_g, .slice v_o v_n v_c, .int .i64 v_e] 24))
        have q_D := q_D.keeps (bel_alloc y12 (.cells #[.bool v_g, .slice v_o v_n v_c, .int .i64 v_e] 24))
        have s_D := s_D.keeps (bel_alloc y12 (.cells #[.bool v_g, .slice v_o v_n v_c, .int .i64 v_e] 24))
        have t_D := t_D.keeps (bel_alloc y12 (.cells #[.bool v_g, .slice v_o v_n v_c, .int .i64 v_e] 24))
        have v_D := v_D.keeps (bel_alloc y12 (.cells #[.bool v_g, .slice v_o v_n v_c, .int .i64 v_e] 24))
        have H := H.keeps (bel_alloc y12 (.cells #[.bool v_g, .slice v_o v_n v_c, .int .i64 v_e] 24))
        have hb13' := bel_trans hb12 (bel_alloc y12 (.cells #[.bool v_g, .slice v_o v_n v_c, .int .i64 v_e] 24))
        go_wp2_with fail
        generalize y12.alloc (.cells #[.bool v_g, .slice v_o v_n v_c, .int .i64 v_e] 24) = x13 at l_k y_k p_k q_k s_k t_k v_k y_D p_D q_D s_D t_D v_D H hb13' ⊢
        refine (mul_B v_D v_D v_B v_B (by omega) H.tab).mono ?_
        rintro _ y13 ⟨v, z_V, rfl, h13, z_E, z_B⟩
        obtain ⟨z_g, z_o, z_n, z_c, z_e, rfl⟩ := dans_shape h13
        have hw13 := h13.below
        have z_D := h13.num
        have H := H.keeps hw13
        have l_k := (hw13.block _ (Array.getElem?_eq_some_iff.1 l_k).1).trans l_k
        have y_k := (hw13.block _ (Array.getElem?_eq_some_iff.1 y_k).1).trans y_k
        have y_D := y_D.keeps hw13
        have p_k := (hw13.block _ (Array.getElem?_eq_some_iff.1 p_k).1).trans p_k
        have p_D := p_D.keeps hw13
        have q_k := (hw13.block _ (Array.getElem?_eq_some_iff.1 q_k).1).trans q_k
        have q_D := q_D.keeps hw13
        have s_k := (hw13.block _ (Array.getElem?_eq_some_iff.1 s_k).1).trans s_k
        have s_D := s_D.keeps hw13
        have t_k := (hw13.block _ (Array.getElem?_eq_some_iff.1 t_k).1).trans t_k
        have t_D := t_D.keeps hw13
        have v_k := (hw13.block _ (Array.getElem?_eq_some_iff.1 v_k).1).trans v_k
        have v_D := v_D.keeps hw13
        have hb13 := bel_trans hb13' hw13
        have RZ := fun W (D : DNum W (.agg #[.bool z_g, .slice z_o z_n z_c, .int .i64 z_e]) z_V) (H : Hold4 W) => root_D0 D (z_B.ok (by omega)) hrb hpb z_E H
        clear z_E
        have l_k := heap_past (.cells #[.bool z_g, .slice z_o z_n z_c, .int .i64 z_e] 24) l_k
        have y_k := heap_past (.cells #[.bool z_g, .slice z_o z_n z_c, .int .i64 z_e] 24) y_k
        have p_k := heap_past (.cells #[.bool z_g, .slice z_o z_n z_c, .int .i64 z_e] 24) p_k
        have q_k := heap_past (.cells #[.bool z_g, .slice z_o z_n z_c, .int .i64 z_e] 24) q_k
        have s_k := heap_past (.cells #[.bool z_g, .slice z_o z_n z_c, .int .i64 z_e] 24) s_k
        have t_k := heap_past (.cells #[.bool z_g, .slice z_o z_n z_c, .int .i64 z_e] 24) t_k
        have v_k := heap_past (.cells #[.bool z_g, .slice z_o z_n z_c, .int .i64 z_e] 24) v_k
        have z_k := heap_a1 y13 (.cells #[.bool z_g, .slice z_o z_n z_c, .int .i64 z_e] 24)
        have y_D := y_D.keeps (bel_alloc y13 (.cells #[.bool z_g, .slice z_o z_n z_c, .int .i64 z_e] 24))
        have p_D := p_D.keeps (bel_alloc y13 (.cells #[.bool z_g, .slice z_o z_n z_c, .int .i64 z_e] 24))
        have q_D := q_D.keeps (bel_alloc y13 (.cells #[.bool z_g, .slice z_o z_n z_c, .int .i64 z_e] 24))
        have s_D := s_D.keeps (bel_alloc y13 (.cells #[.bool z_g, .slice z_o z_n z_c, .int .i64 z_e] 24))
        have t_D := t_D.keeps (bel_alloc y13 (.cells #[.bool z_g, .slice z_o z_n z_c, .int .i64 z_e] 24))
        have v_D := v_D.keeps (bel_alloc y13 (.cells #[.bool z_g, .slice z_o z_n z_c, .int .i64 z_e] 24))
        have z_D := z_D.keeps (bel_alloc y13 (.cells #[.bool z_g, .slice z_o z_n z_c, .int .i64 z_e] 24))
        have H := H.keeps (bel_alloc y13 (.cells #[.bool z_g, .slice z_o z_n z_c, .int .i64 z_e] 24))
        have hb14' := bel_trans hb13 (bel_alloc y13 (.cells #[.bool z_g, .slice z_o z_n z_c, .int .i64 z_e] 24))
        go_wp2_with fail
        generalize y13.alloc (.cells #[.bool z_g, .slice z_o z_n z_c, .int .i64 z_e] 24) = x14 at l_k y_k p_k q_k s_k t_k v_k z_k y_D p_D q_D s_D t_D v_D z_D H hb14' ⊢
        refine (RZ _ z_D H).mono ?_
        rintro _ y14 ⟨rfl, hw14⟩
        have H := H.keeps hw14
        have l_k := (hw14.block _ (Array.getElem?_eq_some_iff.1 l_k).1).trans l_k
        have y_k := (hw14.block _ (Array.getElem?_eq_some_iff.1 y_k).1).trans y_k
        have y_D := y_D.keeps hw14
        have p_k := (hw14.block _ (Array.getElem?_eq_some_iff.1 p_k).1).trans p_k
        have p_D := p_D.keeps hw14
        have q_k := (hw14.block _ (Array.getElem?_eq_some_iff.1 q_k).1).trans q_k
        have q_D := q_D.keeps hw14
        have s_k := (hw14.block _ (Array.getElem?_eq_some_iff.1 s_k).1).trans s_k
        have s_D := s_D.keeps hw14
        have t_k := (hw14.block _ (Array.getElem?_eq_some_iff.1 t_k).1).trans t_k
        have t_D := t_D.keeps hw14
        have v_k := (hw14.block _ (Array.getElem?_eq_some_iff.1 v_k).1).trans v_k
        have v_D := v_D.keeps hw14
        have z_k := (hw14.block _ (Array.getElem?_eq_some_iff.1 z_k).1).trans z_k
        have z_D := z_D.keeps hw14
        have hb14 := bel_trans hb14' hw14
        clear RZ
        go_wp2_with fail
        refine (abs_B hrb H).mono ?_
        rintro _ y15 ⟨rfl, hw15⟩
        have H := H.keeps hw15
        have l_k := (hw15.block _ (Array.getElem?_eq_some_iff.1 l_k).1).trans l_k
        have y_k := (hw15.block _ (Array.getElem?_eq_some_iff.1 y_k).1).trans y_k
        have y_D := y_D.keeps hw15
        have p_k := (hw15.block _ (Array.getElem?_eq_some_iff.1 p_k).1).trans p_k
        have p_D := p_D.keeps hw15
        have q_k := (hw15.block _ (Array.getElem?_eq_some_iff.1 q_k).1).trans q_k
        have q_D := q_D.keeps hw15
        have s_k := (hw15.block _ (Array.getElem?_eq_some_iff.1 s_k).1).trans s_k
        have s_D := s_D.keeps hw15
        have t_k := (hw15.block _ (Array.getElem?_eq_some_iff.1 t_k).1).trans t_k
        have t_D := t_D.keeps hw15
        have v_k := (hw15.block _ (Array.getElem?_eq_some_iff.1 v_k).1).trans v_k
        have v_D := v_D.keeps hw15
        have z_k := (hw15.block _ (Array.getElem?_eq_some_iff.1 z_k).1).trans z_k
        have z_D := z_D.keeps hw15
        have hb15 := bel_trans hb14 hw15
        go_wp2_with fail
        refine (canon_B H).mono ?_
        rintro _ y16 ⟨rfl, hw16⟩
        have H := H.keeps hw16
        have l_k := (hw16.block _ (Array.getElem?_eq_some_iff.1 l_k).1).trans l_k
        have y_k := (hw16.block _ (Array.getElem?_eq_some_iff.1 y_k).1).trans y_k
        have y_D := y_D.keeps hw16
        have p_k := (hw16.block _ (Array.getElem?_eq_some_iff.1 p_k).1).trans p_k
        have p_D := p_D.keeps hw16
        have q_k := (hw16.block _ (Array.getElem?_eq_some_iff.1 q_k).1).trans q_k
        have q_D := q_D.keeps hw16
        have s_k := (hw16.block _ (Array.getElem?_eq_some_iff.1 s_k).1).trans s_k
        have s_D := s_D.keeps hw16
        have t_k := (hw16.block _ (Array.getElem?_eq_some_iff.1 t_k).1).trans t_k
        have t_D := t_D.keeps hw16
        have v_k := (hw16.block _ (Array.getElem?_eq_some_iff.1 v_k).1).trans v_k
        have v_D := v_D.keeps hw16
        have z_k := (hw16.block _ (Array.getElem?_eq_some_iff.1 z_k).1).trans z_k
        have z_D := z_D.keeps hw16
        have hb16 := bel_trans hb15 hw16
        go_wp2
        all_goals go_ret
        all_goals exact ⟨rfl, hb16⟩
    · have ho : o = true := by
        cases o
        · exact absurd (g2.out.2 rfl) hc
        · rfl
      subst ho
      clear g2
      obtain rfl : c = -1 := by have := h3.out; omega
      clear h3 hc g1
      have q_B := patV_bd hpe
      have f_q0 := blkC q_k 0 rfl
      have f_q1 := blkC q_k 1 rfl
      have f_q2 := blkC q_k 2 rfl
      go_wp2_with fail
      clear f_q0 f_q1 f_q2
      refine (mul_B q_D q_D q_B q_B (by omega) H.tab).mono ?_
      rintro _ y10 ⟨v, t_V, rfl, h10, t_E, t_B⟩
      obtain ⟨t_g, t_o, t_n, t_c, t_e, rfl⟩ := dans_shape h10
      have hw10 := h10.below
      have t_D := h10.num
      have H := H.keeps hw10
      have l_k := (hw10.block _ (Array.getElem?_eq_some_iff.1 l_k).1).trans l_k
      have y_k := (hw10.block _ (Array.getElem?_eq_some_iff.1 y_k).1).trans y_k
      have y_D := y_D.keeps hw10
      have p_k := (hw10.block _ (Array.getElem?_eq_some_iff.1 p_k).1).trans p_k
      have p_D := p_D.keeps hw10
      have q_k := (hw10.block _ (Array.getElem?_eq_some_iff.1 q_k).1).trans q_k
      have q_D := q_D.keeps hw10
      have s_k := (hw10.block _ (Array.getElem?_eq_some_iff.1 s_k).1).trans s_k
      have s_D := s_D.keeps hw10
      have hb10 := bel_trans hb9 hw10
      have g3 := F1.out t_V t_E hpe
      clear t_E F1
      have l_k := heap_past (.cells #[.bool t_g, .slice t_o t_n t_c, .int .i64 t_e] 24) l_k
      have y_k := heap_past (.cells #[.bool t_g, .slice t_o t_n t_c, .int .i64 t_e] 24) y_k
      have p_k := heap_past (.cells #[.bool t_g, .slice t_o t_n t_c, .int .i64 t_e] 24) p_k
      have q_k := heap_past (.cells #[.bool t_g, .slice t_o t_n t_c, .int .i64 t_e] 24) q_k
      have s_k := heap_past (.cells #[.bool t_g, .slice t_o t_n t_c, .int .i64 t_e] 24) s_k
      have t_k := heap_a1 y10 (.cells #[.bool t_g, .slice t_o t_n t_c, .int .i64 t_e] 24)
      have y_D := y_D.keeps (bel_alloc y10 (.cells #[.bool t_g, .slice t_o t_n t_c, .int .i64 t_e] 24))
      have p_D := p_D.keeps (bel_alloc y10 (.cells #[.bool t_g, .slice t_o t_n t_c, .int .i64 t_e] 24))
      have q_D := q_D.keeps (bel_alloc y10 (.cells #[.bool t_g, .slice t_o t_n t_c, .int .i64 t_e] 24))
      have s_D := s_D.keeps (bel_alloc y10 (.cells #[.bool t_g, .slice t_o t_n t_c, .int .i64 t_e] 24))
      have t_D := t_D.keeps (bel_alloc y10 (.cells #[.bool t_g, .slice t_o t_n t_c, .int .i64 t_e] 24))
      have H := H.keeps (bel_alloc y10 (.cells #[.bool t_g, .slice t_o t_n t_c, .int .i64 t_e] 24))
      have hb11' := bel_trans hb10 (bel_alloc y10 (.cells #[.bool t_g, .slice t_o t_n t_c, .int .i64 t_e] 24))
      have f_y0 := blkC y_k 0 rfl
      have f_y1 := blkC y_k 1 rfl
      have f_y2 := blkC y_k 2 rfl
      go_wp2_with fail
      clear f_y0 f_y1 f_y2
      generalize y10.alloc (.cells #[.bool t_g, .slice t_o t_n t_c, .int .i64 t_e] 24) = x11 at l_k y_k p_k q_k s_k t_k y_D p_D q_D s_D t_D H hb11' ⊢
      refine (cmp_D t_D y_D (t_B.ok (by omega)) (y_B.ok (by omega))).mono ?_
      rintro _ y11 ⟨rfl, hw11⟩
      have H := H.keeps hw11
      have l_k := (hw11.block _ (Array.getElem?_eq_some_iff.1 l_k).1).trans l_k
      have y_k := (hw11.block _ (Array.getElem?_eq_some_iff.1 y_k).1).trans y_k
      have y_D := y_D.keeps hw11
      have p_k := (hw11.block _ (Array.getElem?_eq_some_iff.1 p_k).1).trans p_k
      have p_D := p_D.keeps hw11
      have q_k := (hw11.block _ (Array.getElem?_eq_some_iff.1 q_k).1).trans q_k
      have q_D := q_D.keeps hw11
      have s_k := (hw11.block _ (Array.getElem?_eq_some_iff.1 s_k).1).trans s_k
      have s_D := s_D.keeps hw11
      have t_k := (hw11.block _ (Array.getElem?_eq_some_iff.1 t_k).1).trans t_k
      have t_D := t_D.keeps hw11
      have hb11 := bel_trans hb11' hw11
      generalize ord t_V y_W = c' at *
      have g3' : ¬ c' ≤ 0 := by omega
      clear g3
      cases hpb : pok b
      · go_wp2_with fail
        refine (of_no hpb H).mono ?_
        rintro _ y12 ⟨rfl, hw12⟩
        have H := H.keeps hw12
        have l_k := (hw12.block _ (Array.getElem?_eq_some_iff.1 l_k).1).trans l_k
        have y_k := (hw12.block _ (Array.getElem?_eq_some_iff.1 y_k).1).trans y_k
        have y_D := y_D.keeps hw12
        have p_k := (hw12.block _ (Array.getElem?_eq_some_iff.1 p_k).1).trans p_k
        have p_D := p_D.keeps hw12
        have q_k := (hw12.block _ (Array.getElem?_eq_some_iff.1 q_k).1).trans q_k
        have q_D := q_D.keeps hw12
        have s_k := (hw12.block _ (Array.getElem?_eq_some_iff.1 s_k).1).trans s_k
        have s_D := s_D.keeps hw12
        have t_k := (hw12.block _ (Array.getElem?_eq_some_iff.1 t_k).1).trans t_k
        have t_D := t_D.keeps hw12
        have hb12 := bel_trans hb11 hw12
        have hbE := bel_trans hb12 (bel_alloc y12 (.cells #[.bool false, .slice none 0 0, .int .i64 0] 24))
        go_wp2
        all_goals go_ret
        all_goals exact ⟨rfl, hbE⟩
      · go_wp2_with fail
        refine (of_ok hpb H).mono ?_
        rintro _ y12 ⟨v, rfl, h12⟩
        obtain ⟨v_g, v_o, v_n, v_c, v_e, rfl⟩ := dans_shape h12
        have hw12 := h12.below
        have v_D := h12.num
        have H := H.keeps hw12
        have l_k := (hw12.block _ (Array.getElem?_eq_some_iff.1 l_k).1).trans l_k
        have y_k := (hw12.block _ (Array.getElem?_eq_some_iff.1 y_k).1).trans y_k
        have y_D := y_D.keeps hw12
        have p_k := (hw12.block _ (Array.getElem?_eq_some_iff.1 p_k).1).trans p_k
        have p_D := p_D.keeps hw12
        have q_k := (hw12.block _ (Array.getElem?_eq_some_iff.1 q_k).1).trans q_k
        have q_D := q_D.keeps hw12
        have s_k := (hw12.block _ (Array.getElem?_eq_some_iff.1 s_k).1).trans s_k
        have s_D := s_D.keeps hw12
        have t_k := (hw12.block _ (Array.getElem?_eq_some_iff.1 t_k).1).trans t_k
        have t_D := t_D.keeps hw12
        have hb12 := bel_trans hb11 hw12
        have v_B := patV_bd hpb
        have l_k := heap_past (.cells #[.bool v_g, .slice v_o v_n v_c, .int .i64 v_e] 24) l_k
        have y_k := heap_past (.cells #[.bool v_g, .slice v_o v_n v_c, .int .i64 v_e] 24) y_k
        have p_k := heap_past (.cells #[.bool v_g, .slice v_o v_n v_c, .int .i64 v_e] 24) p_k
        have q_k := heap_past (.cells #[.bool v_g, .slice v_o v_n v_c, .int .i64 v_e] 24) q_k
        have s_k := heap_past (.cells #[.bool v_g, .slice v_o v_n v_c, .int .i64 v_e] 24) s_k
        have t_k := heap_past (.cells #[.bool v_g, .slice v_o v_n v_c, .int .i64 v_e] 24) t_k
        have v_k := heap_a1 y12 (.cells #[.bool v_g, .slice v_o v_n v_c, .int .i64 v_e] 24)
        have y_D := y_D.keeps (bel_alloc y12 (.cells #[.bool v_g, .slice v_o v_n v_c, .int .i64 v_e] 24))
        have p_D := p_D.keeps (bel_alloc y12 (.cells #[.bool v_g, .slice v_o v_n v_c, .int .i64 v_e] 24))
        have q_D := q_D.keeps (bel_alloc y12 (.cells #[.bool v_g, .slice v_o v_n v_c, .int .i64 v_e] 24))
        have s_D := s_D.keeps (bel_alloc y12 (.cells #[.bool v_g, .slice v_o v_n v_c, .int .i64 v_e] 24))
        have t_D := t_D.keeps (bel_alloc y12 (.cells #[.bool v_g, .slice v_o v_n v_c, .int .i64 v_e] 24))
        have v_D := v_D.keeps (bel_alloc y12 (.cells #[.bool v_g, .slice v_o v_n v_c, .int .i64 v_e] 24))
        have H := H.keeps (bel_alloc y12 (.cells #[.bool v_g, .slice v_o v_n v_c, .int .i64 v_e] 24))
        have hb13' := bel_trans hb12 (bel_alloc y12 (.cells #[.bool v_g, .slice v_o v_n v_c, .int .i64 v_e] 24))
        go_wp2_with fail
        generalize y12.alloc (.cells #[.bool v_g, .slice v_o v_n v_c, .int .i64 v_e] 24) = x13 at l_k y_k p_k q_k s_k t_k v_k y_D p_D q_D s_D t_D v_D H hb13' ⊢
        refine (mul_B v_D v_D v_B v_B (by omega) H.tab).mono ?_
        rintro _ y13 ⟨v, z_V, rfl, h13, z_E, z_B⟩
        obtain ⟨z_g, z_o, z_n, z_c, z_e, rfl⟩ := dans_shape h13
        have hw13 := h13.below
        have z_D := h13.num
        have H := H.keeps hw13
        have l_k := (hw13.block _ (Array.getElem?_eq_some_iff.1 l_k).1).trans l_k
        have y_k := (hw13.block _ (Array.getElem?_eq_some_iff.1 y_k).1).trans y_k
        have y_D := y_D.keeps hw13
        have p_k := (hw13.block _ (Array.getElem?_eq_some_iff.1 p_k).1).trans p_k
        have p_D := p_D.keeps hw13
        have q_k := (hw13.block _ (Array.getElem?_eq_some_iff.1 q_k).1).trans q_k
        have q_D := q_D.keeps hw13
        have s_k := (hw13.block _ (Array.getElem?_eq_some_iff.1 s_k).1).trans s_k
        have s_D := s_D.keeps hw13
        have t_k := (hw13.block _ (Array.getElem?_eq_some_iff.1 t_k).1).trans t_k
        have t_D := t_D.keeps hw13
        have v_k := (hw13.block _ (Array.getElem?_eq_some_iff.1 v_k).1).trans v_k
        have v_D := v_D.keeps hw13
        have hb13 := bel_trans hb13' hw13
        have RZ := fun W (D : DNum W (.agg #[.bool z_g, .slice z_o z_n z_c, .int .i64 z_e]) z_V) (H : Hold4 W) => root_D0 D (z_B.ok (by omega)) hrb hpb z_E H
        clear z_E
        have l_k := heap_past (.cells #[.bool z_g, .slice z_o z_n z_c, .int .i64 z_e] 24) l_k
        have y_k := heap_past (.cells #[.bool z_g, .slice z_o z_n z_c, .int .i64 z_e] 24) y_k
        have p_k := heap_past (.cells #[.bool z_g, .slice z_o z_n z_c, .int .i64 z_e] 24) p_k
        have q_k := heap_past (.cells #[.bool z_g, .slice z_o z_n z_c, .int .i64 z_e] 24) q_k
        have s_k := heap_past (.cells #[.bool z_g, .slice z_o z_n z_c, .int .i64 z_e] 24) s_k
        have t_k := heap_past (.cells #[.bool z_g, .slice z_o z_n z_c, .int .i64 z_e] 24) t_k
        have v_k := heap_past (.cells #[.bool z_g, .slice z_o z_n z_c, .int .i64 z_e] 24) v_k
        have z_k := heap_a1 y13 (.cells #[.bool z_g, .slice z_o z_n z_c, .int .i64 z_e] 24)
        have y_D := y_D.keeps (bel_alloc y13 (.cells #[.bool z_g, .slice z_o z_n z_c, .int .i64 z_e] 24))
        have p_D := p_D.keeps (bel_alloc y13 (.cells #[.bool z_g, .slice z_o z_n z_c, .int .i64 z_e] 24))
        have q_D := q_D.keeps (bel_alloc y13 (.cells #[.bool z_g, .slice z_o z_n z_c, .int .i64 z_e] 24))
        have s_D := s_D.keeps (bel_alloc y13 (.cells #[.bool z_g, .slice z_o z_n z_c, .int .i64 z_e] 24))
        have t_D := t_D.keeps (bel_alloc y13 (.cells #[.bool z_g, .slice z_o z_n z_c, .int .i64 z_e] 24))
        have v_D := v_D.keeps (bel_alloc y13 (.cells #[.bool z_g, .slice z_o z_n z_c, .int .i64 z_e] 24))
        have z_D := z_D.keeps (bel_alloc y13 (.cells #[.bool z_g, .slice z_o z_n z_c, .int .i64 z_e] 24))
        have H := H.keeps (bel_alloc y13 (.cells #[.bool z_g, .slice z_o z_n z_c, .int .i64 z_e] 24))
        have hb14' := bel_trans hb13 (bel_alloc y13 (.cells #[.bool z_g, .slice z_o z_n z_c, .int .i64 z_e] 24))
        go_wp2_with fail
        generalize y13.alloc (.cells #[.bool z_g, .slice z_o z_n z_c, .int .i64 z_e] 24) = x14 at l_k y_k p_k q_k s_k t_k v_k z_k y_D p_D q_D s_D t_D v_D z_D H hb14' ⊢
        refine (RZ _ z_D H).mono ?_
        rintro _ y14 ⟨rfl, hw14⟩
        have H := H.keeps hw14
        have l_k := (hw14.block _ (Array.getElem?_eq_some_iff.1 l_k).1).trans l_k
        have y_k := (hw14.block _ (Array.getElem?_eq_some_iff.1 y_k).1).trans y_k
        have y_D := y_D.keeps hw14
        have p_k := (hw14.block _ (Array.getElem?_eq_some_iff.1 p_k).1).trans p_k
        have p_D := p_D.keeps hw14
        have q_k := (hw14.block _ (Array.getElem?_eq_some_iff.1 q_k).1).trans q_k
        have q_D := q_D.keeps hw14
        have s_k := (hw14.block _ (Array.getElem?_eq_some_iff.1 s_k).1).trans s_k
        have s_D := s_D.keeps hw14
        have t_k := (hw14.block _ (Array.getElem?_eq_some_iff.1 t_k).1).trans t_k
        have t_D := t_D.keeps hw14
        have v_k := (hw14.block _ (Array.getElem?_eq_some_iff.1 v_k).1).trans v_k
        have v_D := v_D.keeps hw14
        have z_k := (hw14.block _ (Array.getElem?_eq_some_iff.1 z_k).1).trans z_k
        have z_D := z_D.keeps hw14
        have hb14 := bel_trans hb14' hw14
        clear RZ
        go_wp2_with fail
        refine (abs_B hrb H).mono ?_
        rintro _ y15 ⟨rfl, hw15⟩
        have H := H.keeps hw15
        have l_k := (hw15.block _ (Array.getElem?_eq_some_iff.1 l_k).1).trans l_k
        have y_k := (hw15.block _ (Array.getElem?_eq_some_iff.1 y_k).1).trans y_k
        have y_D := y_D.keeps hw15
        have p_k := (hw15.block _ (Array.getElem?_eq_some_iff.1 p_k).1).trans p_k
        have p_D := p_D.keeps hw15
        have q_k := (hw15.block _ (Array.getElem?_eq_some_iff.1 q_k).1).trans q_k
        have q_D := q_D.keeps hw15
        have s_k := (hw15.block _ (Array.getElem?_eq_some_iff.1 s_k).1).trans s_k
        have s_D := s_D.keeps hw15
        have t_k := (hw15.block _ (Array.getElem?_eq_some_iff.1 t_k).1).trans t_k
        have t_D := t_D.keeps hw15
        have v_k := (hw15.block _ (Array.getElem?_eq_some_iff.1 v_k).1).trans v_k
        have v_D := v_D.keeps hw15
        have z_k := (hw15.block _ (Array.getElem?_eq_some_iff.1 z_k).1).trans z_k
        have z_D := z_D.keeps hw15
        have hb15 := bel_trans hb14 hw15
        go_wp2_with fail
        refine (canon_B H).mono ?_
        rintro _ y16 ⟨rfl, hw16⟩
        have H := H.keeps hw16
        have l_k := (hw16.block _ (Array.getElem?_eq_some_iff.1 l_k).1).trans l_k
        have y_k := (hw16.block _ (Array.getElem?_eq_some_iff.1 y_k).1).trans y_k
        have y_D := y_D.keeps hw16
        have p_k := (hw16.block _ (Array.getElem?_eq_some_iff.1 p_k).1).trans p_k
        have p_D := p_D.keeps hw16
        have q_k := (hw16.block _ (Array.getElem?_eq_some_iff.1 q_k).1).trans q_k
        have q_D := q_D.keeps hw16
        have s_k := (hw16.block _ (Array.getElem?_eq_some_iff.1 s_k).1).trans s_k
        have s_D := s_D.keeps hw16
        have t_k := (hw16.block _ (Array.getElem?_eq_some_iff.1 t_k).1).trans t_k
        have t_D := t_D.keeps hw16
        have v_k := (hw16.block _ (Array.getElem?_eq_some_iff.1 v_k).1).trans v_k
        have v_D := v_D.keeps hw16
        have z_k := (hw16.block _ (Array.getElem?_eq_some_iff.1 z_k).1).trans z_k
        have z_D := z_D.keeps hw16
        have hb16 := bel_trans hb15 hw16
        go_wp2
        all_goals go_ret
        all_goals exact ⟨rfl, hb16⟩
theorem own : ownKnob Tryz.prog.godebug = none := by kernel_rfl
theorem laidOut : laidOutB Tryz.prog = true := by kernel_rfl
theorem door_met (os : Os) (args : Array Value) : laidMetH Tryz.prog Rows.roundRootsRow.laid ((World.doorLaid Tryz.prog 400 os).forCall (fun _ _ => 0) ⟨#[], args, []⟩).memory :=
  laidMetH_of_parts3 (fuel := 8) (laidMet_of_run' 8 (by kernel_rfl) (by kernel_rfl)) (by kernel_rfl) (by kernel_rfl)
set_option maxRecDepth 100000 in
theorem lifted (os : Os) (started : os.Started) (H : Type) (enc : TypeId × Value → H) :
    ReturnsInHanded {} Tryz.checked os 3 .any (fun w args => (Rows.roundRootsSpec.pre enc Tryz.prog Tryz.f3 [] false w args ∧ laidMetH Tryz.prog Rows.roundRootsRow.laid w) ∧ sizedMet enc Tryz.prog Tryz.f3 (OpenSpec.ofChange Rows.roundRootsSpec) false w args)
      (Rows.roundRootsSpec.post enc Tryz.prog Tryz.f3 false true false false) := by
  refine returnsInHanded_of_change_and (C := Tryz.checked) (X := fun w _ => laidMetH Tryz.prog Rows.roundRootsRow.laid w) (fun _ _ _ hh h => h.of_heap hh) own started (by kernel_rfl) Tryz.func3
    (ChangeSpec.witness_shaped (enc := enc) (C := Tryz.checked) (os := os) (X := fun w _ => laidMetH Tryz.prog Rows.roundRootsRow.laid w) false (World.doorLaid Tryz.prog 400 os) #[.agg #[.bool false, .slice none 0 0, .int .i64 0], .int .i64 0] 8 rfl (World.shaped_of_RefB (by kernel_rfl) (by kernel_rfl)) (by kernel_rfl) (by kernel_rfl) (by kernel_rfl) (door_met os _)) ?_
  intro W base args ds gs before hval0 hW _ _ hL _
  have hval : ∀ (j : Nat) t v, Tryz.f3.params[j]? = some t → args[j]? = some v → Value.okWide Tryz.prog W .any base t v := hval0
  have hW' := hW
  obtain ⟨p, q, hA0, hV, rfl, hfz, hnd⟩ := hW
  have hA : DataW.TrodAll enc Tryz.prog W 0 (fun _ => true) true Tryz.f3.params.toList args.toList ds p := hA0
  rw [Tryz.params3] at hA hval
  obtain ⟨v0, vs0, d0, ds0, p0, q0, hargs, rfl, rfl, h0, r0⟩ := trodAll_cons hA
  obtain ⟨v1, vs1, d1, ds1, p1, q1, rfl, rfl, rfl, h1, r1⟩ := trodAll_cons r0
  obtain ⟨rfl, rfl, rfl⟩ := trodAll_nil r1
  obtain rfl : args = #[v0, v1] := by cases args; simp_all
  obtain ⟨rfl, rfl⟩ := trodVars_none hV
  have k0 := h0
  have lt0 : ∀ x ∈ p0, x.block < W.heap.size := by obtain ⟨m, hm⟩ := k0; exact DataW.trod_lt m _ _ _ hm
  obtain ⟨x0, rfl, w0, g0⟩ := num_of (hval 0 24 v0 rfl rfl) h0
  obtain ⟨a1, rfl, rfl, rfl, w1⟩ := open_int Tryz.underlying3 (hval 1 3 v1 rfl rfl) h1
  clear hA0 hval0
  refine (walk x0 a1 W w0 g0 (rng_of w1) (hold4_of hL)).mono fun e W' ⟨he, bel⟩ => ?_
  subst he
  exact ⟨_, rfl, _, _, _, [], _, [], hW', trodAll_mk1 (shut_bool Tryz.underlying4 _), (trodAll_cons_mk (Below.trod laidOut (by kernel_rfl) (of_decide_eq_true (by kernel_rfl)) k0 bel lt0) (trodAll_cons_mk (shut_int Tryz.underlying3 w1) trodAll_mk0)), rfl, bel.frame _, fun h => by cases h⟩
theorem said : Rows.RoundRootsSaid :=
  OpenClaim.holds_of_wide 3 Tryz.f3 rfl rfl rfl rfl rfl rfl rfl ⟨rfl, rfl, rfl, rfl, rfl⟩ rfl rfl rfl rfl rfl (by kernel_rfl) Tryz.func3 (by kernel_rfl)
    (of_decide_eq_true (by kernel_rfl)) (by unfold Func.isWrapper; first | (rw [if_pos (by decide +kernel)]; kernel_rfl) | (rw [if_neg (by decide +kernel)]; exact ⟨rfl, rfl⟩))
    (fun os started H enc _ => lifted os started H enc)
theorem plain (f : FuncId) (fn : Func) (hf : Tryz.pinned.checked.prog.funcNamed Tryz.f3.name = some f) (hfn : Tryz.pinned.checked.prog.funcs[f]? = some fn) :
    true = Tryz.pinned.checked.prog.looks [] ∧ ∀ (j : Nat) t, fn.params[j]? = some t → Tryz.pinned.checked.prog.wantsStandIn t = false := by
  obtain rfl : f = 3 := Option.some.inj ((show Tryz.prog.funcNamed Tryz.f3.name = some 3 by kernel_rfl).symm.trans hf) |>.symm
  obtain rfl : fn = Tryz.f3 := (Option.some.inj (Tryz.func3.symm.trans hfn)).symm
  refine ⟨by kernel_rfl, fun j t ht => ?_⟩
  rw [Tryz.params3] at ht
  have ht2 : t = 24 ∨ t = 3 := by simpa using Array.mem_of_getElem? ht
  rcases ht2 with rfl | rfl
  · exact (show Tryz.prog.wantsStandIn 24 = false by kernel_rfl)
  · exact (show Tryz.prog.wantsStandIn 3 = false by kernel_rfl)
/-- THE CARD. -/
theorem card : Rows.RoundRootsCardSaid :=
  Claim7.holds_tied_plain_at .later [] _ _ _ _ said (fun _ h => by cases h) (by kernel_rfl) (fun _ h => by cases h) roundRoots_row_tie rfl ⟨rfl, rfl⟩ (by kernel_rfl) rfl plain (by kernel_rfl)
end Go.Proofs.YtcmcaladmodahaaGreatDoor.roundRoots
namespace Go.Proofs.YtcmcaladmodahaaGreatDoor
/-- RoundRoots: the statement as it is given. -/
theorem roundRoots_holds : Rows.RoundRootsCardSaid := roundRoots.card
end Go.Proofs.YtcmcaladmodahaaGreatDoor
