/-
  RoundQuots: for any two numbers the law returns true: a quotient rounded down times the divisor is not greater than the dividend, that of the next float is. As a card: the library's tables and the layouts start as the program's text lays them.
-/
import Derived.Test.YtgplnodgndbdeaaDoorPart15
import Derived.Test.YtgplnodgndbdeaaDoorCards
import Derived.Test.YtgplnodgndbdeaaDoorTie
namespace Go.Proofs.YtgplnodgndbdeaaDoor.roundQuots
open Go Go.ChangeShapes Go.WideShapes Go.ChangeAt Go.RowKit Go.Proofs.YtgplnodgndbdeaaDoor Go.Proofs.YtgplnodgndbdeaaDoor.M
set_option linter.unusedSimpArgs false
set_option linter.unusedVariables false

set_option maxRecDepth 100000 in
set_option maxHeartbeats 8000000 in
theorem walk (l m : NumR) (w : World) (hl : Row w l.ao l.n l.cap l.d) (el : rng l.e) (hm : Row w m.ao m.n m.cap m.d) (em : rng m.e) (H : Hold4 w) :
    Calls Tryd.prog 6 #[l.v, m.v] w fun e w' => e = .returned (.bool true) ∧ Below w.heap.size w w' := by
  have l_N := fun W hb => num4_B l W (hl.keeps hb) el
  have m_N := fun W hb => num4_B m W (hm.keeps hb) em
  unfold NumR.v at *
  obtain ⟨l_g, l_o, l_n, l_c, l_d, l_e⟩ := l
  obtain ⟨m_g, m_o, m_n, m_c, m_d, m_e⟩ := m
  simp only at *
  clear hl el hm em
  go_enter Tryd.func6, Tryd.ntmps6
  have l_k : ((w.alloc (.cells #[.bool l_g, .slice l_o l_n l_c, .int .i64 l_e] 24)).alloc (.cells #[.bool m_g, .slice m_o m_n m_c, .int .i64 m_e] 24)).heap[w.heap.size]? = some (.cells #[.bool l_g, .slice l_o l_n l_c, .int .i64 l_e] 24 (0, 0)) := heap_a2 _ _ _
  have m_k : ((w.alloc (.cells #[.bool l_g, .slice l_o l_n l_c, .int .i64 l_e] 24)).alloc (.cells #[.bool m_g, .slice m_o m_n m_c, .int .i64 m_e] 24)).heap[w.heap.size + 1]? = some (.cells #[.bool m_g, .slice m_o m_n m_c, .int .i64 m_e] 24 (0, 0)) := heap_b2 _ _ _
  have hb0 : Below w.heap.size w ((w.alloc (.cells #[.bool l_g, .slice l_o l_n l_c, .int .i64 l_e] 24)).alloc (.cells #[.bool m_g, .slice m_o m_n m_c, .int .i64 m_e] 24)) := bel_alloc2 _ _ _
  go_wp2_with fail
  generalize ((w.alloc (.cells #[.bool l_g, .slice l_o l_n l_c, .int .i64 l_e] 24)).alloc (.cells #[.bool m_g, .slice m_o m_n m_c, .int .i64 m_e] 24)) = x0 at l_k m_k hb0 ⊢
  have H := H.keeps hb0
  refine (l_N _ hb0 H.tab).mono ?_
  rintro _ y1 ⟨v, a_V, rfl, h1 , a_B⟩
  obtain ⟨a_g, a_o, a_n, a_c, a_e, rfl⟩ := dans_shape h1
  have hw1 := h1.below
  have a_D := h1.num
  have H := H.keeps hw1
  have l_k := (hw1.block _ (Array.getElem?_eq_some_iff.1 l_k).1).trans l_k
  have m_k := (hw1.block _ (Array.getElem?_eq_some_iff.1 m_k).1).trans m_k
  have hb1 := bel_trans hb0 hw1
  have l_k := heap_past (.cells #[.bool a_g, .slice a_o a_n a_c, .int .i64 a_e] 24) l_k
  have m_k := heap_past (.cells #[.bool a_g, .slice a_o a_n a_c, .int .i64 a_e] 24) m_k
  have a_k := heap_a1 y1 (.cells #[.bool a_g, .slice a_o a_n a_c, .int .i64 a_e] 24)
  have a_D := a_D.keeps (bel_alloc y1 (.cells #[.bool a_g, .slice a_o a_n a_c, .int .i64 a_e] 24))
  have H := H.keeps (bel_alloc y1 (.cells #[.bool a_g, .slice a_o a_n a_c, .int .i64 a_e] 24))
  have hb2' := bel_trans hb1 (bel_alloc y1 (.cells #[.bool a_g, .slice a_o a_n a_c, .int .i64 a_e] 24))
  have f_m0 := blkC m_k 0 rfl
  have f_m1 := blkC m_k 1 rfl
  have f_m2 := blkC m_k 2 rfl
  go_wp2_with fail
  clear f_m0 f_m1 f_m2
  generalize y1.alloc (.cells #[.bool a_g, .slice a_o a_n a_c, .int .i64 a_e] 24) = x2 at l_k m_k a_k a_D H hb2' ⊢
  refine (m_N _ hb2' H.tab).mono ?_
  rintro _ y2 ⟨v, b_V, rfl, h2 , b_B⟩
  obtain ⟨b_g, b_o, b_n, b_c, b_e, rfl⟩ := dans_shape h2
  have hw2 := h2.below
  have b_D := h2.num
  have H := H.keeps hw2
  have l_k := (hw2.block _ (Array.getElem?_eq_some_iff.1 l_k).1).trans l_k
  have m_k := (hw2.block _ (Array.getElem?_eq_some_iff.1 m_k).1).trans m_k
  have a_k := (hw2.block _ (Array.getElem?_eq_some_iff.1 a_k).1).trans a_k
  have a_D := a_D.keeps hw2
  have hb2 := bel_trans hb2' hw2
  clear l_N m_N
  obtain ⟨b_D', Q0, Q1⟩ := quo_D a_D b_D (a_B.ok (by omega)) (b_B.ok (by omega)) H
  have b_B := b_B.sg b_g
  clear b_D
  have b_D := b_D'
  clear b_D'
  generalize M.sg b_g b_V = b_W at *
  have p_k := heap_a1 y2 (.cells #[.bool b_g, .slice b_o b_n b_c, .int .i64 b_e] 24)
  have p0 := blkC p_k 0 rfl
  have pF := blkF p_k 0
  have hbl := bel_alloc y2 (.cells #[.bool false, .slice b_o b_n b_c, .int .i64 b_e] 24)
  have l_k := heap_past (.cells #[.bool false, .slice b_o b_n b_c, .int .i64 b_e] 24) l_k
  have m_k := heap_past (.cells #[.bool false, .slice b_o b_n b_c, .int .i64 b_e] 24) m_k
  have a_k := heap_past (.cells #[.bool false, .slice b_o b_n b_c, .int .i64 b_e] 24) a_k
  have b_k := heap_a1 y2 (.cells #[.bool false, .slice b_o b_n b_c, .int .i64 b_e] 24)
  have a_D := a_D.keeps hbl
  have b_D := b_D.keeps hbl
  have H := H.keeps hbl
  have hb3' := bel_trans hb2 hbl
  have f_a0 := blkC a_k 0 rfl
  have f_a1 := blkC a_k 1 rfl
  have f_a2 := blkC a_k 2 rfl
  have f_b0 := blkC b_k 0 rfl
  have f_b1 := blkC b_k 1 rfl
  have f_b2 := blkC b_k 2 rfl
  by_cases hb0 : b_n = 0
  · have Q := fun W hb => Q0 hb0 W (bel_trans hbl hb)
    clear Q0 Q1
    subst hb0
    go_wp2_with fail
    clear f_a0 f_a1 f_a2 f_b0 f_b1 f_b2 p_k p0 pF hbl
    generalize y2.alloc (.cells #[.bool false, .slice b_o 0 b_c, .int .i64 b_e] 24) = x3 at Q l_k m_k a_k b_k a_D b_D H hb3' ⊢
    go_wp2_with fail
    refine (Q _ (bel_refl _)).mono ?_
    rintro _ y4 ⟨rfl, hw4⟩
    have H := H.keeps hw4
    have l_k := (hw4.block _ (Array.getElem?_eq_some_iff.1 l_k).1).trans l_k
    have m_k := (hw4.block _ (Array.getElem?_eq_some_iff.1 m_k).1).trans m_k
    have a_k := (hw4.block _ (Array.getElem?_eq_some_iff.1 a_k).1).trans a_k
    have a_D := a_D.keeps hw4
    have b_k := (hw4.block _ (Array.getElem?_eq_some_iff.1 b_k).1).trans b_k
    have b_D := b_D.keeps hw4
    have hb4 := bel_trans hb3' hw4
    go_wp2_with fail
    refine (alive4 _ H.env H.tab).mono ?_
    rintro _ y5 ⟨rfl, hw5⟩
    have H := H.keeps hw5
    have l_k := (hw5.block _ (Array.getElem?_eq_some_iff.1 l_k).1).trans l_k
    have m_k := (hw5.block _ (Array.getElem?_eq_some_iff.1 m_k).1).trans m_k
    have a_k := (hw5.block _ (Array.getElem?_eq_some_iff.1 a_k).1).trans a_k
    have a_D := a_D.keeps hw5
    have b_k := (hw5.block _ (Array.getElem?_eq_some_iff.1 b_k).1).trans b_k
    have b_D := b_D.keeps hw5
    have hb5 := bel_trans hb4 hw5
    go_wp2
    all_goals go_ret
    all_goals exact ⟨rfl, hb5⟩
  · obtain ⟨d, o, hQ, Q⟩ := Q1 (by omega)
    have Q := fun W hb => Q W (bel_trans hbl hb)
    clear Q0 Q1
    have hbn : ¬ (b_n : Int) = 0 := by omega
    go_wp2_with fail
    clear f_a0 f_a1 f_a2 f_b0 f_b1 f_b2 p_k p0 pF hbl hbn hb0
    generalize y2.alloc (.cells #[.bool false, .slice b_o b_n b_c, .int .i64 b_e] 24) = x3 at Q l_k m_k a_k b_k a_D b_D H hb3' ⊢
    go_wp2_with fail
    refine (Q _ (bel_refl _)).mono ?_
    rintro _ y4 ⟨rfl, hw4⟩
    have H := H.keeps hw4
    have l_k := (hw4.block _ (Array.getElem?_eq_some_iff.1 l_k).1).trans l_k
    have m_k := (hw4.block _ (Array.getElem?_eq_some_iff.1 m_k).1).trans m_k
    have a_k := (hw4.block _ (Array.getElem?_eq_some_iff.1 a_k).1).trans a_k
    have a_D := a_D.keeps hw4
    have b_k := (hw4.block _ (Array.getElem?_eq_some_iff.1 b_k).1).trans b_k
    have b_D := b_D.keeps hw4
    have hb4 := bel_trans hb3' hw4
    go_wp2_with fail
    refine (alive4 _ H.env H.tab).mono ?_
    rintro _ y5 ⟨rfl, hw5⟩
    have H := H.keeps hw5
    have l_k := (hw5.block _ (Array.getElem?_eq_some_iff.1 l_k).1).trans l_k
    have m_k := (hw5.block _ (Array.getElem?_eq_some_iff.1 m_k).1).trans m_k
    have a_k := (hw5.block _ (Array.getElem?_eq_some_iff.1 a_k).1).trans a_k
    have a_D := a_D.keeps hw5
    have b_k := (hw5.block _ (Array.getElem?_eq_some_iff.1 b_k).1).trans b_k
    have b_D := b_D.keeps hw5
    have hb5 := bel_trans hb4 hw5
    clear Q
    obtain ⟨rg, fin, nxt, neg⟩ := hQ
    have hU : Hid (a_V * 2 ^ 4194304 = a_V * 2 ^ 4194304) := rfl
    have F0 : Hid (∀ m_V, m_V * 2 ^ 4194304 = patV d * b_W → pok d = true → ord m_V a_V ≤ 0 ∧ (ord m_V a_V = 0 ↔ o = false)) := fun m_V e h => by
      obtain ⟨f1, f2⟩ := fin h
      rw [ord_up (two_pos 4194304) e rfl]
      exact ⟨ord_le0 f1, ord_zero_iff.trans f2⟩
    have F1 : Hid (∀ m_V, m_V * 2 ^ 4194304 = patV (next d) * b_W → pok (next d) = true → 0 < ord m_V a_V) := fun m_V e h => by
      rw [ord_up (two_pos 4194304) e rfl]
      exact ord_pos_iff.2 (nxt h)
    have F2 : Hid (pok d = false → d < 0) := neg
    clear fin nxt neg hU
    have CN := fun W (H : Hold4 W) => next_B rg H
    cases hpd : pok d
    · go_wp2_with fail
      refine (of_no hpd H).mono ?_
      rintro _ y6 ⟨rfl, hw6⟩
      have H := H.keeps hw6
      have l_k := (hw6.block _ (Array.getElem?_eq_some_iff.1 l_k).1).trans l_k
      have m_k := (hw6.block _ (Array.getElem?_eq_some_iff.1 m_k).1).trans m_k
      have a_k := (hw6.block _ (Array.getElem?_eq_some_iff.1 a_k).1).trans a_k
      have a_D := a_D.keeps hw6
      have b_k := (hw6.block _ (Array.getElem?_eq_some_iff.1 b_k).1).trans b_k
      have b_D := b_D.keeps hw6
      have hb6 := bel_trans hb5 hw6
      have l_k := heap_past (.cells #[.bool false, .slice none 0 0, .int .i64 0] 24) l_k
      have m_k := heap_past (.cells #[.bool false, .slice none 0 0, .int .i64 0] 24) m_k
      have a_k := heap_past (.cells #[.bool false, .slice none 0 0, .int .i64 0] 24) a_k
      have b_k := heap_past (.cells #[.bool false, .slice none 0 0, .int .i64 0] 24) b_k
      have p_k := heap_a1 y6 (.cells #[.bool false, .slice none 0 0, .int .i64 0] 24)
      have a_D := a_D.keeps (bel_alloc y6 (.cells #[.bool false, .slice none 0 0, .int .i64 0] 24))
      have b_D := b_D.keeps (bel_alloc y6 (.cells #[.bool false, .slice none 0 0, .int .i64 0] 24))
      have H := H.keeps (bel_alloc y6 (.cells #[.bool false, .slice none 0 0, .int .i64 0] 24))
      have hb7' := bel_trans hb6 (bel_alloc y6 (.cells #[.bool false, .slice none 0 0, .int .i64 0] 24))
      go_wp2_with fail
      generalize y6.alloc (.cells #[.bool false, .slice none 0 0, .int .i64 0] 24) = x7 at l_k m_k a_k b_k p_k a_D b_D H hb7' ⊢
      refine (CN _ H).mono ?_
      rintro _ y7 ⟨rfl, hw7⟩
      have H := H.keeps hw7
      have l_k := (hw7.block _ (Array.getElem?_eq_some_iff.1 l_k).1).trans l_k
      have m_k := (hw7.block _ (Array.getElem?_eq_some_iff.1 m_k).1).trans m_k
      have a_k := (hw7.block _ (Array.getElem?_eq_some_iff.1 a_k).1).trans a_k
      have a_D := a_D.keeps hw7
      have b_k := (hw7.block _ (Array.getElem?_eq_some_iff.1 b_k).1).trans b_k
      have b_D := b_D.keeps hw7
      have p_k := (hw7.block _ (Array.getElem?_eq_some_iff.1 p_k).1).trans p_k
      have hb7 := bel_trans hb7' hw7
      clear CN
      generalize next d = e at *
      cases hpe : pok e
      · go_wp2_with fail
        refine (of_no hpe H).mono ?_
        rintro _ y8 ⟨rfl, hw8⟩
        have H := H.keeps hw8
        have l_k := (hw8.block _ (Array.getElem?_eq_some_iff.1 l_k).1).trans l_k
        have m_k := (hw8.block _ (Array.getElem?_eq_some_iff.1 m_k).1).trans m_k
        have a_k := (hw8.block _ (Array.getElem?_eq_some_iff.1 a_k).1).trans a_k
        have a_D := a_D.keeps hw8
        have b_k := (hw8.block _ (Array.getElem?_eq_some_iff.1 b_k).1).trans b_k
        have b_D := b_D.keeps hw8
        have p_k := (hw8.block _ (Array.getElem?_eq_some_iff.1 p_k).1).trans p_k
        have hb8 := bel_trans hb7 hw8
        clear F0
        have hbE := bel_trans hb8 (bel_alloc y8 (.cells #[.bool false, .slice none 0 0, .int .i64 0] 24))
        have hneg := F2.out hpd
        clear F2
        go_wp2
        all_goals go_ret
        all_goals exact ⟨rfl, hbE⟩
      · go_wp2_with fail
        refine (of_ok hpe H).mono ?_
        rintro _ y8 ⟨v, rfl, h8⟩
        obtain ⟨q_g, q_o, q_n, q_c, q_e, rfl⟩ := dans_shape h8
        have hw8 := h8.below
        have q_D := h8.num
        have H := H.keeps hw8
        have l_k := (hw8.block _ (Array.getElem?_eq_some_iff.1 l_k).1).trans l_k
        have m_k := (hw8.block _ (Array.getElem?_eq_some_iff.1 m_k).1).trans m_k
        have a_k := (hw8.block _ (Array.getElem?_eq_some_iff.1 a_k).1).trans a_k
        have a_D := a_D.keeps hw8
        have b_k := (hw8.block _ (Array.getElem?_eq_some_iff.1 b_k).1).trans b_k
        have b_D := b_D.keeps hw8
        have p_k := (hw8.block _ (Array.getElem?_eq_some_iff.1 p_k).1).trans p_k
        have hb8 := bel_trans hb7 hw8
        clear F0
        have q_B := patV_bd hpe
        have l_k := heap_past (.cells #[.bool q_g, .slice q_o q_n q_c, .int .i64 q_e] 24) l_k
        have m_k := heap_past (.cells #[.bool q_g, .slice q_o q_n q_c, .int .i64 q_e] 24) m_k
        have a_k := heap_past (.cells #[.bool q_g, .slice q_o q_n q_c, .int .i64 q_e] 24) a_k
        have b_k := heap_past (.cells #[.bool q_g, .slice q_o q_n q_c, .int .i64 q_e] 24) b_k
        have p_k := heap_past (.cells #[.bool q_g, .slice q_o q_n q_c, .int .i64 q_e] 24) p_k
        have q_k := heap_a1 y8 (.cells #[.bool q_g, .slice q_o q_n q_c, .int .i64 q_e] 24)
        have a_D := a_D.keeps (bel_alloc y8 (.cells #[.bool q_g, .slice q_o q_n q_c, .int .i64 q_e] 24))
        have b_D := b_D.keeps (bel_alloc y8 (.cells #[.bool q_g, .slice q_o q_n q_c, .int .i64 q_e] 24))
        have q_D := q_D.keeps (bel_alloc y8 (.cells #[.bool q_g, .slice q_o q_n q_c, .int .i64 q_e] 24))
        have H := H.keeps (bel_alloc y8 (.cells #[.bool q_g, .slice q_o q_n q_c, .int .i64 q_e] 24))
        have hb9' := bel_trans hb8 (bel_alloc y8 (.cells #[.bool q_g, .slice q_o q_n q_c, .int .i64 q_e] 24))
        have f_b0 := blkC b_k 0 rfl
        have f_b1 := blkC b_k 1 rfl
        have f_b2 := blkC b_k 2 rfl
        go_wp2_with fail
        clear f_b0 f_b1 f_b2
        generalize y8.alloc (.cells #[.bool q_g, .slice q_o q_n q_c, .int .i64 q_e] 24) = x9 at l_k m_k a_k b_k p_k q_k a_D b_D q_D H hb9' ⊢
        refine (mul_B q_D b_D q_B b_B (by omega) H.tab).mono ?_
        rintro _ y9 ⟨v, t_V, rfl, h9, t_E, t_B⟩
        obtain ⟨t_g, t_o, t_n, t_c, t_e, rfl⟩ := dans_shape h9
        have hw9 := h9.below
        have t_D := h9.num
        have H := H.keeps hw9
        have l_k := (hw9.block _ (Array.getElem?_eq_some_iff.1 l_k).1).trans l_k
        have m_k := (hw9.block _ (Array.getElem?_eq_some_iff.1 m_k).1).trans m_k
        have a_k := (hw9.block _ (Array.getElem?_eq_some_iff.1 a_k).1).trans a_k
        have a_D := a_D.keeps hw9
        have b_k := (hw9.block _ (Array.getElem?_eq_some_iff.1 b_k).1).trans b_k
        have b_D := b_D.keeps hw9
        have p_k := (hw9.block _ (Array.getElem?_eq_some_iff.1 p_k).1).trans p_k
        have q_k := (hw9.block _ (Array.getElem?_eq_some_iff.1 q_k).1).trans q_k
        have q_D := q_D.keeps hw9
        have hb9 := bel_trans hb9' hw9
        have g3 := F1.out t_V t_E hpe
        clear t_E F1
        have l_k := heap_past (.cells #[.bool t_g, .slice t_o t_n t_c, .int .i64 t_e] 24) l_k
        have m_k := heap_past (.cells #[.bool t_g, .slice t_o t_n t_c, .int .i64 t_e] 24) m_k
        have a_k := heap_past (.cells #[.bool t_g, .slice t_o t_n t_c, .int .i64 t_e] 24) a_k
        have b_k := heap_past (.cells #[.bool t_g, .slice t_o t_n t_c, .int .i64 t_e] 24) b_k
        have p_k := heap_past (.cells #[.bool t_g, .slice t_o t_n t_c, .int .i64 t_e] 24) p_k
        have q_k := heap_past (.cells #[.bool t_g, .slice t_o t_n t_c, .int .i64 t_e] 24) q_k
        have t_k := heap_a1 y9 (.cells #[.bool t_g, .slice t_o t_n t_c, .int .i64 t_e] 24)
        have a_D := a_D.keeps (bel_alloc y9 (.cells #[.bool t_g, .slice t_o t_n t_c, .int .i64 t_e] 24))
        have b_D := b_D.keeps (bel_alloc y9 (.cells #[.bool t_g, .slice t_o t_n t_c, .int .i64 t_e] 24))
        have q_D := q_D.keeps (bel_alloc y9 (.cells #[.bool t_g, .slice t_o t_n t_c, .int .i64 t_e] 24))
        have t_D := t_D.keeps (bel_alloc y9 (.cells #[.bool t_g, .slice t_o t_n t_c, .int .i64 t_e] 24))
        have H := H.keeps (bel_alloc y9 (.cells #[.bool t_g, .slice t_o t_n t_c, .int .i64 t_e] 24))
        have hb10' := bel_trans hb9 (bel_alloc y9 (.cells #[.bool t_g, .slice t_o t_n t_c, .int .i64 t_e] 24))
        have f_a0 := blkC a_k 0 rfl
        have f_a1 := blkC a_k 1 rfl
        have f_a2 := blkC a_k 2 rfl
        go_wp2_with fail
        clear f_a0 f_a1 f_a2
        generalize y9.alloc (.cells #[.bool t_g, .slice t_o t_n t_c, .int .i64 t_e] 24) = x10 at l_k m_k a_k b_k p_k q_k t_k a_D b_D q_D t_D H hb10' ⊢
        refine (cmp_D t_D a_D (t_B.ok (by omega)) (a_B.ok (by omega))).mono ?_
        rintro _ y10 ⟨rfl, hw10⟩
        have H := H.keeps hw10
        have l_k := (hw10.block _ (Array.getElem?_eq_some_iff.1 l_k).1).trans l_k
        have m_k := (hw10.block _ (Array.getElem?_eq_some_iff.1 m_k).1).trans m_k
        have a_k := (hw10.block _ (Array.getElem?_eq_some_iff.1 a_k).1).trans a_k
        have a_D := a_D.keeps hw10
        have b_k := (hw10.block _ (Array.getElem?_eq_some_iff.1 b_k).1).trans b_k
        have b_D := b_D.keeps hw10
        have p_k := (hw10.block _ (Array.getElem?_eq_some_iff.1 p_k).1).trans p_k
        have q_k := (hw10.block _ (Array.getElem?_eq_some_iff.1 q_k).1).trans q_k
        have q_D := q_D.keeps hw10
        have t_k := (hw10.block _ (Array.getElem?_eq_some_iff.1 t_k).1).trans t_k
        have t_D := t_D.keeps hw10
        have hb10 := bel_trans hb10' hw10
        generalize ord t_V a_V = c' at *
        have g3' : ¬ c' ≤ 0 := by omega
        have hneg := F2.out hpd
        clear F2
        go_wp2
        all_goals go_ret
        all_goals exact ⟨rfl, hb10⟩
    · go_wp2_with fail
      refine (of_ok hpd H).mono ?_
      rintro _ y6 ⟨v, rfl, h6⟩
      obtain ⟨p_g, p_o, p_n, p_c, p_e, rfl⟩ := dans_shape h6
      have hw6 := h6.below
      have p_D := h6.num
      have H := H.keeps hw6
      have l_k := (hw6.block _ (Array.getElem?_eq_some_iff.1 l_k).1).trans l_k
      have m_k := (hw6.block _ (Array.getElem?_eq_some_iff.1 m_k).1).trans m_k
      have a_k := (hw6.block _ (Array.getElem?_eq_some_iff.1 a_k).1).trans a_k
      have a_D := a_D.keeps hw6
      have b_k := (hw6.block _ (Array.getElem?_eq_some_iff.1 b_k).1).trans b_k
      have b_D := b_D.keeps hw6
      have hb6 := bel_trans hb5 hw6
      have l_k := heap_past (.cells #[.bool p_g, .slice p_o p_n p_c, .int .i64 p_e] 24) l_k
      have m_k := heap_past (.cells #[.bool p_g, .slice p_o p_n p_c, .int .i64 p_e] 24) m_k
      have a_k := heap_past (.cells #[.bool p_g, .slice p_o p_n p_c, .int .i64 p_e] 24) a_k
      have b_k := heap_past (.cells #[.bool p_g, .slice p_o p_n p_c, .int .i64 p_e] 24) b_k
      have p_k := heap_a1 y6 (.cells #[.bool p_g, .slice p_o p_n p_c, .int .i64 p_e] 24)
      have a_D := a_D.keeps (bel_alloc y6 (.cells #[.bool p_g, .slice p_o p_n p_c, .int .i64 p_e] 24))
      have b_D := b_D.keeps (bel_alloc y6 (.cells #[.bool p_g, .slice p_o p_n p_c, .int .i64 p_e] 24))
      have p_D := p_D.keeps (bel_alloc y6 (.cells #[.bool p_g, .slice p_o p_n p_c, .int .i64 p_e] 24))
      have H := H.keeps (bel_alloc y6 (.cells #[.bool p_g, .slice p_o p_n p_c, .int .i64 p_e] 24))
      have hb7' := bel_trans hb6 (bel_alloc y6 (.cells #[.bool p_g, .slice p_o p_n p_c, .int .i64 p_e] 24))
      go_wp2_with fail
      generalize y6.alloc (.cells #[.bool p_g, .slice p_o p_n p_c, .int .i64 p_e] 24) = x7 at l_k m_k a_k b_k p_k a_D b_D p_D H hb7' ⊢
      refine (CN _ H).mono ?_
      rintro _ y7 ⟨rfl, hw7⟩
      have H := H.keeps hw7
      have l_k := (hw7.block _ (Array.getElem?_eq_some_iff.1 l_k).1).trans l_k
      have m_k := (hw7.block _ (Array.getElem?_eq_some_iff.1 m_k).1).trans m_k
      have a_k := (hw7.block _ (Array.getElem?_eq_some_iff.1 a_k).1).trans a_k
      have a_D := a_D.keeps hw7
      have b_k := (hw7.block _ (Array.getElem?_eq_some_iff.1 b_k).1).trans b_k
      have b_D := b_D.keeps hw7
      have p_k := (hw7.block _ (Array.getElem?_eq_some_iff.1 p_k).1).trans p_k
      have p_D := p_D.keeps hw7
      have hb7 := bel_trans hb7' hw7
      clear CN
      generalize next d = e at *
      cases hpe : pok e
      · go_wp2_with fail
        refine (of_no hpe H).mono ?_
        rintro _ y8 ⟨rfl, hw8⟩
        have H := H.keeps hw8
        have l_k := (hw8.block _ (Array.getElem?_eq_some_iff.1 l_k).1).trans l_k
        have m_k := (hw8.block _ (Array.getElem?_eq_some_iff.1 m_k).1).trans m_k
        have a_k := (hw8.block _ (Array.getElem?_eq_some_iff.1 a_k).1).trans a_k
        have a_D := a_D.keeps hw8
        have b_k := (hw8.block _ (Array.getElem?_eq_some_iff.1 b_k).1).trans b_k
        have b_D := b_D.keeps hw8
        have p_k := (hw8.block _ (Array.getElem?_eq_some_iff.1 p_k).1).trans p_k
        have p_D := p_D.keeps hw8
        have hb8 := bel_trans hb7 hw8
        have p_B := patV_bd hpd
        have l_k := heap_past (.cells #[.bool false, .slice none 0 0, .int .i64 0] 24) l_k
        have m_k := heap_past (.cells #[.bool false, .slice none 0 0, .int .i64 0] 24) m_k
        have a_k := heap_past (.cells #[.bool false, .slice none 0 0, .int .i64 0] 24) a_k
        have b_k := heap_past (.cells #[.bool false, .slice none 0 0, .int .i64 0] 24) b_k
        have p_k := heap_past (.cells #[.bool false, .slice none 0 0, .int .i64 0] 24) p_k
        have q_k := heap_a1 y8 (.cells #[.bool false, .slice none 0 0, .int .i64 0] 24)
        have a_D := a_D.keeps (bel_alloc y8 (.cells #[.bool false, .slice none 0 0, .int .i64 0] 24))
        have b_D := b_D.keeps (bel_alloc y8 (.cells #[.bool false, .slice none 0 0, .int .i64 0] 24))
        have p_D := p_D.keeps (bel_alloc y8 (.cells #[.bool false, .slice none 0 0, .int .i64 0] 24))
        have H := H.keeps (bel_alloc y8 (.cells #[.bool false, .slice none 0 0, .int .i64 0] 24))
        have hb9' := bel_trans hb8 (bel_alloc y8 (.cells #[.bool false, .slice none 0 0, .int .i64 0] 24))
        have f_p0 := blkC p_k 0 rfl
        have f_p1 := blkC p_k 1 rfl
        have f_p2 := blkC p_k 2 rfl
        have f_b0 := blkC b_k 0 rfl
        have f_b1 := blkC b_k 1 rfl
        have f_b2 := blkC b_k 2 rfl
        go_wp2_with fail
        clear f_p0 f_p1 f_p2 f_b0 f_b1 f_b2
        generalize y8.alloc (.cells #[.bool false, .slice none 0 0, .int .i64 0] 24) = x9 at l_k m_k a_k b_k p_k q_k a_D b_D p_D H hb9' ⊢
        refine (mul_B p_D b_D p_B b_B (by omega) H.tab).mono ?_
        rintro _ y9 ⟨v, s_V, rfl, h9, s_E, s_B⟩
        obtain ⟨s_g, s_o, s_n, s_c, s_e, rfl⟩ := dans_shape h9
        have hw9 := h9.below
        have s_D := h9.num
        have H := H.keeps hw9
        have l_k := (hw9.block _ (Array.getElem?_eq_some_iff.1 l_k).1).trans l_k
        have m_k := (hw9.block _ (Array.getElem?_eq_some_iff.1 m_k).1).trans m_k
        have a_k := (hw9.block _ (Array.getElem?_eq_some_iff.1 a_k).1).trans a_k
        have a_D := a_D.keeps hw9
        have b_k := (hw9.block _ (Array.getElem?_eq_some_iff.1 b_k).1).trans b_k
        have b_D := b_D.keeps hw9
        have p_k := (hw9.block _ (Array.getElem?_eq_some_iff.1 p_k).1).trans p_k
        have p_D := p_D.keeps hw9
        have q_k := (hw9.block _ (Array.getElem?_eq_some_iff.1 q_k).1).trans q_k
        have hb9 := bel_trans hb9' hw9
        obtain ⟨g1, g2⟩ := F0.out s_V s_E hpd
        clear s_E
        have l_k := heap_past (.cells #[.bool s_g, .slice s_o s_n s_c, .int .i64 s_e] 24) l_k
        have m_k := heap_past (.cells #[.bool s_g, .slice s_o s_n s_c, .int .i64 s_e] 24) m_k
        have a_k := heap_past (.cells #[.bool s_g, .slice s_o s_n s_c, .int .i64 s_e] 24) a_k
        have b_k := heap_past (.cells #[.bool s_g, .slice s_o s_n s_c, .int .i64 s_e] 24) b_k
        have p_k := heap_past (.cells #[.bool s_g, .slice s_o s_n s_c, .int .i64 s_e] 24) p_k
        have q_k := heap_past (.cells #[.bool s_g, .slice s_o s_n s_c, .int .i64 s_e] 24) q_k
        have s_k := heap_a1 y9 (.cells #[.bool s_g, .slice s_o s_n s_c, .int .i64 s_e] 24)
        have a_D := a_D.keeps (bel_alloc y9 (.cells #[.bool s_g, .slice s_o s_n s_c, .int .i64 s_e] 24))
        have b_D := b_D.keeps (bel_alloc y9 (.cells #[.bool s_g, .slice s_o s_n s_c, .int .i64 s_e] 24))
        have p_D := p_D.keeps (bel_alloc y9 (.cells #[.bool s_g, .slice s_o s_n s_c, .int .i64 s_e] 24))
        have s_D := s_D.keeps (bel_alloc y9 (.cells #[.bool s_g, .slice s_o s_n s_c, .int .i64 s_e] 24))
        have H := H.keeps (bel_alloc y9 (.cells #[.bool s_g, .slice s_o s_n s_c, .int .i64 s_e] 24))
        have hb10' := bel_trans hb9 (bel_alloc y9 (.cells #[.bool s_g, .slice s_o s_n s_c, .int .i64 s_e] 24))
        have f_a0 := blkC a_k 0 rfl
        have f_a1 := blkC a_k 1 rfl
        have f_a2 := blkC a_k 2 rfl
        go_wp2_with fail
        clear f_a0 f_a1 f_a2
        generalize y9.alloc (.cells #[.bool s_g, .slice s_o s_n s_c, .int .i64 s_e] 24) = x10 at l_k m_k a_k b_k p_k q_k s_k a_D b_D p_D s_D H hb10' ⊢
        refine (cmp_D s_D a_D (s_B.ok (by omega)) (a_B.ok (by omega))).mono ?_
        rintro _ y10 ⟨rfl, hw10⟩
        have H := H.keeps hw10
        have l_k := (hw10.block _ (Array.getElem?_eq_some_iff.1 l_k).1).trans l_k
        have m_k := (hw10.block _ (Array.getElem?_eq_some_iff.1 m_k).1).trans m_k
        have a_k := (hw10.block _ (Array.getElem?_eq_some_iff.1 a_k).1).trans a_k
        have a_D := a_D.keeps hw10
        have b_k := (hw10.block _ (Array.getElem?_eq_some_iff.1 b_k).1).trans b_k
        have b_D := b_D.keeps hw10
        have p_k := (hw10.block _ (Array.getElem?_eq_some_iff.1 p_k).1).trans p_k
        have p_D := p_D.keeps hw10
        have q_k := (hw10.block _ (Array.getElem?_eq_some_iff.1 q_k).1).trans q_k
        have s_k := (hw10.block _ (Array.getElem?_eq_some_iff.1 s_k).1).trans s_k
        have s_D := s_D.keeps hw10
        have hb10 := bel_trans hb10' hw10
        have h3 := ord_three s_V a_V
        generalize ord s_V a_V = c at *
        have h3 : Hid (c = 1 ∨ c = 0 ∨ c = -1) := h3
        have g2 : Hid (c = 0 ↔ o = false) := g2
        clear F0
        by_cases hc : c = 0
        · have ho := g2.out.1 hc
          clear h3
          subst hc ho
          clear g2
          clear F2
          go_wp2
          all_goals go_ret
          all_goals exact ⟨rfl, hb10⟩
        · have ho : o = true := by
            cases o
            · exact absurd (g2.out.2 rfl) hc
            · rfl
          subst ho
          clear g2
          obtain rfl : c = -1 := by have := h3.out; omega
          clear h3 hc g1
          clear F2
          go_wp2
          all_goals go_ret
          all_goals exact ⟨rfl, hb10⟩
      · go_wp2_with fail
        refine (of_ok hpe H).mono ?_
        rintro _ y8 ⟨v, rfl, h8⟩
        obtain ⟨q_g, q_o, q_n, q_c, q_e, rfl⟩ := dans_shape h8
        have hw8 := h8.below
        have q_D := h8.num
        have H := H.keeps hw8
        have l_k := (hw8.block _ (Array.getElem?_eq_some_iff.1 l_k).1).trans l_k
        have m_k := (hw8.block _ (Array.getElem?_eq_some_iff.1 m_k).1).trans m_k
        have a_k := (hw8.block _ (Array.getElem?_eq_some_iff.1 a_k).1).trans a_k
        have a_D := a_D.keeps hw8
        have b_k := (hw8.block _ (Array.getElem?_eq_some_iff.1 b_k).1).trans b_k
        have b_D := b_D.keeps hw8
        have p_k := (hw8.block _ (Array.getElem?_eq_some_iff.1 p_k).1).trans p_k
        have p_D := p_D.keeps hw8
        have hb8 := bel_trans hb7 hw8
        have p_B := patV_bd hpd
        have l_k := heap_past (.cells #[.bool q_g, .slice q_o q_n q_c, .int .i64 q_e] 24) l_k
        have m_k := heap_past (.cells #[.bool q_g, .slice q_o q_n q_c, .int .i64 q_e] 24) m_k
        have a_k := heap_past (.cells #[.bool q_g, .slice q_o q_n q_c, .int .i64 q_e] 24) a_k
        have b_k := heap_past (.cells #[.bool q_g, .slice q_o q_n q_c, .int .i64 q_e] 24) b_k
        have p_k := heap_past (.cells #[.bool q_g, .slice q_o q_n q_c, .int .i64 q_e] 24) p_k
        have q_k := heap_a1 y8 (.cells #[.bool q_g, .slice q_o q_n q_c, .int .i64 q_e] 24)
        have a_D := a_D.keeps (bel_alloc y8 (.cells #[.bool q_g, .slice q_o q_n q_c, .int .i64 q_e] 24))
        have b_D := b_D.keeps (bel_alloc y8 (.cells #[.bool q_g, .slice q_o q_n q_c, .int .i64 q_e] 24))
        have p_D := p_D.keeps (bel_alloc y8 (.cells #[.bool q_g, .slice q_o q_n q_c, .int .i64 q_e] 24))
        have q_D := q_D.keeps (bel_alloc y8 (.cells #[.bool q_g, .slice q_o q_n q_c, .int .i64 q_e] 24))
        have H := H.keeps (bel_alloc y8 (.cells #[.bool q_g, .slice q_o q_n q_c, .int .i64 q_e] 24))
        have hb9' := bel_trans hb8 (bel_alloc y8 (.cells #[.bool q_g, .slice q_o q_n q_c, .int .i64 q_e] 24))
        have f_p0 := blkC p_k 0 rfl
        have f_p1 := blkC p_k 1 rfl
        have f_p2 := blkC p_k 2 rfl
        have f_b0 := blkC b_k 0 rfl
        have f_b1 := blkC b_k 1 rfl
        have f_b2 := blkC b_k 2 rfl
        go_wp2_with fail
        clear f_p0 f_p1 f_p2 f_b0 f_b1 f_b2
        generalize y8.alloc (.cells #[.bool q_g, .slice q_o q_n q_c, .int .i64 q_e] 24) = x9 at l_k m_k a_k b_k p_k q_k a_D b_D p_D q_D H hb9' ⊢
        refine (mul_B p_D b_D p_B b_B (by omega) H.tab).mono ?_
        rintro _ y9 ⟨v, s_V, rfl, h9, s_E, s_B⟩
        obtain ⟨s_g, s_o, s_n, s_c, s_e, rfl⟩ := dans_shape h9
        have hw9 := h9.below
        have s_D := h9.num
        have H := H.keeps hw9
        have l_k := (hw9.block _ (Array.getElem?_eq_some_iff.1 l_k).1).trans l_k
        have m_k := (hw9.block _ (Array.getElem?_eq_some_iff.1 m_k).1).trans m_k
        have a_k := (hw9.block _ (Array.getElem?_eq_some_iff.1 a_k).1).trans a_k
        have a_D := a_D.keeps hw9
        have b_k := (hw9.block _ (Array.getElem?_eq_some_iff.1 b_k).1).trans b_k
        have b_D := b_D.keeps hw9
        have p_k := (hw9.block _ (Array.getElem?_eq_some_iff.1 p_k).1).trans p_k
        have p_D := p_D.keeps hw9
        have q_k := (hw9.block _ (Array.getElem?_eq_some_iff.1 q_k).1).trans q_k
        have q_D := q_D.keeps hw9
        have hb9 := bel_trans hb9' hw9
        obtain ⟨g1, g2⟩ := F0.out s_V s_E hpd
        clear s_E
        have l_k := heap_past (.cells #[.bool s_g, .slice s_o s_n s_c, .int .i64 s_e] 24) l_k
        have m_k := heap_past (.cells #[.bool s_g, .slice s_o s_n s_c, .int .i64 s_e] 24) m_k
        have a_k := heap_past (.cells #[.bool s_g, .slice s_o s_n s_c, .int .i64 s_e] 24) a_k
        have b_k := heap_past (.cells #[.bool s_g, .slice s_o s_n s_c, .int .i64 s_e] 24) b_k
        have p_k := heap_past (.cells #[.bool s_g, .slice s_o s_n s_c, .int .i64 s_e] 24) p_k
        have q_k := heap_past (.cells #[.bool s_g, .slice s_o s_n s_c, .int .i64 s_e] 24) q_k
        have s_k := heap_a1 y9 (.cells #[.bool s_g, .slice s_o s_n s_c, .int .i64 s_e] 24)
        have a_D := a_D.keeps (bel_alloc y9 (.cells #[.bool s_g, .slice s_o s_n s_c, .int .i64 s_e] 24))
        have b_D := b_D.keeps (bel_alloc y9 (.cells #[.bool s_g, .slice s_o s_n s_c, .int .i64 s_e] 24))
        have p_D := p_D.keeps (bel_alloc y9 (.cells #[.bool s_g, .slice s_o s_n s_c, .int .i64 s_e] 24))
        have q_D := q_D.keeps (bel_alloc y9 (.cells #[.bool s_g, .slice s_o s_n s_c, .int .i64 s_e] 24))
        have s_D := s_D.keeps (bel_alloc y9 (.cells #[.bool s_g, .slice s_o s_n s_c, .int .i64 s_e] 24))
        have H := H.keeps (bel_alloc y9 (.cells #[.bool s_g, .slice s_o s_n s_c, .int .i64 s_e] 24))
        have hb10' := bel_trans hb9 (bel_alloc y9 (.cells #[.bool s_g, .slice s_o s_n s_c, .int .i64 s_e] 24))
        have f_a0 := blkC a_k 0 rfl
        have f_a1 := blkC a_k 1 rfl
        have f_a2 := blkC a_k 2 rfl
        go_wp2_with fail
        clear f_a0 f_a1 f_a2
        generalize y9.alloc (.cells #[.bool s_g, .slice s_o s_n s_c, .int .i64 s_e] 24) = x10 at l_k m_k a_k b_k p_k q_k s_k a_D b_D p_D q_D s_D H hb10' ⊢
        refine (cmp_D s_D a_D (s_B.ok (by omega)) (a_B.ok (by omega))).mono ?_
        rintro _ y10 ⟨rfl, hw10⟩
        have H := H.keeps hw10
        have l_k := (hw10.block _ (Array.getElem?_eq_some_iff.1 l_k).1).trans l_k
        have m_k := (hw10.block _ (Array.getElem?_eq_some_iff.1 m_k).1).trans m_k
        have a_k := (hw10.block _ (Array.getElem?_eq_some_iff.1 a_k).1).trans a_k
        have a_D := a_D.keeps hw10
        have b_k := (hw10.block _ (Array.getElem?_eq_some_iff.1 b_k).1).trans b_k
        have b_D := b_D.keeps hw10
        have p_k := (hw10.block _ (Array.getElem?_eq_some_iff.1 p_k).1).trans p_k
        have p_D := p_D.keeps hw10
        have q_k := (hw10.block _ (Array.getElem?_eq_some_iff.1 q_k).1).trans q_k
        have q_D := q_D.keeps hw10
        have s_k := (hw10.block _ (Array.getElem?_eq_some_iff.1 s_k).1).trans s_k
        have s_D := s_D.keeps hw10
        have hb10 := bel_trans hb10' hw10
        have h3 := ord_three s_V a_V
        generalize ord s_V a_V = c at *
        have h3 : Hid (c = 1 ∨ c = 0 ∨ c = -1) := h3
        have g2 : Hid (c = 0 ↔ o = false) := g2
        clear F0
        by_cases hc : c = 0
        · have ho := g2.out.1 hc
          clear h3
          subst hc ho
          clear g2
          have q_B := patV_bd hpe
          have f_q0 := blkC q_k 0 rfl
          have f_q1 := blkC q_k 1 rfl
          have f_q2 := blkC q_k 2 rfl
          have f_b0 := blkC b_k 0 rfl
          have f_b1 := blkC b_k 1 rfl
          have f_b2 := blkC b_k 2 rfl
          go_wp2_with fail
          clear f_q0 f_q1 f_q2 f_b0 f_b1 f_b2
          refine (mul_B q_D b_D q_B b_B (by omega) H.tab).mono ?_
          rintro _ y11 ⟨v, t_V, rfl, h11, t_E, t_B⟩
          obtain ⟨t_g, t_o, t_n, t_c, t_e, rfl⟩ := dans_shape h11
          have hw11 := h11.below
          have t_D := h11.num
          have H := H.keeps hw11
          have l_k := (hw11.block _ (Array.getElem?_eq_some_iff.1 l_k).1).trans l_k
          have m_k := (hw11.block _ (Array.getElem?_eq_some_iff.1 m_k).1).trans m_k
          have a_k := (hw11.block _ (Array.getElem?_eq_some_iff.1 a_k).1).trans a_k
          have a_D := a_D.keeps hw11
          have b_k := (hw11.block _ (Array.getElem?_eq_some_iff.1 b_k).1).trans b_k
          have b_D := b_D.keeps hw11
          have p_k := (hw11.block _ (Array.getElem?_eq_some_iff.1 p_k).1).trans p_k
          have p_D := p_D.keeps hw11
          have q_k := (hw11.block _ (Array.getElem?_eq_some_iff.1 q_k).1).trans q_k
          have q_D := q_D.keeps hw11
          have s_k := (hw11.block _ (Array.getElem?_eq_some_iff.1 s_k).1).trans s_k
          have s_D := s_D.keeps hw11
          have hb11 := bel_trans hb10 hw11
          have g3 := F1.out t_V t_E hpe
          clear t_E F1
          have l_k := heap_past (.cells #[.bool t_g, .slice t_o t_n t_c, .int .i64 t_e] 24) l_k
          have m_k := heap_past (.cells #[.bool t_g, .slice t_o t_n t_c, .int .i64 t_e] 24) m_k
          have a_k := heap_past (.cells #[.bool t_g, .slice t_o t_n t_c, .int .i64 t_e] 24) a_k
          have b_k := heap_past (.cells #[.bool t_g, .slice t_o t_n t_c, .int .i64 t_e] 24) b_k
          have p_k := heap_past (.cells #[.bool t_g, .slice t_o t_n t_c, .int .i64 t_e] 24) p_k
          have q_k := heap_past (.cells #[.bool t_g, .slice t_o t_n t_c, .int .i64 t_e] 24) q_k
          have s_k := heap_past (.cells #[.bool t_g, .slice t_o t_n t_c, .int .i64 t_e] 24) s_k
          have t_k := heap_a1 y11 (.cells #[.bool t_g, .slice t_o t_n t_c, .int .i64 t_e] 24)
          have a_D := a_D.keeps (bel_alloc y11 (.cells #[.bool t_g, .slice t_o t_n t_c, .int .i64 t_e] 24))
          have b_D := b_D.keeps (bel_alloc y11 (.cells #[.bool t_g, .slice t_o t_n t_c, .int .i64 t_e] 24))
          have p_D := p_D.keeps (bel_alloc y11 (.cells #[.bool t_g, .slice t_o t_n t_c, .int .i64 t_e] 24))
          have q_D := q_D.keeps (bel_alloc y11 (.cells #[.bool t_g, .slice t_o t_n t_c, .int .i64 t_e] 24))
          have s_D := s_D.keeps (bel_alloc y11 (.cells #[.bool t_g, .slice t_o t_n t_c, .int .i64 t_e] 24))
          have t_D := t_D.keeps (bel_alloc y11 (.cells #[.bool t_g, .slice t_o t_n t_c, .int .i64 t_e] 24))
          have H := H.keeps (bel_alloc y11 (.cells #[.bool t_g, .slice t_o t_n t_c, .int .i64 t_e] 24))
          have hb12' := bel_trans hb11 (bel_alloc y11 (.cells #[.bool t_g, .slice t_o t_n t_c, .int .i64 t_e] 24))
          have f_a0 := blkC a_k 0 rfl
          have f_a1 := blkC a_k 1 rfl
          have f_a2 := blkC a_k 2 rfl
          go_wp2_with fail
          clear f_a0 f_a1 f_a2
          generalize y11.alloc (.cells #[.bool t_g, .slice t_o t_n t_c, .int .i64 t_e] 24) = x12 at l_k m_k a_k b_k p_k q_k s_k t_k a_D b_D p_D q_D s_D t_D H hb12' ⊢
          refine (cmp_D t_D a_D (t_B.ok (by omega)) (a_B.ok (by omega))).mono ?_
          rintro _ y12 ⟨rfl, hw12⟩
          have H := H.keeps hw12
          have l_k := (hw12.block _ (Array.getElem?_eq_some_iff.1 l_k).1).trans l_k
          have m_k := (hw12.block _ (Array.getElem?_eq_some_iff.1 m_k).1).trans m_k
          have a_k := (hw12.block _ (Array.getElem?_eq_some_iff.1 a_k).1).trans a_k
          have a_D := a_D.keeps hw12
          have b_k := (hw12.block _ (Array.getElem?_eq_some_iff.1 b_k).1).trans b_k
          have b_D := b_D.keeps hw12
          have p_k := (hw12.block _ (Array.getElem?_eq_some_iff.1 p_k).1).trans p_k
          have p_D := p_D.keeps hw12
          have q_k := (hw12.block _ (Array.getElem?_eq_some_iff.1 q_k).1).trans q_k
          have q_D := q_D.keeps hw12
          have s_k := (hw12.block _ (Array.getElem?_eq_some_iff.1 s_k).1).trans s_k
          have s_D := s_D.keeps hw12
          have t_k := (hw12.block _ (Array.getElem?_eq_some_iff.1 t_k).1).trans t_k
          have t_D := t_D.keeps hw12
          have hb12 := bel_trans hb12' hw12
          generalize ord t_V a_V = c' at *
          have g3' : ¬ c' ≤ 0 := by omega
          clear F2
          go_wp2
          all_goals go_ret
          all_goals exact ⟨rfl, hb12⟩
        · have ho : o = true := by
            cases o
            · exact absurd (g2.out.2 rfl) hc
            · rfl
          subst ho
          clear g2
          obtain rfl : c = -1 := by have := h3.out; omega
          clear h3 hc g1
          have q_B := patV_bd hpe
          have f_q0 := blkC q_k 0 rfl
          have f_q1 := blkC q_k 1 rfl
          have f_q2 := blkC q_k 2 rfl
          have f_b0 := blkC b_k 0 rfl
          have f_b1 := blkC b_k 1 rfl
          have f_b2 := blkC b_k 2 rfl
          go_wp2_with fail
          clear f_q0 f_q1 f_q2 f_b0 f_b1 f_b2
          refine (mul_B q_D b_D q_B b_B (by omega) H.tab).mono ?_
          rintro _ y11 ⟨v, t_V, rfl, h11, t_E, t_B⟩
          obtain ⟨t_g, t_o, t_n, t_c, t_e, rfl⟩ := dans_shape h11
          have hw11 := h11.below
          have t_D := h11.num
          have H := H.keeps hw11
          have l_k := (hw11.block _ (Array.getElem?_eq_some_iff.1 l_k).1).trans l_k
          have m_k := (hw11.block _ (Array.getElem?_eq_some_iff.1 m_k).1).trans m_k
          have a_k := (hw11.block _ (Array.getElem?_eq_some_iff.1 a_k).1).trans a_k
          have a_D := a_D.keeps hw11
          have b_k := (hw11.block _ (Array.getElem?_eq_some_iff.1 b_k).1).trans b_k
          have b_D := b_D.keeps hw11
          have p_k := (hw11.block _ (Array.getElem?_eq_some_iff.1 p_k).1).trans p_k
          have p_D := p_D.keeps hw11
          have q_k := (hw11.block _ (Array.getElem?_eq_some_iff.1 q_k).1).trans q_k
          have q_D := q_D.keeps hw11
          have s_k := (hw11.block _ (Array.getElem?_eq_some_iff.1 s_k).1).trans s_k
          have s_D := s_D.keeps hw11
          have hb11 := bel_trans hb10 hw11
          have g3 := F1.out t_V t_E hpe
          clear t_E F1
          have l_k := heap_past (.cells #[.bool t_g, .slice t_o t_n t_c, .int .i64 t_e] 24) l_k
          have m_k := heap_past (.cells #[.bool t_g, .slice t_o t_n t_c, .int .i64 t_e] 24) m_k
          have a_k := heap_past (.cells #[.bool t_g, .slice t_o t_n t_c, .int .i64 t_e] 24) a_k
          have b_k := heap_past (.cells #[.bool t_g, .slice t_o t_n t_c, .int .i64 t_e] 24) b_k
          have p_k := heap_past (.cells #[.bool t_g, .slice t_o t_n t_c, .int .i64 t_e] 24) p_k
          have q_k := heap_past (.cells #[.bool t_g, .slice t_o t_n t_c, .int .i64 t_e] 24) q_k
          have s_k := heap_past (.cells #[.bool t_g, .slice t_o t_n t_c, .int .i64 t_e] 24) s_k
          have t_k := heap_a1 y11 (.cells #[.bool t_g, .slice t_o t_n t_c, .int .i64 t_e] 24)
          have a_D := a_D.keeps (bel_alloc y11 (.cells #[.bool t_g, .slice t_o t_n t_c, .int .i64 t_e] 24))
          have b_D := b_D.keeps (bel_alloc y11 (.cells #[.bool t_g, .slice t_o t_n t_c, .int .i64 t_e] 24))
          have p_D := p_D.keeps (bel_alloc y11 (.cells #[.bool t_g, .slice t_o t_n t_c, .int .i64 t_e] 24))
          have q_D := q_D.keeps (bel_alloc y11 (.cells #[.bool t_g, .slice t_o t_n t_c, .int .i64 t_e] 24))
          have s_D := s_D.keeps (bel_alloc y11 (.cells #[.bool t_g, .slice t_o t_n t_c, .int .i64 t_e] 24))
          have t_D := t_D.keeps (bel_alloc y11 (.cells #[.bool t_g, .slice t_o t_n t_c, .int .i64 t_e] 24))
          have H := H.keeps (bel_alloc y11 (.cells #[.bool t_g, .slice t_o t_n t_c, .int .i64 t_e] 24))
          have hb12' := bel_trans hb11 (bel_alloc y11 (.cells #[.bool t_g, .slice t_o t_n t_c, .int .i64 t_e] 24))
          have f_a0 := blkC a_k 0 rfl
          have f_a1 := blkC a_k 1 rfl
          have f_a2 := blkC a_k 2 rfl
          go_wp2_with fail
          clear f_a0 f_a1 f_a2
          generalize y11.alloc (.cells #[.bool t_g, .slice t_o t_n t_c, .int .i64 t_e] 24) = x12 at l_k m_k a_k b_k p_k q_k s_k t_k a_D b_D p_D q_D s_D t_D H hb12' ⊢
          refine (cmp_D t_D a_D (t_B.ok (by omega)) (a_B.ok (by omega))).mono ?_
          rintro _ y12 ⟨rfl, hw12⟩
          have H := H.keeps hw12
          have l_k := (hw12.block _ (Array.getElem?_eq_some_iff.1 l_k).1).trans l_k
          have m_k := (hw12.block _ (Array.getElem?_eq_some_iff.1 m_k).1).trans m_k
          have a_k := (hw12.block _ (Array.getElem?_eq_some_iff.1 a_k).1).trans a_k
          have a_D := a_D.keeps hw12
          have b_k := (hw12.block _ (Array.getElem?_eq_some_iff.1 b_k).1).trans b_k
          have b_D := b_D.keeps hw12
          have p_k := (hw12.block _ (Array.getElem?_eq_some_iff.1 p_k).1).trans p_k
          have p_D := p_D.keeps hw12
          have q_k := (hw12.block _ (Array.getElem?_eq_some_iff.1 q_k).1).trans q_k
          have q_D := q_D.keeps hw12
          have s_k := (hw12.block _ (Array.getElem?_eq_some_iff.1 s_k).1).trans s_k
          have s_D := s_D.keeps hw12
          have t_k := (hw12.block _ (Array.getElem?_eq_some_iff.1 t_k).1).trans t_k
          have t_D := t_D.keeps hw12
          have hb12 := bel_trans hb12' hw12
          generalize ord t_V a_V = c' at *
          have g3' : ¬ c' ≤ 0 := by omega
          clear F2
          go_wp2
          all_goals go_ret
          all_goals exact ⟨rfl, hb12⟩
theorem own : ownKnob Tryd.prog.godebug = none := by kernel_rfl
theorem laidOut : laidOutB Tryd.prog = true := by kernel_rfl
theorem door_met (os : Os) (args : Array Value) : laidMetH Tryd.prog Rows.roundQuotsRow.laid ((World.doorLaid Tryd.prog 400 os).forCall (fun _ _ => 0) ⟨#[], args, []⟩).memory :=
  laidMetH_of_parts3 (fuel := 8) (laidMet_of_run' 8 (by kernel_rfl) (by kernel_rfl)) (by kernel_rfl) (by kernel_rfl)
set_option maxRecDepth 100000 in
theorem lifted (os : Os) (started : os.Started) (H : Type) (enc : TypeId × Value → H) :
    ReturnsInHanded {} Tryd.checked os 6 .any (fun w args => (Rows.roundQuotsSpec.pre enc Tryd.prog Tryd.f6 [] false w args ∧ laidMetH Tryd.prog Rows.roundQuotsRow.laid w) ∧ sizedMet enc Tryd.prog Tryd.f6 (OpenSpec.ofChange Rows.roundQuotsSpec) false w args)
      (Rows.roundQuotsSpec.post enc Tryd.prog Tryd.f6 false true false false) := by
  refine returnsInHanded_of_change_and (C := Tryd.checked) (X := fun w _ => laidMetH Tryd.prog Rows.roundQuotsRow.laid w) (fun _ _ _ hh h => h.of_heap hh) own started (by kernel_rfl) Tryd.func6
    (ChangeSpec.witness_shaped (enc := enc) (C := Tryd.checked) (os := os) (X := fun w _ => laidMetH Tryd.prog Rows.roundQuotsRow.laid w) false (World.doorLaid Tryd.prog 400 os) #[.agg #[.bool false, .slice none 0 0, .int .i64 0], .agg #[.bool false, .slice none 0 0, .int .i64 0]] 8 rfl (World.shaped_of_RefB (by kernel_rfl) (by kernel_rfl)) (by kernel_rfl) (by kernel_rfl) (by kernel_rfl) (door_met os _)) ?_
  intro W base args ds gs before hval0 hW _ _ hL _
  have hval : ∀ (j : Nat) t v, Tryd.f6.params[j]? = some t → args[j]? = some v → Value.okWide Tryd.prog W .any base t v := hval0
  have hW' := hW
  obtain ⟨p, q, hA0, hV, rfl, hfz, hnd⟩ := hW
  have hA : DataW.TrodAll enc Tryd.prog W 0 (fun _ => true) true Tryd.f6.params.toList args.toList ds p := hA0
  rw [Tryd.params6] at hA hval
  obtain ⟨v0, vs0, d0, ds0, p0, q0, hargs, rfl, rfl, h0, r0⟩ := trodAll_cons hA
  obtain ⟨v1, vs1, d1, ds1, p1, q1, rfl, rfl, rfl, h1, r1⟩ := trodAll_cons r0
  obtain ⟨rfl, rfl, rfl⟩ := trodAll_nil r1
  obtain rfl : args = #[v0, v1] := by cases args; simp_all
  obtain ⟨rfl, rfl⟩ := trodVars_none hV
  have k0 := h0
  have lt0 : ∀ x ∈ p0, x.block < W.heap.size := by obtain ⟨m, hm⟩ := k0; exact DataW.trod_lt m _ _ _ hm
  obtain ⟨x0, rfl, w0, g0⟩ := num_of (hval 0 24 v0 rfl rfl) h0
  have k1 := h1
  have lt1 : ∀ x ∈ p1, x.block < W.heap.size := by obtain ⟨m, hm⟩ := k1; exact DataW.trod_lt m _ _ _ hm
  obtain ⟨x1, rfl, w1, g1⟩ := num_of (hval 1 24 v1 rfl rfl) h1
  clear hA0 hval0
  refine (walk x0 x1 W w0 g0 w1 g1 (hold4_of hL)).mono fun e W' ⟨he, bel⟩ => ?_
  subst he
  exact ⟨_, rfl, _, _, _, [], _, [], hW', trodAll_mk1 (shut_bool Tryd.underlying4 _), (trodAll_cons_mk (Below.trod laidOut (by kernel_rfl) (of_decide_eq_true (by kernel_rfl)) k0 bel lt0) (trodAll_cons_mk (Below.trod laidOut (by kernel_rfl) (of_decide_eq_true (by kernel_rfl)) k1 bel lt1) trodAll_mk0)), rfl, bel.frame _, fun h => by cases h⟩
theorem said : Rows.RoundQuotsSaid :=
  OpenClaim.holds_of_wide 6 Tryd.f6 rfl rfl rfl rfl rfl rfl rfl ⟨rfl, rfl, rfl, rfl, rfl⟩ rfl rfl rfl rfl rfl (by kernel_rfl) Tryd.func6 (by kernel_rfl)
    (of_decide_eq_true (by kernel_rfl)) (by unfold Func.isWrapper; first | (rw [if_pos (by decide +kernel)]; kernel_rfl) | (rw [if_neg (by decide +kernel)]; exact ⟨rfl, rfl⟩))
    (fun os started H enc _ => lifted os started H enc)
theorem plain (f : FuncId) (fn : Func) (hf : Tryd.pinned.checked.prog.funcNamed Tryd.f6.name = some f) (hfn : Tryd.pinned.checked.prog.funcs[f]? = some fn) :
    true = Tryd.pinned.checked.prog.looks [] ∧ ∀ (j : Nat) t, fn.params[j]? = some t → Tryd.pinned.checked.prog.wantsStandIn t = false := by
  obtain rfl : f = 6 := Option.some.inj ((show Tryd.prog.funcNamed Tryd.f6.name = some 6 by kernel_rfl).symm.trans hf) |>.symm
  obtain rfl : fn = Tryd.f6 := (Option.some.inj (Tryd.func6.symm.trans hfn)).symm
  refine ⟨by kernel_rfl, fun j t ht => ?_⟩
  rw [Tryd.params6] at ht
  obtain rfl : t = 24 := by simpa using Array.mem_of_getElem? ht
  exact (show Tryd.prog.wantsStandIn 24 = false by kernel_rfl)
/-- THE CARD. -/
theorem card : Rows.RoundQuotsCardSaid :=
  Claim7.holds_tied_plain_at .later [] _ _ _ _ said (fun _ h => by cases h) (by kernel_rfl) (fun _ h => by cases h) roundQuots_row_tie rfl ⟨rfl, rfl⟩ (by kernel_rfl) rfl plain (by kernel_rfl)
end Go.Proofs.YtgplnodgndbdeaaDoor.roundQuots
namespace Go.Proofs.YtgplnodgndbdeaaDoor
/-- RoundQuots: the statement as it is given. -/
theorem roundQuots_holds : Rows.RoundQuotsCardSaid := roundQuots.card
end Go.Proofs.YtgplnodgndbdeaaDoor
