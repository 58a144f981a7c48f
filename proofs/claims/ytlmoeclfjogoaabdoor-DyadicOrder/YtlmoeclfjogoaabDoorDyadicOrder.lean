/-
  DyadicOrder: for every three numbers the law returns true: an order that sums keep, and products with what is above 0. As a card: the library's tables and the layout start as the program's text lays them.
-/
import Derived.Test.YtlmoeclfjogoaabDoorPart9
import Derived.Test.YtlmoeclfjogoaabDoorCards
import Derived.Test.YtlmoeclfjogoaabDoorTie


namespace Go.Proofs.YtlmoeclfjogoaabDoor.dyadicOrder
open Go Go.ChangeShapes Go.WideShapes Go.ChangeAt Go.RowKit Go.Proofs.YtlmoeclfjogoaabDoor Go.Proofs.YtlmoeclfjogoaabDoor.M
set_option linter.unusedSimpArgs false
set_option linter.unusedVariables false

set_option maxRecDepth 100000 in
set_option maxHeartbeats 8000000 in
theorem walk (l m o : NumR) (w : World) (hl : Row w l.ao l.n l.cap l.d) (el : rng l.e) (hm : Row w m.ao m.n m.cap m.d) (em : rng m.e) (ho : Row w o.ao o.n o.cap o.d) (eo : rng o.e) (H : Hold w) :
    Calls Tryd.prog 3 #[l.v, m.v, o.v] w fun e w' => e = .returned (.bool true) ∧ Below w.heap.size w w' := by
  have l_N := fun W hb => num_B l W (hl.keeps hb) el
  have m_N := fun W hb => num_B m W (hm.keeps hb) em
  have o_N := fun W hb => num_B o W (ho.keeps hb) eo
  unfold NumR.v at *
  obtain ⟨l_g, l_o, l_n, l_c, l_d, l_e⟩ := l
  obtain ⟨m_g, m_o, m_n, m_c, m_d, m_e⟩ := m
  obtain ⟨o_g, o_o, o_n, o_c, o_d, o_e⟩ := o
  simp only at *
  clear hl el hm em ho eo
  go_enter Tryd.func3, Tryd.ntmps3
  have l_k : (((w.alloc (.cells #[.bool l_g, .slice l_o l_n l_c, .int .i64 l_e] 24)).alloc (.cells #[.bool m_g, .slice m_o m_n m_c, .int .i64 m_e] 24)).alloc (.cells #[.bool o_g, .slice o_o o_n o_c, .int .i64 o_e] 24)).heap[w.heap.size]? = some (.cells #[.bool l_g, .slice l_o l_n l_c, .int .i64 l_e] 24 (0, 0)) := h3_0 _ _ _ _
  have m_k : (((w.alloc (.cells #[.bool l_g, .slice l_o l_n l_c, .int .i64 l_e] 24)).alloc (.cells #[.bool m_g, .slice m_o m_n m_c, .int .i64 m_e] 24)).alloc (.cells #[.bool o_g, .slice o_o o_n o_c, .int .i64 o_e] 24)).heap[w.heap.size + 1]? = some (.cells #[.bool m_g, .slice m_o m_n m_c, .int .i64 m_e] 24 (0, 0)) := h3_1 _ _ _ _
  have o_k : (((w.alloc (.cells #[.bool l_g, .slice l_o l_n l_c, .int .i64 l_e] 24)).alloc (.cells #[.bool m_g, .slice m_o m_n m_c, .int .i64 m_e] 24)).alloc (.cells #[.bool o_g, .slice o_o o_n o_c, .int .i64 o_e] 24)).heap[w.heap.size + 2]? = some (.cells #[.bool o_g, .slice o_o o_n o_c, .int .i64 o_e] 24 (0, 0)) := h3_2 _ _ _ _
  have hb0 : Below w.heap.size w (((w.alloc (.cells #[.bool l_g, .slice l_o l_n l_c, .int .i64 l_e] 24)).alloc (.cells #[.bool m_g, .slice m_o m_n m_c, .int .i64 m_e] 24)).alloc (.cells #[.bool o_g, .slice o_o o_n o_c, .int .i64 o_e] 24)) := bel_a3 _ _ _ _
  go_wp2_with fail
  generalize (((w.alloc (.cells #[.bool l_g, .slice l_o l_n l_c, .int .i64 l_e] 24)).alloc (.cells #[.bool m_g, .slice m_o m_n m_c, .int .i64 m_e] 24)).alloc (.cells #[.bool o_g, .slice o_o o_n o_c, .int .i64 o_e] 24)) = x0 at l_k m_k o_k hb0 ⊢
  refine (l_N _ hb0).mono ?_
  rintro _ y1 ⟨v, a_V, rfl, h1 , a_B⟩
  obtain ⟨a_g, a_o, a_n, a_c, a_e, rfl⟩ := dans_shape h1
  have hw1 := h1.below
  have a_D := h1.num
  have l_k := (hw1.block _ (Array.getElem?_eq_some_iff.1 l_k).1).trans l_k
  have m_k := (hw1.block _ (Array.getElem?_eq_some_iff.1 m_k).1).trans m_k
  have o_k := (hw1.block _ (Array.getElem?_eq_some_iff.1 o_k).1).trans o_k
  have hb1 := bel_trans hb0 hw1
  have l_k := heap_past (.cells #[.bool a_g, .slice a_o a_n a_c, .int .i64 a_e] 24) l_k
  have m_k := heap_past (.cells #[.bool a_g, .slice a_o a_n a_c, .int .i64 a_e] 24) m_k
  have o_k := heap_past (.cells #[.bool a_g, .slice a_o a_n a_c, .int .i64 a_e] 24) o_k
  have a_k := heap_a1 y1 (.cells #[.bool a_g, .slice a_o a_n a_c, .int .i64 a_e] 24)
  have a_D := a_D.keeps (bel_alloc y1 (.cells #[.bool a_g, .slice a_o a_n a_c, .int .i64 a_e] 24))
  have hb2' := bel_trans hb1 (bel_alloc y1 (.cells #[.bool a_g, .slice a_o a_n a_c, .int .i64 a_e] 24))
  have f_m0 := blkC m_k 0 rfl
  have f_m1 := blkC m_k 1 rfl
  have f_m2 := blkC m_k 2 rfl
  go_wp2_with fail
  clear f_m0 f_m1 f_m2
  generalize y1.alloc (.cells #[.bool a_g, .slice a_o a_n a_c, .int .i64 a_e] 24) = x2 at l_k m_k o_k a_k a_D hb2' ⊢
  refine (m_N _ hb2').mono ?_
  rintro _ y2 ⟨v, b_V, rfl, h2 , b_B⟩
  obtain ⟨b_g, b_o, b_n, b_c, b_e, rfl⟩ := dans_shape h2
  have hw2 := h2.below
  have b_D := h2.num
  have l_k := (hw2.block _ (Array.getElem?_eq_some_iff.1 l_k).1).trans l_k
  have m_k := (hw2.block _ (Array.getElem?_eq_some_iff.1 m_k).1).trans m_k
  have o_k := (hw2.block _ (Array.getElem?_eq_some_iff.1 o_k).1).trans o_k
  have a_k := (hw2.block _ (Array.getElem?_eq_some_iff.1 a_k).1).trans a_k
  have a_D := a_D.keeps hw2
  have hb2 := bel_trans hb2' hw2
  have l_k := heap_past (.cells #[.bool b_g, .slice b_o b_n b_c, .int .i64 b_e] 24) l_k
  have m_k := heap_past (.cells #[.bool b_g, .slice b_o b_n b_c, .int .i64 b_e] 24) m_k
  have o_k := heap_past (.cells #[.bool b_g, .slice b_o b_n b_c, .int .i64 b_e] 24) o_k
  have a_k := heap_past (.cells #[.bool b_g, .slice b_o b_n b_c, .int .i64 b_e] 24) a_k
  have b_k := heap_a1 y2 (.cells #[.bool b_g, .slice b_o b_n b_c, .int .i64 b_e] 24)
  have a_D := a_D.keeps (bel_alloc y2 (.cells #[.bool b_g, .slice b_o b_n b_c, .int .i64 b_e] 24))
  have b_D := b_D.keeps (bel_alloc y2 (.cells #[.bool b_g, .slice b_o b_n b_c, .int .i64 b_e] 24))
  have hb3' := bel_trans hb2 (bel_alloc y2 (.cells #[.bool b_g, .slice b_o b_n b_c, .int .i64 b_e] 24))
  have f_o0 := blkC o_k 0 rfl
  have f_o1 := blkC o_k 1 rfl
  have f_o2 := blkC o_k 2 rfl
  go_wp2_with fail
  clear f_o0 f_o1 f_o2
  generalize y2.alloc (.cells #[.bool b_g, .slice b_o b_n b_c, .int .i64 b_e] 24) = x3 at l_k m_k o_k a_k b_k a_D b_D hb3' ⊢
  refine (o_N _ hb3').mono ?_
  rintro _ y3 ⟨v, c_V, rfl, h3 , c_B⟩
  obtain ⟨c_g, c_o, c_n, c_c, c_e, rfl⟩ := dans_shape h3
  have hw3 := h3.below
  have c_D := h3.num
  have l_k := (hw3.block _ (Array.getElem?_eq_some_iff.1 l_k).1).trans l_k
  have m_k := (hw3.block _ (Array.getElem?_eq_some_iff.1 m_k).1).trans m_k
  have o_k := (hw3.block _ (Array.getElem?_eq_some_iff.1 o_k).1).trans o_k
  have a_k := (hw3.block _ (Array.getElem?_eq_some_iff.1 a_k).1).trans a_k
  have a_D := a_D.keeps hw3
  have b_k := (hw3.block _ (Array.getElem?_eq_some_iff.1 b_k).1).trans b_k
  have b_D := b_D.keeps hw3
  have hb3 := bel_trans hb3' hw3
  have l_k := heap_past (.cells #[.bool c_g, .slice c_o c_n c_c, .int .i64 c_e] 24) l_k
  have m_k := heap_past (.cells #[.bool c_g, .slice c_o c_n c_c, .int .i64 c_e] 24) m_k
  have o_k := heap_past (.cells #[.bool c_g, .slice c_o c_n c_c, .int .i64 c_e] 24) o_k
  have a_k := heap_past (.cells #[.bool c_g, .slice c_o c_n c_c, .int .i64 c_e] 24) a_k
  have b_k := heap_past (.cells #[.bool c_g, .slice c_o c_n c_c, .int .i64 c_e] 24) b_k
  have c_k := heap_a1 y3 (.cells #[.bool c_g, .slice c_o c_n c_c, .int .i64 c_e] 24)
  have a_D := a_D.keeps (bel_alloc y3 (.cells #[.bool c_g, .slice c_o c_n c_c, .int .i64 c_e] 24))
  have b_D := b_D.keeps (bel_alloc y3 (.cells #[.bool c_g, .slice c_o c_n c_c, .int .i64 c_e] 24))
  have c_D := c_D.keeps (bel_alloc y3 (.cells #[.bool c_g, .slice c_o c_n c_c, .int .i64 c_e] 24))
  have hb4' := bel_trans hb3 (bel_alloc y3 (.cells #[.bool c_g, .slice c_o c_n c_c, .int .i64 c_e] 24))
  have f_a0 := blkC a_k 0 rfl
  have f_a1 := blkC a_k 1 rfl
  have f_a2 := blkC a_k 2 rfl
  have f_b0 := blkC b_k 0 rfl
  have f_b1 := blkC b_k 1 rfl
  have f_b2 := blkC b_k 2 rfl
  go_wp2_with fail
  clear f_a0 f_a1 f_a2 f_b0 f_b1 f_b2
  generalize y3.alloc (.cells #[.bool c_g, .slice c_o c_n c_c, .int .i64 c_e] 24) = x4 at l_k m_k o_k a_k b_k c_k a_D b_D c_D hb4' ⊢
  refine (cmp_D a_D b_D (a_B.ok (by omega)) (b_B.ok (by omega))).mono ?_
  rintro _ y4 ⟨rfl, hw4⟩
  have l_k := (hw4.block _ (Array.getElem?_eq_some_iff.1 l_k).1).trans l_k
  have m_k := (hw4.block _ (Array.getElem?_eq_some_iff.1 m_k).1).trans m_k
  have o_k := (hw4.block _ (Array.getElem?_eq_some_iff.1 o_k).1).trans o_k
  have a_k := (hw4.block _ (Array.getElem?_eq_some_iff.1 a_k).1).trans a_k
  have a_D := a_D.keeps hw4
  have b_k := (hw4.block _ (Array.getElem?_eq_some_iff.1 b_k).1).trans b_k
  have b_D := b_D.keeps hw4
  have c_k := (hw4.block _ (Array.getElem?_eq_some_iff.1 c_k).1).trans c_k
  have c_D := c_D.keeps hw4
  have hb4 := bel_trans hb4' hw4
  have f_b0 := blkC b_k 0 rfl
  have f_b1 := blkC b_k 1 rfl
  have f_b2 := blkC b_k 2 rfl
  have f_a0 := blkC a_k 0 rfl
  have f_a1 := blkC a_k 1 rfl
  have f_a2 := blkC a_k 2 rfl
  go_wp2_with fail
  clear f_b0 f_b1 f_b2 f_a0 f_a1 f_a2
  refine (cmp_D b_D a_D (b_B.ok (by omega)) (a_B.ok (by omega))).mono ?_
  rintro _ y5 ⟨rfl, hw5⟩
  have l_k := (hw5.block _ (Array.getElem?_eq_some_iff.1 l_k).1).trans l_k
  have m_k := (hw5.block _ (Array.getElem?_eq_some_iff.1 m_k).1).trans m_k
  have o_k := (hw5.block _ (Array.getElem?_eq_some_iff.1 o_k).1).trans o_k
  have a_k := (hw5.block _ (Array.getElem?_eq_some_iff.1 a_k).1).trans a_k
  have a_D := a_D.keeps hw5
  have b_k := (hw5.block _ (Array.getElem?_eq_some_iff.1 b_k).1).trans b_k
  have b_D := b_D.keeps hw5
  have c_k := (hw5.block _ (Array.getElem?_eq_some_iff.1 c_k).1).trans c_k
  have c_D := c_D.keeps hw5
  have hb5 := bel_trans hb4 hw5
  have f_a0 := blkC a_k 0 rfl
  have f_a1 := blkC a_k 1 rfl
  have f_a2 := blkC a_k 2 rfl
  have f_b0 := blkC b_k 0 rfl
  have f_b1 := blkC b_k 1 rfl
  have f_b2 := blkC b_k 2 rfl
  go_wp2_with fail
  clear f_a0 f_a1 f_a2 f_b0 f_b1 f_b2
  refine (sub_B a_D b_D a_B b_B (by omega) (H.tab.keeps hb5)).mono ?_
  rintro _ y6 ⟨v, rfl, h6⟩
  obtain ⟨d_g, d_o, d_n, d_c, d_e, rfl⟩ := dans_shape h6
  have hw6 := h6.below
  have d_D := h6.num
  have l_k := (hw6.block _ (Array.getElem?_eq_some_iff.1 l_k).1).trans l_k
  have m_k := (hw6.block _ (Array.getElem?_eq_some_iff.1 m_k).1).trans m_k
  have o_k := (hw6.block _ (Array.getElem?_eq_some_iff.1 o_k).1).trans o_k
  have a_k := (hw6.block _ (Array.getElem?_eq_some_iff.1 a_k).1).trans a_k
  have a_D := a_D.keeps hw6
  have b_k := (hw6.block _ (Array.getElem?_eq_some_iff.1 b_k).1).trans b_k
  have b_D := b_D.keeps hw6
  have c_k := (hw6.block _ (Array.getElem?_eq_some_iff.1 c_k).1).trans c_k
  have c_D := c_D.keeps hw6
  have hb6 := bel_trans hb5 hw6
  have d_B := a_B.add b_B.neg (by omega)
  rw [← Int.sub_eq_add_neg] at d_B
  obtain ⟨d_V, d_F⟩ : ∃ V, V = a_V - b_V := ⟨_, rfl⟩
  rw [← d_F] at d_B d_D
  have d_E : Hid (d_V = a_V - b_V) := d_F
  clear d_F
  have l_k := heap_past (.cells #[.bool d_g, .slice d_o d_n d_c, .int .i64 d_e] 24) l_k
  have m_k := heap_past (.cells #[.bool d_g, .slice d_o d_n d_c, .int .i64 d_e] 24) m_k
  have o_k := heap_past (.cells #[.bool d_g, .slice d_o d_n d_c, .int .i64 d_e] 24) o_k
  have a_k := heap_past (.cells #[.bool d_g, .slice d_o d_n d_c, .int .i64 d_e] 24) a_k
  have b_k := heap_past (.cells #[.bool d_g, .slice d_o d_n d_c, .int .i64 d_e] 24) b_k
  have c_k := heap_past (.cells #[.bool d_g, .slice d_o d_n d_c, .int .i64 d_e] 24) c_k
  have d_k := heap_a1 y6 (.cells #[.bool d_g, .slice d_o d_n d_c, .int .i64 d_e] 24)
  have a_D := a_D.keeps (bel_alloc y6 (.cells #[.bool d_g, .slice d_o d_n d_c, .int .i64 d_e] 24))
  have b_D := b_D.keeps (bel_alloc y6 (.cells #[.bool d_g, .slice d_o d_n d_c, .int .i64 d_e] 24))
  have c_D := c_D.keeps (bel_alloc y6 (.cells #[.bool d_g, .slice d_o d_n d_c, .int .i64 d_e] 24))
  have d_D := d_D.keeps (bel_alloc y6 (.cells #[.bool d_g, .slice d_o d_n d_c, .int .i64 d_e] 24))
  have hb7' := bel_trans hb6 (bel_alloc y6 (.cells #[.bool d_g, .slice d_o d_n d_c, .int .i64 d_e] 24))
  go_wp2_with fail
  generalize y6.alloc (.cells #[.bool d_g, .slice d_o d_n d_c, .int .i64 d_e] 24) = x7 at l_k m_k o_k a_k b_k c_k d_k a_D b_D c_D d_D hb7' ⊢
  refine (sign_D d_D (d_B.ok (by omega))).mono ?_
  rintro _ y7 ⟨rfl, hw7⟩
  have l_k := (hw7.block _ (Array.getElem?_eq_some_iff.1 l_k).1).trans l_k
  have m_k := (hw7.block _ (Array.getElem?_eq_some_iff.1 m_k).1).trans m_k
  have o_k := (hw7.block _ (Array.getElem?_eq_some_iff.1 o_k).1).trans o_k
  have a_k := (hw7.block _ (Array.getElem?_eq_some_iff.1 a_k).1).trans a_k
  have a_D := a_D.keeps hw7
  have b_k := (hw7.block _ (Array.getElem?_eq_some_iff.1 b_k).1).trans b_k
  have b_D := b_D.keeps hw7
  have c_k := (hw7.block _ (Array.getElem?_eq_some_iff.1 c_k).1).trans c_k
  have c_D := c_D.keeps hw7
  have d_k := (hw7.block _ (Array.getElem?_eq_some_iff.1 d_k).1).trans d_k
  have d_D := d_D.keeps hw7
  have hb7 := bel_trans hb7' hw7
  have f_c0 := blkC c_k 0 rfl
  have f_c1 := blkC c_k 1 rfl
  have f_c2 := blkC c_k 2 rfl
  go_wp2_with fail
  clear f_c0 f_c1 f_c2
  refine (sign_D c_D (c_B.ok (by omega))).mono ?_
  rintro _ y8 ⟨rfl, hw8⟩
  have l_k := (hw8.block _ (Array.getElem?_eq_some_iff.1 l_k).1).trans l_k
  have m_k := (hw8.block _ (Array.getElem?_eq_some_iff.1 m_k).1).trans m_k
  have o_k := (hw8.block _ (Array.getElem?_eq_some_iff.1 o_k).1).trans o_k
  have a_k := (hw8.block _ (Array.getElem?_eq_some_iff.1 a_k).1).trans a_k
  have a_D := a_D.keeps hw8
  have b_k := (hw8.block _ (Array.getElem?_eq_some_iff.1 b_k).1).trans b_k
  have b_D := b_D.keeps hw8
  have c_k := (hw8.block _ (Array.getElem?_eq_some_iff.1 c_k).1).trans c_k
  have c_D := c_D.keeps hw8
  have d_k := (hw8.block _ (Array.getElem?_eq_some_iff.1 d_k).1).trans d_k
  have d_D := d_D.keeps hw8
  have hb8 := bel_trans hb7 hw8
  have f_a0 := blkC a_k 0 rfl
  have f_a1 := blkC a_k 1 rfl
  have f_a2 := blkC a_k 2 rfl
  have f_c0 := blkC c_k 0 rfl
  have f_c1 := blkC c_k 1 rfl
  have f_c2 := blkC c_k 2 rfl
  go_wp2_with fail
  clear f_a0 f_a1 f_a2 f_c0 f_c1 f_c2
  refine (add_B a_D c_D a_B c_B (by omega) (H.tab.keeps hb8)).mono ?_
  rintro _ y9 ⟨v, rfl, h9⟩
  obtain ⟨x_g, x_o, x_n, x_c, x_e, rfl⟩ := dans_shape h9
  have hw9 := h9.below
  have x_D := h9.num
  have l_k := (hw9.block _ (Array.getElem?_eq_some_iff.1 l_k).1).trans l_k
  have m_k := (hw9.block _ (Array.getElem?_eq_some_iff.1 m_k).1).trans m_k
  have o_k := (hw9.block _ (Array.getElem?_eq_some_iff.1 o_k).1).trans o_k
  have a_k := (hw9.block _ (Array.getElem?_eq_some_iff.1 a_k).1).trans a_k
  have a_D := a_D.keeps hw9
  have b_k := (hw9.block _ (Array.getElem?_eq_some_iff.1 b_k).1).trans b_k
  have b_D := b_D.keeps hw9
  have c_k := (hw9.block _ (Array.getElem?_eq_some_iff.1 c_k).1).trans c_k
  have c_D := c_D.keeps hw9
  have d_k := (hw9.block _ (Array.getElem?_eq_some_iff.1 d_k).1).trans d_k
  have d_D := d_D.keeps hw9
  have hb9 := bel_trans hb8 hw9
  have x_B := a_B.add c_B (by omega)
  obtain ⟨x_V, x_F⟩ : ∃ V, V = a_V + c_V := ⟨_, rfl⟩
  rw [← x_F] at x_B x_D
  have x_E : Hid (x_V = a_V + c_V) := x_F
  clear x_F
  have l_k := heap_past (.cells #[.bool x_g, .slice x_o x_n x_c, .int .i64 x_e] 24) l_k
  have m_k := heap_past (.cells #[.bool x_g, .slice x_o x_n x_c, .int .i64 x_e] 24) m_k
  have o_k := heap_past (.cells #[.bool x_g, .slice x_o x_n x_c, .int .i64 x_e] 24) o_k
  have a_k := heap_past (.cells #[.bool x_g, .slice x_o x_n x_c, .int .i64 x_e] 24) a_k
  have b_k := heap_past (.cells #[.bool x_g, .slice x_o x_n x_c, .int .i64 x_e] 24) b_k
  have c_k := heap_past (.cells #[.bool x_g, .slice x_o x_n x_c, .int .i64 x_e] 24) c_k
  have d_k := heap_past (.cells #[.bool x_g, .slice x_o x_n x_c, .int .i64 x_e] 24) d_k
  have x_k := heap_a1 y9 (.cells #[.bool x_g, .slice x_o x_n x_c, .int .i64 x_e] 24)
  have a_D := a_D.keeps (bel_alloc y9 (.cells #[.bool x_g, .slice x_o x_n x_c, .int .i64 x_e] 24))
  have b_D := b_D.keeps (bel_alloc y9 (.cells #[.bool x_g, .slice x_o x_n x_c, .int .i64 x_e] 24))
  have c_D := c_D.keeps (bel_alloc y9 (.cells #[.bool x_g, .slice x_o x_n x_c, .int .i64 x_e] 24))
  have d_D := d_D.keeps (bel_alloc y9 (.cells #[.bool x_g, .slice x_o x_n x_c, .int .i64 x_e] 24))
  have x_D := x_D.keeps (bel_alloc y9 (.cells #[.bool x_g, .slice x_o x_n x_c, .int .i64 x_e] 24))
  have hb10' := bel_trans hb9 (bel_alloc y9 (.cells #[.bool x_g, .slice x_o x_n x_c, .int .i64 x_e] 24))
  have f_b0 := blkC b_k 0 rfl
  have f_b1 := blkC b_k 1 rfl
  have f_b2 := blkC b_k 2 rfl
  have f_c0 := blkC c_k 0 rfl
  have f_c1 := blkC c_k 1 rfl
  have f_c2 := blkC c_k 2 rfl
  go_wp2_with fail
  clear f_b0 f_b1 f_b2 f_c0 f_c1 f_c2
  generalize y9.alloc (.cells #[.bool x_g, .slice x_o x_n x_c, .int .i64 x_e] 24) = x10 at l_k m_k o_k a_k b_k c_k d_k x_k a_D b_D c_D d_D x_D hb10' ⊢
  refine (add_B b_D c_D b_B c_B (by omega) (H.tab.keeps hb10')).mono ?_
  rintro _ y10 ⟨v, rfl, h10⟩
  obtain ⟨y_g, y_o, y_n, y_c, y_e, rfl⟩ := dans_shape h10
  have hw10 := h10.below
  have y_D := h10.num
  have l_k := (hw10.block _ (Array.getElem?_eq_some_iff.1 l_k).1).trans l_k
  have m_k := (hw10.block _ (Array.getElem?_eq_some_iff.1 m_k).1).trans m_k
  have o_k := (hw10.block _ (Array.getElem?_eq_some_iff.1 o_k).1).trans o_k
  have a_k := (hw10.block _ (Array.getElem?_eq_some_iff.1 a_k).1).trans a_k
  have a_D := a_D.keeps hw10
  have b_k := (hw10.block _ (Array.getElem?_eq_some_iff.1 b_k).1).trans b_k
  have b_D := b_D.keeps hw10
  have c_k := (hw10.block _ (Array.getElem?_eq_some_iff.1 c_k).1).trans c_k
  have c_D := c_D.keeps hw10
  have d_k := (hw10.block _ (Array.getElem?_eq_some_iff.1 d_k).1).trans d_k
  have d_D := d_D.keeps hw10
  have x_k := (hw10.block _ (Array.getElem?_eq_some_iff.1 x_k).1).trans x_k
  have x_D := x_D.keeps hw10
  have hb10 := bel_trans hb10' hw10
  have y_B := b_B.add c_B (by omega)
  obtain ⟨y_V, y_F⟩ : ∃ V, V = b_V + c_V := ⟨_, rfl⟩
  rw [← y_F] at y_B y_D
  have y_E : Hid (y_V = b_V + c_V) := y_F
  clear y_F
  have l_k := heap_past (.cells #[.bool y_g, .slice y_o y_n y_c, .int .i64 y_e] 24) l_k
  have m_k := heap_past (.cells #[.bool y_g, .slice y_o y_n y_c, .int .i64 y_e] 24) m_k
  have o_k := heap_past (.cells #[.bool y_g, .slice y_o y_n y_c, .int .i64 y_e] 24) o_k
  have a_k := heap_past (.cells #[.bool y_g, .slice y_o y_n y_c, .int .i64 y_e] 24) a_k
  have b_k := heap_past (.cells #[.bool y_g, .slice y_o y_n y_c, .int .i64 y_e] 24) b_k
  have c_k := heap_past (.cells #[.bool y_g, .slice y_o y_n y_c, .int .i64 y_e] 24) c_k
  have d_k := heap_past (.cells #[.bool y_g, .slice y_o y_n y_c, .int .i64 y_e] 24) d_k
  have x_k := heap_past (.cells #[.bool y_g, .slice y_o y_n y_c, .int .i64 y_e] 24) x_k
  have y_k := heap_a1 y10 (.cells #[.bool y_g, .slice y_o y_n y_c, .int .i64 y_e] 24)
  have a_D := a_D.keeps (bel_alloc y10 (.cells #[.bool y_g, .slice y_o y_n y_c, .int .i64 y_e] 24))
  have b_D := b_D.keeps (bel_alloc y10 (.cells #[.bool y_g, .slice y_o y_n y_c, .int .i64 y_e] 24))
  have c_D := c_D.keeps (bel_alloc y10 (.cells #[.bool y_g, .slice y_o y_n y_c, .int .i64 y_e] 24))
  have d_D := d_D.keeps (bel_alloc y10 (.cells #[.bool y_g, .slice y_o y_n y_c, .int .i64 y_e] 24))
  have x_D := x_D.keeps (bel_alloc y10 (.cells #[.bool y_g, .slice y_o y_n y_c, .int .i64 y_e] 24))
  have y_D := y_D.keeps (bel_alloc y10 (.cells #[.bool y_g, .slice y_o y_n y_c, .int .i64 y_e] 24))
  have hb11' := bel_trans hb10 (bel_alloc y10 (.cells #[.bool y_g, .slice y_o y_n y_c, .int .i64 y_e] 24))
  have f_a0 := blkC a_k 0 rfl
  have f_a1 := blkC a_k 1 rfl
  have f_a2 := blkC a_k 2 rfl
  have f_c0 := blkC c_k 0 rfl
  have f_c1 := blkC c_k 1 rfl
  have f_c2 := blkC c_k 2 rfl
  go_wp2_with fail
  clear f_a0 f_a1 f_a2 f_c0 f_c1 f_c2
  generalize y10.alloc (.cells #[.bool y_g, .slice y_o y_n y_c, .int .i64 y_e] 24) = x11 at l_k m_k o_k a_k b_k c_k d_k x_k y_k a_D b_D c_D d_D x_D y_D hb11' ⊢
  refine (mul_B a_D c_D a_B c_B (by omega) (H.tab.keeps hb11')).mono ?_
  rintro _ y11 ⟨v, p_V, rfl, h11, p_E, p_B⟩
  obtain ⟨p_g, p_o, p_n, p_c, p_e, rfl⟩ := dans_shape h11
  have hw11 := h11.below
  have p_D := h11.num
  have l_k := (hw11.block _ (Array.getElem?_eq_some_iff.1 l_k).1).trans l_k
  have m_k := (hw11.block _ (Array.getElem?_eq_some_iff.1 m_k).1).trans m_k
  have o_k := (hw11.block _ (Array.getElem?_eq_some_iff.1 o_k).1).trans o_k
  have a_k := (hw11.block _ (Array.getElem?_eq_some_iff.1 a_k).1).trans a_k
  have a_D := a_D.keeps hw11
  have b_k := (hw11.block _ (Array.getElem?_eq_some_iff.1 b_k).1).trans b_k
  have b_D := b_D.keeps hw11
  have c_k := (hw11.block _ (Array.getElem?_eq_some_iff.1 c_k).1).trans c_k
  have c_D := c_D.keeps hw11
  have d_k := (hw11.block _ (Array.getElem?_eq_some_iff.1 d_k).1).trans d_k
  have d_D := d_D.keeps hw11
  have x_k := (hw11.block _ (Array.getElem?_eq_some_iff.1 x_k).1).trans x_k
  have x_D := x_D.keeps hw11
  have y_k := (hw11.block _ (Array.getElem?_eq_some_iff.1 y_k).1).trans y_k
  have y_D := y_D.keeps hw11
  have hb11 := bel_trans hb11' hw11
  have p_B : Bd 8000 p_V := p_B
  have l_k := heap_past (.cells #[.bool p_g, .slice p_o p_n p_c, .int .i64 p_e] 24) l_k
  have m_k := heap_past (.cells #[.bool p_g, .slice p_o p_n p_c, .int .i64 p_e] 24) m_k
  have o_k := heap_past (.cells #[.bool p_g, .slice p_o p_n p_c, .int .i64 p_e] 24) o_k
  have a_k := heap_past (.cells #[.bool p_g, .slice p_o p_n p_c, .int .i64 p_e] 24) a_k
  have b_k := heap_past (.cells #[.bool p_g, .slice p_o p_n p_c, .int .i64 p_e] 24) b_k
  have c_k := heap_past (.cells #[.bool p_g, .slice p_o p_n p_c, .int .i64 p_e] 24) c_k
  have d_k := heap_past (.cells #[.bool p_g, .slice p_o p_n p_c, .int .i64 p_e] 24) d_k
  have x_k := heap_past (.cells #[.bool p_g, .slice p_o p_n p_c, .int .i64 p_e] 24) x_k
  have y_k := heap_past (.cells #[.bool p_g, .slice p_o p_n p_c, .int .i64 p_e] 24) y_k
  have p_k := heap_a1 y11 (.cells #[.bool p_g, .slice p_o p_n p_c, .int .i64 p_e] 24)
  have a_D := a_D.keeps (bel_alloc y11 (.cells #[.bool p_g, .slice p_o p_n p_c, .int .i64 p_e] 24))
  have b_D := b_D.keeps (bel_alloc y11 (.cells #[.bool p_g, .slice p_o p_n p_c, .int .i64 p_e] 24))
  have c_D := c_D.keeps (bel_alloc y11 (.cells #[.bool p_g, .slice p_o p_n p_c, .int .i64 p_e] 24))
  have d_D := d_D.keeps (bel_alloc y11 (.cells #[.bool p_g, .slice p_o p_n p_c, .int .i64 p_e] 24))
  have x_D := x_D.keeps (bel_alloc y11 (.cells #[.bool p_g, .slice p_o p_n p_c, .int .i64 p_e] 24))
  have y_D := y_D.keeps (bel_alloc y11 (.cells #[.bool p_g, .slice p_o p_n p_c, .int .i64 p_e] 24))
  have p_D := p_D.keeps (bel_alloc y11 (.cells #[.bool p_g, .slice p_o p_n p_c, .int .i64 p_e] 24))
  have hb12' := bel_trans hb11 (bel_alloc y11 (.cells #[.bool p_g, .slice p_o p_n p_c, .int .i64 p_e] 24))
  have f_b0 := blkC b_k 0 rfl
  have f_b1 := blkC b_k 1 rfl
  have f_b2 := blkC b_k 2 rfl
  have f_c0 := blkC c_k 0 rfl
  have f_c1 := blkC c_k 1 rfl
  have f_c2 := blkC c_k 2 rfl
  go_wp2_with fail
  clear f_b0 f_b1 f_b2 f_c0 f_c1 f_c2
  generalize y11.alloc (.cells #[.bool p_g, .slice p_o p_n p_c, .int .i64 p_e] 24) = x12 at l_k m_k o_k a_k b_k c_k d_k x_k y_k p_k a_D b_D c_D d_D x_D y_D p_D hb12' ⊢
  refine (mul_B b_D c_D b_B c_B (by omega) (H.tab.keeps hb12')).mono ?_
  rintro _ y12 ⟨v, q_V, rfl, h12, q_E, q_B⟩
  obtain ⟨q_g, q_o, q_n, q_c, q_e, rfl⟩ := dans_shape h12
  have hw12 := h12.below
  have q_D := h12.num
  have l_k := (hw12.block _ (Array.getElem?_eq_some_iff.1 l_k).1).trans l_k
  have m_k := (hw12.block _ (Array.getElem?_eq_some_iff.1 m_k).1).trans m_k
  have o_k := (hw12.block _ (Array.getElem?_eq_some_iff.1 o_k).1).trans o_k
  have a_k := (hw12.block _ (Array.getElem?_eq_some_iff.1 a_k).1).trans a_k
  have a_D := a_D.keeps hw12
  have b_k := (hw12.block _ (Array.getElem?_eq_some_iff.1 b_k).1).trans b_k
  have b_D := b_D.keeps hw12
  have c_k := (hw12.block _ (Array.getElem?_eq_some_iff.1 c_k).1).trans c_k
  have c_D := c_D.keeps hw12
  have d_k := (hw12.block _ (Array.getElem?_eq_some_iff.1 d_k).1).trans d_k
  have d_D := d_D.keeps hw12
  have x_k := (hw12.block _ (Array.getElem?_eq_some_iff.1 x_k).1).trans x_k
  have x_D := x_D.keeps hw12
  have y_k := (hw12.block _ (Array.getElem?_eq_some_iff.1 y_k).1).trans y_k
  have y_D := y_D.keeps hw12
  have p_k := (hw12.block _ (Array.getElem?_eq_some_iff.1 p_k).1).trans p_k
  have p_D := p_D.keeps hw12
  have hb12 := bel_trans hb12' hw12
  have q_B : Bd 8000 q_V := q_B
  have l_k := heap_past (.cells #[.bool q_g, .slice q_o q_n q_c, .int .i64 q_e] 24) l_k
  have m_k := heap_past (.cells #[.bool q_g, .slice q_o q_n q_c, .int .i64 q_e] 24) m_k
  have o_k := heap_past (.cells #[.bool q_g, .slice q_o q_n q_c, .int .i64 q_e] 24) o_k
  have a_k := heap_past (.cells #[.bool q_g, .slice q_o q_n q_c, .int .i64 q_e] 24) a_k
  have b_k := heap_past (.cells #[.bool q_g, .slice q_o q_n q_c, .int .i64 q_e] 24) b_k
  have c_k := heap_past (.cells #[.bool q_g, .slice q_o q_n q_c, .int .i64 q_e] 24) c_k
  have d_k := heap_past (.cells #[.bool q_g, .slice q_o q_n q_c, .int .i64 q_e] 24) d_k
  have x_k := heap_past (.cells #[.bool q_g, .slice q_o q_n q_c, .int .i64 q_e] 24) x_k
  have y_k := heap_past (.cells #[.bool q_g, .slice q_o q_n q_c, .int .i64 q_e] 24) y_k
  have p_k := heap_past (.cells #[.bool q_g, .slice q_o q_n q_c, .int .i64 q_e] 24) p_k
  have q_k := heap_a1 y12 (.cells #[.bool q_g, .slice q_o q_n q_c, .int .i64 q_e] 24)
  have a_D := a_D.keeps (bel_alloc y12 (.cells #[.bool q_g, .slice q_o q_n q_c, .int .i64 q_e] 24))
  have b_D := b_D.keeps (bel_alloc y12 (.cells #[.bool q_g, .slice q_o q_n q_c, .int .i64 q_e] 24))
  have c_D := c_D.keeps (bel_alloc y12 (.cells #[.bool q_g, .slice q_o q_n q_c, .int .i64 q_e] 24))
  have d_D := d_D.keeps (bel_alloc y12 (.cells #[.bool q_g, .slice q_o q_n q_c, .int .i64 q_e] 24))
  have x_D := x_D.keeps (bel_alloc y12 (.cells #[.bool q_g, .slice q_o q_n q_c, .int .i64 q_e] 24))
  have y_D := y_D.keeps (bel_alloc y12 (.cells #[.bool q_g, .slice q_o q_n q_c, .int .i64 q_e] 24))
  have p_D := p_D.keeps (bel_alloc y12 (.cells #[.bool q_g, .slice q_o q_n q_c, .int .i64 q_e] 24))
  have q_D := q_D.keeps (bel_alloc y12 (.cells #[.bool q_g, .slice q_o q_n q_c, .int .i64 q_e] 24))
  have hb13' := bel_trans hb12 (bel_alloc y12 (.cells #[.bool q_g, .slice q_o q_n q_c, .int .i64 q_e] 24))
  have f_x0 := blkC x_k 0 rfl
  have f_x1 := blkC x_k 1 rfl
  have f_x2 := blkC x_k 2 rfl
  have f_y0 := blkC y_k 0 rfl
  have f_y1 := blkC y_k 1 rfl
  have f_y2 := blkC y_k 2 rfl
  go_wp2_with fail
  clear f_x0 f_x1 f_x2 f_y0 f_y1 f_y2
  generalize y12.alloc (.cells #[.bool q_g, .slice q_o q_n q_c, .int .i64 q_e] 24) = x13 at l_k m_k o_k a_k b_k c_k d_k x_k y_k p_k q_k a_D b_D c_D d_D x_D y_D p_D q_D hb13' ⊢
  refine (cmp_D x_D y_D (x_B.ok (by omega)) (y_B.ok (by omega))).mono ?_
  rintro _ y13 ⟨rfl, hw13⟩
  have l_k := (hw13.block _ (Array.getElem?_eq_some_iff.1 l_k).1).trans l_k
  have m_k := (hw13.block _ (Array.getElem?_eq_some_iff.1 m_k).1).trans m_k
  have o_k := (hw13.block _ (Array.getElem?_eq_some_iff.1 o_k).1).trans o_k
  have a_k := (hw13.block _ (Array.getElem?_eq_some_iff.1 a_k).1).trans a_k
  have a_D := a_D.keeps hw13
  have b_k := (hw13.block _ (Array.getElem?_eq_some_iff.1 b_k).1).trans b_k
  have b_D := b_D.keeps hw13
  have c_k := (hw13.block _ (Array.getElem?_eq_some_iff.1 c_k).1).trans c_k
  have c_D := c_D.keeps hw13
  have d_k := (hw13.block _ (Array.getElem?_eq_some_iff.1 d_k).1).trans d_k
  have d_D := d_D.keeps hw13
  have x_k := (hw13.block _ (Array.getElem?_eq_some_iff.1 x_k).1).trans x_k
  have x_D := x_D.keeps hw13
  have y_k := (hw13.block _ (Array.getElem?_eq_some_iff.1 y_k).1).trans y_k
  have y_D := y_D.keeps hw13
  have p_k := (hw13.block _ (Array.getElem?_eq_some_iff.1 p_k).1).trans p_k
  have p_D := p_D.keeps hw13
  have q_k := (hw13.block _ (Array.getElem?_eq_some_iff.1 q_k).1).trans q_k
  have q_D := q_D.keeps hw13
  have hb13 := bel_trans hb13' hw13
  have f_p0 := blkC p_k 0 rfl
  have f_p1 := blkC p_k 1 rfl
  have f_p2 := blkC p_k 2 rfl
  have f_q0 := blkC q_k 0 rfl
  have f_q1 := blkC q_k 1 rfl
  have f_q2 := blkC q_k 2 rfl
  go_wp2_with fail
  clear f_p0 f_p1 f_p2 f_q0 f_q1 f_q2
  refine (cmp_D p_D q_D (p_B.ok (by omega)) (q_B.ok (by omega))).mono ?_
  rintro _ y14 ⟨rfl, hw14⟩
  have l_k := (hw14.block _ (Array.getElem?_eq_some_iff.1 l_k).1).trans l_k
  have m_k := (hw14.block _ (Array.getElem?_eq_some_iff.1 m_k).1).trans m_k
  have o_k := (hw14.block _ (Array.getElem?_eq_some_iff.1 o_k).1).trans o_k
  have a_k := (hw14.block _ (Array.getElem?_eq_some_iff.1 a_k).1).trans a_k
  have a_D := a_D.keeps hw14
  have b_k := (hw14.block _ (Array.getElem?_eq_some_iff.1 b_k).1).trans b_k
  have b_D := b_D.keeps hw14
  have c_k := (hw14.block _ (Array.getElem?_eq_some_iff.1 c_k).1).trans c_k
  have c_D := c_D.keeps hw14
  have d_k := (hw14.block _ (Array.getElem?_eq_some_iff.1 d_k).1).trans d_k
  have d_D := d_D.keeps hw14
  have x_k := (hw14.block _ (Array.getElem?_eq_some_iff.1 x_k).1).trans x_k
  have x_D := x_D.keeps hw14
  have y_k := (hw14.block _ (Array.getElem?_eq_some_iff.1 y_k).1).trans y_k
  have y_D := y_D.keeps hw14
  have p_k := (hw14.block _ (Array.getElem?_eq_some_iff.1 p_k).1).trans p_k
  have p_D := p_D.keeps hw14
  have q_k := (hw14.block _ (Array.getElem?_eq_some_iff.1 q_k).1).trans q_k
  have q_D := q_D.keeps hw14
  have hb14 := bel_trans hb13 hw14
  have f_b0 := blkC b_k 0 rfl
  have f_b1 := blkC b_k 1 rfl
  have f_b2 := blkC b_k 2 rfl
  have f_c0 := blkC c_k 0 rfl
  have f_c1 := blkC c_k 1 rfl
  have f_c2 := blkC c_k 2 rfl
  go_wp2_with fail
  clear f_b0 f_b1 f_b2 f_c0 f_c1 f_c2
  refine (cmp_D b_D c_D (b_B.ok (by omega)) (c_B.ok (by omega))).mono ?_
  rintro _ y15 ⟨rfl, hw15⟩
  have l_k := (hw15.block _ (Array.getElem?_eq_some_iff.1 l_k).1).trans l_k
  have m_k := (hw15.block _ (Array.getElem?_eq_some_iff.1 m_k).1).trans m_k
  have o_k := (hw15.block _ (Array.getElem?_eq_some_iff.1 o_k).1).trans o_k
  have a_k := (hw15.block _ (Array.getElem?_eq_some_iff.1 a_k).1).trans a_k
  have a_D := a_D.keeps hw15
  have b_k := (hw15.block _ (Array.getElem?_eq_some_iff.1 b_k).1).trans b_k
  have b_D := b_D.keeps hw15
  have c_k := (hw15.block _ (Array.getElem?_eq_some_iff.1 c_k).1).trans c_k
  have c_D := c_D.keeps hw15
  have d_k := (hw15.block _ (Array.getElem?_eq_some_iff.1 d_k).1).trans d_k
  have d_D := d_D.keeps hw15
  have x_k := (hw15.block _ (Array.getElem?_eq_some_iff.1 x_k).1).trans x_k
  have x_D := x_D.keeps hw15
  have y_k := (hw15.block _ (Array.getElem?_eq_some_iff.1 y_k).1).trans y_k
  have y_D := y_D.keeps hw15
  have p_k := (hw15.block _ (Array.getElem?_eq_some_iff.1 p_k).1).trans p_k
  have p_D := p_D.keeps hw15
  have q_k := (hw15.block _ (Array.getElem?_eq_some_iff.1 q_k).1).trans q_k
  have q_D := q_D.keeps hw15
  have hb15 := bel_trans hb14 hw15
  have f_a0 := blkC a_k 0 rfl
  have f_a1 := blkC a_k 1 rfl
  have f_a2 := blkC a_k 2 rfl
  have f_c0 := blkC c_k 0 rfl
  have f_c1 := blkC c_k 1 rfl
  have f_c2 := blkC c_k 2 rfl
  go_wp2_with fail
  clear f_a0 f_a1 f_a2 f_c0 f_c1 f_c2
  refine (cmp_D a_D c_D (a_B.ok (by omega)) (c_B.ok (by omega))).mono ?_
  rintro _ y16 ⟨rfl, hw16⟩
  have l_k := (hw16.block _ (Array.getElem?_eq_some_iff.1 l_k).1).trans l_k
  have m_k := (hw16.block _ (Array.getElem?_eq_some_iff.1 m_k).1).trans m_k
  have o_k := (hw16.block _ (Array.getElem?_eq_some_iff.1 o_k).1).trans o_k
  have a_k := (hw16.block _ (Array.getElem?_eq_some_iff.1 a_k).1).trans a_k
  have a_D := a_D.keeps hw16
  have b_k := (hw16.block _ (Array.getElem?_eq_some_iff.1 b_k).1).trans b_k
  have b_D := b_D.keeps hw16
  have c_k := (hw16.block _ (Array.getElem?_eq_some_iff.1 c_k).1).trans c_k
  have c_D := c_D.keeps hw16
  have d_k := (hw16.block _ (Array.getElem?_eq_some_iff.1 d_k).1).trans d_k
  have d_D := d_D.keeps hw16
  have x_k := (hw16.block _ (Array.getElem?_eq_some_iff.1 x_k).1).trans x_k
  have x_D := x_D.keeps hw16
  have y_k := (hw16.block _ (Array.getElem?_eq_some_iff.1 y_k).1).trans y_k
  have y_D := y_D.keeps hw16
  have p_k := (hw16.block _ (Array.getElem?_eq_some_iff.1 p_k).1).trans p_k
  have p_D := p_D.keeps hw16
  have q_k := (hw16.block _ (Array.getElem?_eq_some_iff.1 q_k).1).trans q_k
  have q_D := q_D.keeps hw16
  have hb16 := bel_trans hb15 hw16
  go_wp2_with fail
  refine (dalive_any _ (H.lay.keeps hb16) (H.tab.keeps hb16)).mono ?_
  rintro _ y17 ⟨rfl, hw17⟩
  have l_k := (hw17.block _ (Array.getElem?_eq_some_iff.1 l_k).1).trans l_k
  have m_k := (hw17.block _ (Array.getElem?_eq_some_iff.1 m_k).1).trans m_k
  have o_k := (hw17.block _ (Array.getElem?_eq_some_iff.1 o_k).1).trans o_k
  have a_k := (hw17.block _ (Array.getElem?_eq_some_iff.1 a_k).1).trans a_k
  have a_D := a_D.keeps hw17
  have b_k := (hw17.block _ (Array.getElem?_eq_some_iff.1 b_k).1).trans b_k
  have b_D := b_D.keeps hw17
  have c_k := (hw17.block _ (Array.getElem?_eq_some_iff.1 c_k).1).trans c_k
  have c_D := c_D.keeps hw17
  have d_k := (hw17.block _ (Array.getElem?_eq_some_iff.1 d_k).1).trans d_k
  have d_D := d_D.keeps hw17
  have x_k := (hw17.block _ (Array.getElem?_eq_some_iff.1 x_k).1).trans x_k
  have x_D := x_D.keeps hw17
  have y_k := (hw17.block _ (Array.getElem?_eq_some_iff.1 y_k).1).trans y_k
  have y_D := y_D.keeps hw17
  have p_k := (hw17.block _ (Array.getElem?_eq_some_iff.1 p_k).1).trans p_k
  have p_D := p_D.keeps hw17
  have q_k := (hw17.block _ (Array.getElem?_eq_some_iff.1 q_k).1).trans q_k
  have q_D := q_D.keeps hw17
  have hb17 := bel_trans hb16 hw17
  have n1 : ord b_V a_V = -ord a_V b_V := ord_swap _ _
  have n2 : ord d_V 0 = ord a_V b_V := by rw [d_E.out]; exact ord_sub _ _
  have n3 : ord x_V y_V = ord a_V b_V := by rw [x_E.out, y_E.out]; exact ord_add _ _ _
  have n4 : ord p_V q_V = ord a_V b_V * ord c_V 0 := by rw [← ord_mul, ← p_E, ← q_E, ord_scale (two_pos _)]
  have n5 : Hid (0 < ord a_V b_V ∨ 0 < ord b_V c_V ∨ ord a_V c_V ≤ 0) := ord_trans _ _ _
  have n6 : decide (a_V = b_V) = (ord a_V b_V == 0) := ord_zero _ _
  have n7 := ord_three a_V b_V
  have n8 := ord_three c_V 0
  have n9 := ord_three b_V c_V
  have n10 := ord_three a_V c_V
  rw [n1, n2, n3, n4]
  have hC := same_D a_D b_D
  rw [n6] at hC
  clear n1 n2 n3 n4 n6
  generalize ord a_V b_V = n at *
  generalize ord c_V 0 = g at *
  generalize ord b_V c_V = bc at *
  generalize ord a_V c_V = ac at *
  have f_a0 := blkC a_k 0 rfl
  have f_a1 := blkC a_k 1 rfl
  have f_a2 := blkC a_k 2 rfl
  have f_b0 := blkC b_k 0 rfl
  have f_b1 := blkC b_k 1 rfl
  have f_b2 := blkC b_k 2 rfl
  have hfin := hb17
  clear a_D b_D c_D d_D x_D y_D p_D q_D H a_B b_B c_B d_B x_B y_B p_B q_B c_k d_k x_k y_k p_k q_k a_k b_k l_k m_k o_k
  rcases n7 with rfl | rfl | rfl <;> rcases n8 with rfl | rfl | rfl
  all_goals
    go_wp2_with fail
    refine hC.mono ?_
    rintro _ yf ⟨rfl, hwf⟩
    by_cases hbc : 0 < bc
    · go_wp2
      go_ret
      exact ⟨rfl, bel_trans hfin hwf⟩
    · go_wp2
      go_ret
      exact ⟨ret_bool (by first | rfl | (have := n5.out; simp; omega)), bel_trans hfin hwf⟩
theorem own : ownKnob Tryd.prog.godebug = none := by kernel_rfl
theorem laidOut : laidOutB Tryd.prog = true := by kernel_rfl
theorem door_met (os : Os) (args : Array Value) : laidMetH Tryd.prog Rows.dyadicOrderRow.laid ((World.doorLaid Tryd.prog 400 os).forCall (fun _ _ => 0) ⟨#[], args, []⟩).memory :=
  laidMetH_of_parts3 (fuel := 8) (laidMet_of_run' 8 (by kernel_rfl) (by kernel_rfl)) (by kernel_rfl) (by kernel_rfl)
set_option maxRecDepth 100000 in
theorem lifted (os : Os) (started : os.Started) (H : Type) (enc : TypeId × Value → H) :
    ReturnsInHanded {} Tryd.checked os 3 .any (fun w args => (Rows.dyadicOrderSpec.pre enc Tryd.prog Tryd.f3 [] false w args ∧ laidMetH Tryd.prog Rows.dyadicOrderRow.laid w) ∧ sizedMet enc Tryd.prog Tryd.f3 (OpenSpec.ofChange Rows.dyadicOrderSpec) false w args)
      (Rows.dyadicOrderSpec.post enc Tryd.prog Tryd.f3 false true false false) := by
  refine returnsInHanded_of_change_and (C := Tryd.checked) (X := fun w _ => laidMetH Tryd.prog Rows.dyadicOrderRow.laid w) (fun _ _ _ hh h => h.of_heap hh) own started (by kernel_rfl) Tryd.func3
    (ChangeSpec.witness_shaped (enc := enc) (C := Tryd.checked) (os := os) (X := fun w _ => laidMetH Tryd.prog Rows.dyadicOrderRow.laid w) false (World.doorLaid Tryd.prog 400 os) #[.agg #[.bool false, .slice none 0 0, .int .i64 0], .agg #[.bool false, .slice none 0 0, .int .i64 0], .agg #[.bool false, .slice none 0 0, .int .i64 0]] 8 rfl (World.shaped_of_RefB (by kernel_rfl) (by kernel_rfl)) (by kernel_rfl) (by kernel_rfl) (by kernel_rfl) (door_met os _)) ?_
  intro W base args ds gs before hval0 hW _ _ hL _
  have hval : ∀ (j : Nat) t v, Tryd.f3.params[j]? = some t → args[j]? = some v → Value.okWide Tryd.prog W .any base t v := hval0
  have hW' := hW
  obtain ⟨p, q, hA0, hV, rfl, hfz, hnd⟩ := hW
  have hA : DataW.TrodAll enc Tryd.prog W 0 (fun _ => true) true Tryd.f3.params.toList args.toList ds p := hA0
  rw [Tryd.params3] at hA hval
  obtain ⟨v0, vs0, d0, ds0, p0, q0, hargs, rfl, rfl, h0, r0⟩ := trodAll_cons hA
  obtain ⟨v1, vs1, d1, ds1, p1, q1, rfl, rfl, rfl, h1, r1⟩ := trodAll_cons r0
  obtain ⟨v2, vs2, d2, ds2, p2, q2, rfl, rfl, rfl, h2, r2⟩ := trodAll_cons r1
  obtain ⟨rfl, rfl, rfl⟩ := trodAll_nil r2
  obtain rfl : args = #[v0, v1, v2] := by cases args; simp_all
  obtain ⟨rfl, rfl⟩ := trodVars_none hV
  have k0 := h0
  have lt0 : ∀ x ∈ p0, x.block < W.heap.size := by obtain ⟨m, hm⟩ := k0; exact DataW.trod_lt m _ _ _ hm
  obtain ⟨x0, rfl, w0, g0⟩ := num_of (hval 0 24 v0 rfl rfl) h0
  have k1 := h1
  have lt1 : ∀ x ∈ p1, x.block < W.heap.size := by obtain ⟨m, hm⟩ := k1; exact DataW.trod_lt m _ _ _ hm
  obtain ⟨x1, rfl, w1, g1⟩ := num_of (hval 1 24 v1 rfl rfl) h1
  have k2 := h2
  have lt2 : ∀ x ∈ p2, x.block < W.heap.size := by obtain ⟨m, hm⟩ := k2; exact DataW.trod_lt m _ _ _ hm
  obtain ⟨x2, rfl, w2, g2⟩ := num_of (hval 2 24 v2 rfl rfl) h2
  clear hA0 hval0
  refine (walk x0 x1 x2 W w0 g0 w1 g1 w2 g2 (hold_of hL)).mono fun e W' ⟨he, bel⟩ => ?_
  subst he
  exact ⟨_, rfl, _, _, _, [], _, [], hW', trodAll_mk1 (shut_bool Tryd.underlying4 _), (trodAll_cons_mk (Below.trod laidOut (by kernel_rfl) (of_decide_eq_true (by kernel_rfl)) k0 bel lt0) (trodAll_cons_mk (Below.trod laidOut (by kernel_rfl) (of_decide_eq_true (by kernel_rfl)) k1 bel lt1) (trodAll_cons_mk (Below.trod laidOut (by kernel_rfl) (of_decide_eq_true (by kernel_rfl)) k2 bel lt2) trodAll_mk0))), rfl, bel.frame _, fun h => by cases h⟩
theorem said : Rows.DyadicOrderSaid :=
  OpenClaim.holds_of_wide 3 Tryd.f3 rfl rfl rfl rfl rfl rfl rfl ⟨rfl, rfl, rfl, rfl, rfl⟩ rfl rfl rfl rfl rfl (by kernel_rfl) Tryd.func3 (by kernel_rfl)
    (of_decide_eq_true (by kernel_rfl)) (by unfold Func.isWrapper; first | (rw [if_pos (by decide +kernel)]; kernel_rfl) | (rw [if_neg (by decide +kernel)]; exact ⟨rfl, rfl⟩))
    (fun os started H enc _ => lifted os started H enc)
theorem plain (f : FuncId) (fn : Func) (hf : Tryd.pinned.checked.prog.funcNamed Tryd.f3.name = some f) (hfn : Tryd.pinned.checked.prog.funcs[f]? = some fn) :
    true = Tryd.pinned.checked.prog.looks [] ∧ ∀ (j : Nat) t, fn.params[j]? = some t → Tryd.pinned.checked.prog.wantsStandIn t = false := by
  obtain rfl : f = 3 := Option.some.inj ((show Tryd.prog.funcNamed Tryd.f3.name = some 3 by kernel_rfl).symm.trans hf) |>.symm
  obtain rfl : fn = Tryd.f3 := (Option.some.inj (Tryd.func3.symm.trans hfn)).symm
  refine ⟨by kernel_rfl, fun j t ht => ?_⟩
  rw [Tryd.params3] at ht
  obtain rfl : t = 24 := by simpa using Array.mem_of_getElem? ht
  exact (show Tryd.prog.wantsStandIn 24 = false by kernel_rfl)
/-- THE CARD. -/
theorem card : Rows.DyadicOrderCardSaid :=
  Claim7.holds_tied_plain_at .later [] _ _ _ _ said (fun _ h => by cases h) (by kernel_rfl) (fun _ h => by cases h) dyadicOrder_row_tie rfl ⟨rfl, rfl⟩ (by kernel_rfl) rfl plain (by kernel_rfl)
end Go.Proofs.YtlmoeclfjogoaabDoor.dyadicOrder
namespace Go.Proofs.YtlmoeclfjogoaabDoor
/-- DyadicOrder: the statement as it is given. -/
theorem dyadicOrder_holds : Rows.DyadicOrderCardSaid := dyadicOrder.card
end Go.Proofs.YtlmoeclfjogoaabDoor
