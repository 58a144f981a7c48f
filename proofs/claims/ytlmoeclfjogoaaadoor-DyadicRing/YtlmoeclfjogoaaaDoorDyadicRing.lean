/-
  DyadicRing: for every three numbers the law returns true: sums and products are a ring's. As a card: the library's tables and the layout start as the program's text lays them.
-/
import Derived.Test.YtlmoeclfjogoaaaDoorPart10
import Derived.Test.YtlmoeclfjogoaaaDoorCards
import Derived.Test.YtlmoeclfjogoaaaDoorTie


namespace Go.Proofs.YtlmoeclfjogoaaaDoor.dyadicRing
open Go Go.ChangeShapes Go.WideShapes Go.ChangeAt Go.RowKit Go.Proofs.YtlmoeclfjogoaaaDoor Go.Proofs.YtlmoeclfjogoaaaDoor.M
set_option linter.unusedSimpArgs false
set_option linter.unusedVariables false

set_option maxRecDepth 100000 in
set_option maxHeartbeats 8000000 in
theorem walk (l m o : NumR) (w : World) (hl : Row w l.ao l.n l.cap l.d) (el : rng l.e) (hm : Row w m.ao m.n m.cap m.d) (em : rng m.e) (ho : Row w o.ao o.n o.cap o.d) (eo : rng o.e) (H : Hold w) :
    Calls Tryd.prog 7 #[l.v, m.v, o.v] w fun e w' => e = .returned (.bool true) ∧ Below w.heap.size w w' := by
  have l_N := fun W hb => num_B l W (hl.keeps hb) el
  have m_N := fun W hb => num_B m W (hm.keeps hb) em
  have o_N := fun W hb => num_B o W (ho.keeps hb) eo
  unfold NumR.v at *
  obtain ⟨l_g, l_o, l_n, l_c, l_d, l_e⟩ := l
  obtain ⟨m_g, m_o, m_n, m_c, m_d, m_e⟩ := m
  obtain ⟨o_g, o_o, o_n, o_c, o_d, o_e⟩ := o
  simp only at *
  clear hl el hm em ho eo
  go_enter Tryd.func7, Tryd.ntmps7
  have l_k : (((w.alloc (.cells #[.bool l_g, .slice l_o l_n l_c, .int .i64 l_e] 31)).alloc (.cells #[.bool m_g, .slice m_o m_n m_c, .int .i64 m_e] 31)).alloc (.cells #[.bool o_g, .slice o_o o_n o_c, .int .i64 o_e] 31)).heap[w.heap.size]? = some (.cells #[.bool l_g, .slice l_o l_n l_c, .int .i64 l_e] 31 (0, 0)) := h3_0 _ _ _ _
  have m_k : (((w.alloc (.cells #[.bool l_g, .slice l_o l_n l_c, .int .i64 l_e] 31)).alloc (.cells #[.bool m_g, .slice m_o m_n m_c, .int .i64 m_e] 31)).alloc (.cells #[.bool o_g, .slice o_o o_n o_c, .int .i64 o_e] 31)).heap[w.heap.size + 1]? = some (.cells #[.bool m_g, .slice m_o m_n m_c, .int .i64 m_e] 31 (0, 0)) := h3_1 _ _ _ _
  have o_k : (((w.alloc (.cells #[.bool l_g, .slice l_o l_n l_c, .int .i64 l_e] 31)).alloc (.cells #[.bool m_g, .slice m_o m_n m_c, .int .i64 m_e] 31)).alloc (.cells #[.bool o_g, .slice o_o o_n o_c, .int .i64 o_e] 31)).heap[w.heap.size + 2]? = some (.cells #[.bool o_g, .slice o_o o_n o_c, .int .i64 o_e] 31 (0, 0)) := h3_2 _ _ _ _
  have hb0 : Below w.heap.size w (((w.alloc (.cells #[.bool l_g, .slice l_o l_n l_c, .int .i64 l_e] 31)).alloc (.cells #[.bool m_g, .slice m_o m_n m_c, .int .i64 m_e] 31)).alloc (.cells #[.bool o_g, .slice o_o o_n o_c, .int .i64 o_e] 31)) := bel_a3 _ _ _ _
  go_wp2_with fail
  generalize (((w.alloc (.cells #[.bool l_g, .slice l_o l_n l_c, .int .i64 l_e] 31)).alloc (.cells #[.bool m_g, .slice m_o m_n m_c, .int .i64 m_e] 31)).alloc (.cells #[.bool o_g, .slice o_o o_n o_c, .int .i64 o_e] 31)) = x0 at l_k m_k o_k hb0 ⊢
  refine (l_N _ hb0).mono ?_
  rintro _ y1 ⟨v, a_V, rfl, h1 , a_B⟩
  obtain ⟨a_g, a_o, a_n, a_c, a_e, rfl⟩ := dans_shape h1
  have hw1 := h1.below
  have a_D := h1.num
  have l_k := (hw1.block _ (Array.getElem?_eq_some_iff.1 l_k).1).trans l_k
  have m_k := (hw1.block _ (Array.getElem?_eq_some_iff.1 m_k).1).trans m_k
  have o_k := (hw1.block _ (Array.getElem?_eq_some_iff.1 o_k).1).trans o_k
  have hb1 := bel_trans hb0 hw1
  have l_k := heap_past (.cells #[.bool a_g, .slice a_o a_n a_c, .int .i64 a_e] 31) l_k
  have m_k := heap_past (.cells #[.bool a_g, .slice a_o a_n a_c, .int .i64 a_e] 31) m_k
  have o_k := heap_past (.cells #[.bool a_g, .slice a_o a_n a_c, .int .i64 a_e] 31) o_k
  have a_k := heap_a1 y1 (.cells #[.bool a_g, .slice a_o a_n a_c, .int .i64 a_e] 31)
  have a_D := a_D.keeps (bel_alloc y1 (.cells #[.bool a_g, .slice a_o a_n a_c, .int .i64 a_e] 31))
  have hb2' := bel_trans hb1 (bel_alloc y1 (.cells #[.bool a_g, .slice a_o a_n a_c, .int .i64 a_e] 31))
  have f_m0 := blkC m_k 0 rfl
  have f_m1 := blkC m_k 1 rfl
  have f_m2 := blkC m_k 2 rfl
  go_wp2_with fail
  clear f_m0 f_m1 f_m2
  generalize y1.alloc (.cells #[.bool a_g, .slice a_o a_n a_c, .int .i64 a_e] 31) = x2 at l_k m_k o_k a_k a_D hb2' ⊢
  refine (m_N _ hb2').mono ?_
  rintro _ y2 ⟨v, b_V, rfl, h2 , b_B⟩
  obtain ⟨b_g, b_o, b_n, b_c, b_e, rfl⟩ := dans_shape h2
  have hw2 := h2.below
  have b_D := h2.num
  have l_k := (hw2.block _ (Array.getElem?_eq_some_iff.1 l_k).1).trans l_k
  have m_k := (hw2.block _ (Array.getElem?_eq_some_iff.1 m_k).1).trans m_k
  have o_k := (hw2.block _ (Array.getElem?_eq_some_iff.1 o_k).1).trans o_k
  have a_k := (hw2.block _ (Array.getElem?_eq_some_iff.1 a_k).1).trans a_k
  have a_D := a_D.keeps hw2
  have hb2 := bel_trans hb2' hw2
  have l_k := heap_past (.cells #[.bool b_g, .slice b_o b_n b_c, .int .i64 b_e] 31) l_k
  have m_k := heap_past (.cells #[.bool b_g, .slice b_o b_n b_c, .int .i64 b_e] 31) m_k
  have o_k := heap_past (.cells #[.bool b_g, .slice b_o b_n b_c, .int .i64 b_e] 31) o_k
  have a_k := heap_past (.cells #[.bool b_g, .slice b_o b_n b_c, .int .i64 b_e] 31) a_k
  have b_k := heap_a1 y2 (.cells #[.bool b_g, .slice b_o b_n b_c, .int .i64 b_e] 31)
  have a_D := a_D.keeps (bel_alloc y2 (.cells #[.bool b_g, .slice b_o b_n b_c, .int .i64 b_e] 31))
  have b_D := b_D.keeps (bel_alloc y2 (.cells #[.bool b_g, .slice b_o b_n b_c, .int .i64 b_e] 31))
  have hb3' := bel_trans hb2 (bel_alloc y2 (.cells #[.bool b_g, .slice b_o b_n b_c, .int .i64 b_e] 31))
  have f_o0 := blkC o_k 0 rfl
  have f_o1 := blkC o_k 1 rfl
  have f_o2 := blkC o_k 2 rfl
  go_wp2_with fail
  clear f_o0 f_o1 f_o2
  generalize y2.alloc (.cells #[.bool b_g, .slice b_o b_n b_c, .int .i64 b_e] 31) = x3 at l_k m_k o_k a_k b_k a_D b_D hb3' ⊢
  refine (o_N _ hb3').mono ?_
  rintro _ y3 ⟨v, c_V, rfl, h3 , c_B⟩
  obtain ⟨c_g, c_o, c_n, c_c, c_e, rfl⟩ := dans_shape h3
  have hw3 := h3.below
  have c_D := h3.num
  have l_k := (hw3.block _ (Array.getElem?_eq_some_iff.1 l_k).1).trans l_k
  have m_k := (hw3.block _ (Array.getElem?_eq_some_iff.1 m_k).1).trans m_k
  have o_k := (hw3.block _ (Array.getElem?_eq_some_iff.1 o_k).1).trans o_k
  have a_k := (hw3.block _ (Array.getElem?_eq_some_iff.1 a_k).1).trans a_k
  have a_D := a_D.keeps hw3
  have b_k := (hw3.block _ (Array.getElem?_eq_some_iff.1 b_k).1).trans b_k
  have b_D := b_D.keeps hw3
  have hb3 := bel_trans hb3' hw3
  have l_k := heap_past (.cells #[.bool c_g, .slice c_o c_n c_c, .int .i64 c_e] 31) l_k
  have m_k := heap_past (.cells #[.bool c_g, .slice c_o c_n c_c, .int .i64 c_e] 31) m_k
  have o_k := heap_past (.cells #[.bool c_g, .slice c_o c_n c_c, .int .i64 c_e] 31) o_k
  have a_k := heap_past (.cells #[.bool c_g, .slice c_o c_n c_c, .int .i64 c_e] 31) a_k
  have b_k := heap_past (.cells #[.bool c_g, .slice c_o c_n c_c, .int .i64 c_e] 31) b_k
  have c_k := heap_a1 y3 (.cells #[.bool c_g, .slice c_o c_n c_c, .int .i64 c_e] 31)
  have a_D := a_D.keeps (bel_alloc y3 (.cells #[.bool c_g, .slice c_o c_n c_c, .int .i64 c_e] 31))
  have b_D := b_D.keeps (bel_alloc y3 (.cells #[.bool c_g, .slice c_o c_n c_c, .int .i64 c_e] 31))
  have c_D := c_D.keeps (bel_alloc y3 (.cells #[.bool c_g, .slice c_o c_n c_c, .int .i64 c_e] 31))
  have hb4' := bel_trans hb3 (bel_alloc y3 (.cells #[.bool c_g, .slice c_o c_n c_c, .int .i64 c_e] 31))
  have f_a0 := blkC a_k 0 rfl
  have f_a1 := blkC a_k 1 rfl
  have f_a2 := blkC a_k 2 rfl
  have f_b0 := blkC b_k 0 rfl
  have f_b1 := blkC b_k 1 rfl
  have f_b2 := blkC b_k 2 rfl
  go_wp2_with fail
  clear f_a0 f_a1 f_a2 f_b0 f_b1 f_b2
  generalize y3.alloc (.cells #[.bool c_g, .slice c_o c_n c_c, .int .i64 c_e] 31) = x4 at l_k m_k o_k a_k b_k c_k a_D b_D c_D hb4' ⊢
  refine (add_B a_D b_D a_B b_B (by omega) (H.tab.keeps hb4')).mono ?_
  rintro _ y4 ⟨v, rfl, h4⟩
  obtain ⟨s_g, s_o, s_n, s_c, s_e, rfl⟩ := dans_shape h4
  have hw4 := h4.below
  have s_D := h4.num
  have l_k := (hw4.block _ (Array.getElem?_eq_some_iff.1 l_k).1).trans l_k
  have m_k := (hw4.block _ (Array.getElem?_eq_some_iff.1 m_k).1).trans m_k
  have o_k := (hw4.block _ (Array.getElem?_eq_some_iff.1 o_k).1).trans o_k
  have a_k := (hw4.block _ (Array.getElem?_eq_some_iff.1 a_k).1).trans a_k
  have a_D := a_D.keeps hw4
  have b_k := (hw4.block _ (Array.getElem?_eq_some_iff.1 b_k).1).trans b_k
  have b_D := b_D.keeps hw4
  have c_k := (hw4.block _ (Array.getElem?_eq_some_iff.1 c_k).1).trans c_k
  have c_D := c_D.keeps hw4
  have hb4 := bel_trans hb4' hw4
  have s_B := a_B.add b_B (by omega)
  obtain ⟨s_V, s_F⟩ : ∃ V, V = a_V + b_V := ⟨_, rfl⟩
  rw [← s_F] at s_B s_D
  have s_E : Hid (s_V = a_V + b_V) := s_F
  clear s_F
  have l_k := heap_past (.cells #[.bool s_g, .slice s_o s_n s_c, .int .i64 s_e] 31) l_k
  have m_k := heap_past (.cells #[.bool s_g, .slice s_o s_n s_c, .int .i64 s_e] 31) m_k
  have o_k := heap_past (.cells #[.bool s_g, .slice s_o s_n s_c, .int .i64 s_e] 31) o_k
  have a_k := heap_past (.cells #[.bool s_g, .slice s_o s_n s_c, .int .i64 s_e] 31) a_k
  have b_k := heap_past (.cells #[.bool s_g, .slice s_o s_n s_c, .int .i64 s_e] 31) b_k
  have c_k := heap_past (.cells #[.bool s_g, .slice s_o s_n s_c, .int .i64 s_e] 31) c_k
  have s_k := heap_a1 y4 (.cells #[.bool s_g, .slice s_o s_n s_c, .int .i64 s_e] 31)
  have a_D := a_D.keeps (bel_alloc y4 (.cells #[.bool s_g, .slice s_o s_n s_c, .int .i64 s_e] 31))
  have b_D := b_D.keeps (bel_alloc y4 (.cells #[.bool s_g, .slice s_o s_n s_c, .int .i64 s_e] 31))
  have c_D := c_D.keeps (bel_alloc y4 (.cells #[.bool s_g, .slice s_o s_n s_c, .int .i64 s_e] 31))
  have s_D := s_D.keeps (bel_alloc y4 (.cells #[.bool s_g, .slice s_o s_n s_c, .int .i64 s_e] 31))
  have hb5' := bel_trans hb4 (bel_alloc y4 (.cells #[.bool s_g, .slice s_o s_n s_c, .int .i64 s_e] 31))
  have f_b0 := blkC b_k 0 rfl
  have f_b1 := blkC b_k 1 rfl
  have f_b2 := blkC b_k 2 rfl
  have f_a0 := blkC a_k 0 rfl
  have f_a1 := blkC a_k 1 rfl
  have f_a2 := blkC a_k 2 rfl
  go_wp2_with fail
  clear f_b0 f_b1 f_b2 f_a0 f_a1 f_a2
  generalize y4.alloc (.cells #[.bool s_g, .slice s_o s_n s_c, .int .i64 s_e] 31) = x5 at l_k m_k o_k a_k b_k c_k s_k a_D b_D c_D s_D hb5' ⊢
  refine (add_B b_D a_D b_B a_B (by omega) (H.tab.keeps hb5')).mono ?_
  rintro _ y5 ⟨v, rfl, h5⟩
  obtain ⟨t_g, t_o, t_n, t_c, t_e, rfl⟩ := dans_shape h5
  have hw5 := h5.below
  have t_D := h5.num
  have l_k := (hw5.block _ (Array.getElem?_eq_some_iff.1 l_k).1).trans l_k
  have m_k := (hw5.block _ (Array.getElem?_eq_some_iff.1 m_k).1).trans m_k
  have o_k := (hw5.block _ (Array.getElem?_eq_some_iff.1 o_k).1).trans o_k
  have a_k := (hw5.block _ (Array.getElem?_eq_some_iff.1 a_k).1).trans a_k
  have a_D := a_D.keeps hw5
  have b_k := (hw5.block _ (Array.getElem?_eq_some_iff.1 b_k).1).trans b_k
  have b_D := b_D.keeps hw5
  have c_k := (hw5.block _ (Array.getElem?_eq_some_iff.1 c_k).1).trans c_k
  have c_D := c_D.keeps hw5
  have s_k := (hw5.block _ (Array.getElem?_eq_some_iff.1 s_k).1).trans s_k
  have s_D := s_D.keeps hw5
  have hb5 := bel_trans hb5' hw5
  have t_B := b_B.add a_B (by omega)
  obtain ⟨t_V, t_F⟩ : ∃ V, V = b_V + a_V := ⟨_, rfl⟩
  rw [← t_F] at t_B t_D
  have t_E : Hid (t_V = b_V + a_V) := t_F
  clear t_F
  have l_k := heap_past (.cells #[.bool t_g, .slice t_o t_n t_c, .int .i64 t_e] 31) l_k
  have m_k := heap_past (.cells #[.bool t_g, .slice t_o t_n t_c, .int .i64 t_e] 31) m_k
  have o_k := heap_past (.cells #[.bool t_g, .slice t_o t_n t_c, .int .i64 t_e] 31) o_k
  have a_k := heap_past (.cells #[.bool t_g, .slice t_o t_n t_c, .int .i64 t_e] 31) a_k
  have b_k := heap_past (.cells #[.bool t_g, .slice t_o t_n t_c, .int .i64 t_e] 31) b_k
  have c_k := heap_past (.cells #[.bool t_g, .slice t_o t_n t_c, .int .i64 t_e] 31) c_k
  have s_k := heap_past (.cells #[.bool t_g, .slice t_o t_n t_c, .int .i64 t_e] 31) s_k
  have t_k := heap_a1 y5 (.cells #[.bool t_g, .slice t_o t_n t_c, .int .i64 t_e] 31)
  have a_D := a_D.keeps (bel_alloc y5 (.cells #[.bool t_g, .slice t_o t_n t_c, .int .i64 t_e] 31))
  have b_D := b_D.keeps (bel_alloc y5 (.cells #[.bool t_g, .slice t_o t_n t_c, .int .i64 t_e] 31))
  have c_D := c_D.keeps (bel_alloc y5 (.cells #[.bool t_g, .slice t_o t_n t_c, .int .i64 t_e] 31))
  have s_D := s_D.keeps (bel_alloc y5 (.cells #[.bool t_g, .slice t_o t_n t_c, .int .i64 t_e] 31))
  have t_D := t_D.keeps (bel_alloc y5 (.cells #[.bool t_g, .slice t_o t_n t_c, .int .i64 t_e] 31))
  have hb6' := bel_trans hb5 (bel_alloc y5 (.cells #[.bool t_g, .slice t_o t_n t_c, .int .i64 t_e] 31))
  have f_s0 := blkC s_k 0 rfl
  have f_s1 := blkC s_k 1 rfl
  have f_s2 := blkC s_k 2 rfl
  have f_c0 := blkC c_k 0 rfl
  have f_c1 := blkC c_k 1 rfl
  have f_c2 := blkC c_k 2 rfl
  go_wp2_with fail
  clear f_s0 f_s1 f_s2 f_c0 f_c1 f_c2
  generalize y5.alloc (.cells #[.bool t_g, .slice t_o t_n t_c, .int .i64 t_e] 31) = x6 at l_k m_k o_k a_k b_k c_k s_k t_k a_D b_D c_D s_D t_D hb6' ⊢
  refine (add_B s_D c_D s_B (c_B.up (show 4000 ≤ 4001 by omega) (by omega)) (by omega) (H.tab.keeps hb6')).mono ?_
  rintro _ y6 ⟨v, rfl, h6⟩
  obtain ⟨u_g, u_o, u_n, u_c, u_e, rfl⟩ := dans_shape h6
  have hw6 := h6.below
  have u_D := h6.num
  have l_k := (hw6.block _ (Array.getElem?_eq_some_iff.1 l_k).1).trans l_k
  have m_k := (hw6.block _ (Array.getElem?_eq_some_iff.1 m_k).1).trans m_k
  have o_k := (hw6.block _ (Array.getElem?_eq_some_iff.1 o_k).1).trans o_k
  have a_k := (hw6.block _ (Array.getElem?_eq_some_iff.1 a_k).1).trans a_k
  have a_D := a_D.keeps hw6
  have b_k := (hw6.block _ (Array.getElem?_eq_some_iff.1 b_k).1).trans b_k
  have b_D := b_D.keeps hw6
  have c_k := (hw6.block _ (Array.getElem?_eq_some_iff.1 c_k).1).trans c_k
  have c_D := c_D.keeps hw6
  have s_k := (hw6.block _ (Array.getElem?_eq_some_iff.1 s_k).1).trans s_k
  have s_D := s_D.keeps hw6
  have t_k := (hw6.block _ (Array.getElem?_eq_some_iff.1 t_k).1).trans t_k
  have t_D := t_D.keeps hw6
  have hb6 := bel_trans hb6' hw6
  have u_B := s_B.add (c_B.up (show 4000 ≤ 4001 by omega) (by omega)) (by omega)
  obtain ⟨u_V, u_F⟩ : ∃ V, V = s_V + c_V := ⟨_, rfl⟩
  rw [← u_F] at u_B u_D
  have u_E : Hid (u_V = s_V + c_V) := u_F
  clear u_F
  have l_k := heap_past (.cells #[.bool u_g, .slice u_o u_n u_c, .int .i64 u_e] 31) l_k
  have m_k := heap_past (.cells #[.bool u_g, .slice u_o u_n u_c, .int .i64 u_e] 31) m_k
  have o_k := heap_past (.cells #[.bool u_g, .slice u_o u_n u_c, .int .i64 u_e] 31) o_k
  have a_k := heap_past (.cells #[.bool u_g, .slice u_o u_n u_c, .int .i64 u_e] 31) a_k
  have b_k := heap_past (.cells #[.bool u_g, .slice u_o u_n u_c, .int .i64 u_e] 31) b_k
  have c_k := heap_past (.cells #[.bool u_g, .slice u_o u_n u_c, .int .i64 u_e] 31) c_k
  have s_k := heap_past (.cells #[.bool u_g, .slice u_o u_n u_c, .int .i64 u_e] 31) s_k
  have t_k := heap_past (.cells #[.bool u_g, .slice u_o u_n u_c, .int .i64 u_e] 31) t_k
  have u_k := heap_a1 y6 (.cells #[.bool u_g, .slice u_o u_n u_c, .int .i64 u_e] 31)
  have a_D := a_D.keeps (bel_alloc y6 (.cells #[.bool u_g, .slice u_o u_n u_c, .int .i64 u_e] 31))
  have b_D := b_D.keeps (bel_alloc y6 (.cells #[.bool u_g, .slice u_o u_n u_c, .int .i64 u_e] 31))
  have c_D := c_D.keeps (bel_alloc y6 (.cells #[.bool u_g, .slice u_o u_n u_c, .int .i64 u_e] 31))
  have s_D := s_D.keeps (bel_alloc y6 (.cells #[.bool u_g, .slice u_o u_n u_c, .int .i64 u_e] 31))
  have t_D := t_D.keeps (bel_alloc y6 (.cells #[.bool u_g, .slice u_o u_n u_c, .int .i64 u_e] 31))
  have u_D := u_D.keeps (bel_alloc y6 (.cells #[.bool u_g, .slice u_o u_n u_c, .int .i64 u_e] 31))
  have hb7' := bel_trans hb6 (bel_alloc y6 (.cells #[.bool u_g, .slice u_o u_n u_c, .int .i64 u_e] 31))
  have f_b0 := blkC b_k 0 rfl
  have f_b1 := blkC b_k 1 rfl
  have f_b2 := blkC b_k 2 rfl
  have f_c0 := blkC c_k 0 rfl
  have f_c1 := blkC c_k 1 rfl
  have f_c2 := blkC c_k 2 rfl
  go_wp2_with fail
  clear f_b0 f_b1 f_b2 f_c0 f_c1 f_c2
  generalize y6.alloc (.cells #[.bool u_g, .slice u_o u_n u_c, .int .i64 u_e] 31) = x7 at l_k m_k o_k a_k b_k c_k s_k t_k u_k a_D b_D c_D s_D t_D u_D hb7' ⊢
  refine (add_B b_D c_D b_B c_B (by omega) (H.tab.keeps hb7')).mono ?_
  rintro _ y7 ⟨v, rfl, h7⟩
  obtain ⟨v_g, v_o, v_n, v_c, v_e, rfl⟩ := dans_shape h7
  have hw7 := h7.below
  have v_D := h7.num
  have l_k := (hw7.block _ (Array.getElem?_eq_some_iff.1 l_k).1).trans l_k
  have m_k := (hw7.block _ (Array.getElem?_eq_some_iff.1 m_k).1).trans m_k
  have o_k := (hw7.block _ (Array.getElem?_eq_some_iff.1 o_k).1).trans o_k
  have a_k := (hw7.block _ (Array.getElem?_eq_some_iff.1 a_k).1).trans a_k
  have a_D := a_D.keeps hw7
  have b_k := (hw7.block _ (Array.getElem?_eq_some_iff.1 b_k).1).trans b_k
  have b_D := b_D.keeps hw7
  have c_k := (hw7.block _ (Array.getElem?_eq_some_iff.1 c_k).1).trans c_k
  have c_D := c_D.keeps hw7
  have s_k := (hw7.block _ (Array.getElem?_eq_some_iff.1 s_k).1).trans s_k
  have s_D := s_D.keeps hw7
  have t_k := (hw7.block _ (Array.getElem?_eq_some_iff.1 t_k).1).trans t_k
  have t_D := t_D.keeps hw7
  have u_k := (hw7.block _ (Array.getElem?_eq_some_iff.1 u_k).1).trans u_k
  have u_D := u_D.keeps hw7
  have hb7 := bel_trans hb7' hw7
  have v_B := b_B.add c_B (by omega)
  obtain ⟨v_V, v_F⟩ : ∃ V, V = b_V + c_V := ⟨_, rfl⟩
  rw [← v_F] at v_B v_D
  have v_E : Hid (v_V = b_V + c_V) := v_F
  clear v_F
  have l_k := heap_past (.cells #[.bool v_g, .slice v_o v_n v_c, .int .i64 v_e] 31) l_k
  have m_k := heap_past (.cells #[.bool v_g, .slice v_o v_n v_c, .int .i64 v_e] 31) m_k
  have o_k := heap_past (.cells #[.bool v_g, .slice v_o v_n v_c, .int .i64 v_e] 31) o_k
  have a_k := heap_past (.cells #[.bool v_g, .slice v_o v_n v_c, .int .i64 v_e] 31) a_k
  have b_k := heap_past (.cells #[.bool v_g, .slice v_o v_n v_c, .int .i64 v_e] 31) b_k
  have c_k := heap_past (.cells #[.bool v_g, .slice v_o v_n v_c, .int .i64 v_e] 31) c_k
  have s_k := heap_past (.cells #[.bool v_g, .slice v_o v_n v_c, .int .i64 v_e] 31) s_k
  have t_k := heap_past (.cells #[.bool v_g, .slice v_o v_n v_c, .int .i64 v_e] 31) t_k
  have u_k := heap_past (.cells #[.bool v_g, .slice v_o v_n v_c, .int .i64 v_e] 31) u_k
  have v_k := heap_a1 y7 (.cells #[.bool v_g, .slice v_o v_n v_c, .int .i64 v_e] 31)
  have a_D := a_D.keeps (bel_alloc y7 (.cells #[.bool v_g, .slice v_o v_n v_c, .int .i64 v_e] 31))
  have b_D := b_D.keeps (bel_alloc y7 (.cells #[.bool v_g, .slice v_o v_n v_c, .int .i64 v_e] 31))
  have c_D := c_D.keeps (bel_alloc y7 (.cells #[.bool v_g, .slice v_o v_n v_c, .int .i64 v_e] 31))
  have s_D := s_D.keeps (bel_alloc y7 (.cells #[.bool v_g, .slice v_o v_n v_c, .int .i64 v_e] 31))
  have t_D := t_D.keeps (bel_alloc y7 (.cells #[.bool v_g, .slice v_o v_n v_c, .int .i64 v_e] 31))
  have u_D := u_D.keeps (bel_alloc y7 (.cells #[.bool v_g, .slice v_o v_n v_c, .int .i64 v_e] 31))
  have v_D := v_D.keeps (bel_alloc y7 (.cells #[.bool v_g, .slice v_o v_n v_c, .int .i64 v_e] 31))
  have hb8' := bel_trans hb7 (bel_alloc y7 (.cells #[.bool v_g, .slice v_o v_n v_c, .int .i64 v_e] 31))
  have f_a0 := blkC a_k 0 rfl
  have f_a1 := blkC a_k 1 rfl
  have f_a2 := blkC a_k 2 rfl
  go_wp2_with fail
  clear f_a0 f_a1 f_a2
  generalize y7.alloc (.cells #[.bool v_g, .slice v_o v_n v_c, .int .i64 v_e] 31) = x8 at l_k m_k o_k a_k b_k c_k s_k t_k u_k v_k a_D b_D c_D s_D t_D u_D v_D hb8' ⊢
  refine (add_B a_D v_D (a_B.up (show 4000 ≤ 4001 by omega) (by omega)) v_B (by omega) (H.tab.keeps hb8')).mono ?_
  rintro _ y8 ⟨v, rfl, h8⟩
  obtain ⟨w__g, w__o, w__n, w__c, w__e, rfl⟩ := dans_shape h8
  have hw8 := h8.below
  have w__D := h8.num
  have l_k := (hw8.block _ (Array.getElem?_eq_some_iff.1 l_k).1).trans l_k
  have m_k := (hw8.block _ (Array.getElem?_eq_some_iff.1 m_k).1).trans m_k
  have o_k := (hw8.block _ (Array.getElem?_eq_some_iff.1 o_k).1).trans o_k
  have a_k := (hw8.block _ (Array.getElem?_eq_some_iff.1 a_k).1).trans a_k
  have a_D := a_D.keeps hw8
  have b_k := (hw8.block _ (Array.getElem?_eq_some_iff.1 b_k).1).trans b_k
  have b_D := b_D.keeps hw8
  have c_k := (hw8.block _ (Array.getElem?_eq_some_iff.1 c_k).1).trans c_k
  have c_D := c_D.keeps hw8
  have s_k := (hw8.block _ (Array.getElem?_eq_some_iff.1 s_k).1).trans s_k
  have s_D := s_D.keeps hw8
  have t_k := (hw8.block _ (Array.getElem?_eq_some_iff.1 t_k).1).trans t_k
  have t_D := t_D.keeps hw8
  have u_k := (hw8.block _ (Array.getElem?_eq_some_iff.1 u_k).1).trans u_k
  have u_D := u_D.keeps hw8
  have v_k := (hw8.block _ (Array.getElem?_eq_some_iff.1 v_k).1).trans v_k
  have v_D := v_D.keeps hw8
  have hb8 := bel_trans hb8' hw8
  have w__B := (a_B.up (show 4000 ≤ 4001 by omega) (by omega)).add v_B (by omega)
  obtain ⟨w__V, w__F⟩ : ∃ V, V = a_V + v_V := ⟨_, rfl⟩
  rw [← w__F] at w__B w__D
  have w__E : Hid (w__V = a_V + v_V) := w__F
  clear w__F
  have l_k := heap_past (.cells #[.bool w__g, .slice w__o w__n w__c, .int .i64 w__e] 31) l_k
  have m_k := heap_past (.cells #[.bool w__g, .slice w__o w__n w__c, .int .i64 w__e] 31) m_k
  have o_k := heap_past (.cells #[.bool w__g, .slice w__o w__n w__c, .int .i64 w__e] 31) o_k
  have a_k := heap_past (.cells #[.bool w__g, .slice w__o w__n w__c, .int .i64 w__e] 31) a_k
  have b_k := heap_past (.cells #[.bool w__g, .slice w__o w__n w__c, .int .i64 w__e] 31) b_k
  have c_k := heap_past (.cells #[.bool w__g, .slice w__o w__n w__c, .int .i64 w__e] 31) c_k
  have s_k := heap_past (.cells #[.bool w__g, .slice w__o w__n w__c, .int .i64 w__e] 31) s_k
  have t_k := heap_past (.cells #[.bool w__g, .slice w__o w__n w__c, .int .i64 w__e] 31) t_k
  have u_k := heap_past (.cells #[.bool w__g, .slice w__o w__n w__c, .int .i64 w__e] 31) u_k
  have v_k := heap_past (.cells #[.bool w__g, .slice w__o w__n w__c, .int .i64 w__e] 31) v_k
  have w__k := heap_a1 y8 (.cells #[.bool w__g, .slice w__o w__n w__c, .int .i64 w__e] 31)
  have a_D := a_D.keeps (bel_alloc y8 (.cells #[.bool w__g, .slice w__o w__n w__c, .int .i64 w__e] 31))
  have b_D := b_D.keeps (bel_alloc y8 (.cells #[.bool w__g, .slice w__o w__n w__c, .int .i64 w__e] 31))
  have c_D := c_D.keeps (bel_alloc y8 (.cells #[.bool w__g, .slice w__o w__n w__c, .int .i64 w__e] 31))
  have s_D := s_D.keeps (bel_alloc y8 (.cells #[.bool w__g, .slice w__o w__n w__c, .int .i64 w__e] 31))
  have t_D := t_D.keeps (bel_alloc y8 (.cells #[.bool w__g, .slice w__o w__n w__c, .int .i64 w__e] 31))
  have u_D := u_D.keeps (bel_alloc y8 (.cells #[.bool w__g, .slice w__o w__n w__c, .int .i64 w__e] 31))
  have v_D := v_D.keeps (bel_alloc y8 (.cells #[.bool w__g, .slice w__o w__n w__c, .int .i64 w__e] 31))
  have w__D := w__D.keeps (bel_alloc y8 (.cells #[.bool w__g, .slice w__o w__n w__c, .int .i64 w__e] 31))
  have hb9' := bel_trans hb8 (bel_alloc y8 (.cells #[.bool w__g, .slice w__o w__n w__c, .int .i64 w__e] 31))
  have f_s0 := blkC s_k 0 rfl
  have f_s1 := blkC s_k 1 rfl
  have f_s2 := blkC s_k 2 rfl
  have f_b0 := blkC b_k 0 rfl
  have f_b1 := blkC b_k 1 rfl
  have f_b2 := blkC b_k 2 rfl
  go_wp2_with fail
  clear f_s0 f_s1 f_s2 f_b0 f_b1 f_b2
  generalize y8.alloc (.cells #[.bool w__g, .slice w__o w__n w__c, .int .i64 w__e] 31) = x9 at l_k m_k o_k a_k b_k c_k s_k t_k u_k v_k w__k a_D b_D c_D s_D t_D u_D v_D w__D hb9' ⊢
  refine (sub_B s_D b_D s_B (b_B.up (show 4000 ≤ 4001 by omega) (by omega)) (by omega) (H.tab.keeps hb9')).mono ?_
  rintro _ y9 ⟨v, rfl, h9⟩
  obtain ⟨d_g, d_o, d_n, d_c, d_e, rfl⟩ := dans_shape h9
  have hw9 := h9.below
  have d_D := h9.num
  have l_k := (hw9.block _ (Array.getElem?_eq_some_iff.1 l_k).1).trans l_k
  have m_k := (hw9.block _ (Array.getElem?_eq_some_iff.1 m_k).1).trans m_k
  have o_k := (hw9.block _ (Array.getElem?_eq_some_iff.1 o_k).1).trans o_k
  have a_k := (hw9.block _ (Array.getElem?_eq_some_iff.1 a_k).1).trans a_k
  have a_D := a_D.keeps hw9
  have b_k := (hw9.block _ (Array.getElem?_eq_some_iff.1 b_k).1).trans b_k
  have b_D := b_D.keeps hw9
  have c_k := (hw9.block _ (Array.getElem?_eq_some_iff.1 c_k).1).trans c_k
  have c_D := c_D.keeps hw9
  have s_k := (hw9.block _ (Array.getElem?_eq_some_iff.1 s_k).1).trans s_k
  have s_D := s_D.keeps hw9
  have t_k := (hw9.block _ (Array.getElem?_eq_some_iff.1 t_k).1).trans t_k
  have t_D := t_D.keeps hw9
  have u_k := (hw9.block _ (Array.getElem?_eq_some_iff.1 u_k).1).trans u_k
  have u_D := u_D.keeps hw9
  have v_k := (hw9.block _ (Array.getElem?_eq_some_iff.1 v_k).1).trans v_k
  have v_D := v_D.keeps hw9
  have w__k := (hw9.block _ (Array.getElem?_eq_some_iff.1 w__k).1).trans w__k
  have w__D := w__D.keeps hw9
  have hb9 := bel_trans hb9' hw9
  have d_B := s_B.add (b_B.up (show 4000 ≤ 4001 by omega) (by omega)).neg (by omega)
  rw [← Int.sub_eq_add_neg] at d_B
  obtain ⟨d_V, d_F⟩ : ∃ V, V = s_V - b_V := ⟨_, rfl⟩
  rw [← d_F] at d_B d_D
  have d_E : Hid (d_V = s_V - b_V) := d_F
  clear d_F
  have l_k := heap_past (.cells #[.bool d_g, .slice d_o d_n d_c, .int .i64 d_e] 31) l_k
  have m_k := heap_past (.cells #[.bool d_g, .slice d_o d_n d_c, .int .i64 d_e] 31) m_k
  have o_k := heap_past (.cells #[.bool d_g, .slice d_o d_n d_c, .int .i64 d_e] 31) o_k
  have a_k := heap_past (.cells #[.bool d_g, .slice d_o d_n d_c, .int .i64 d_e] 31) a_k
  have b_k := heap_past (.cells #[.bool d_g, .slice d_o d_n d_c, .int .i64 d_e] 31) b_k
  have c_k := heap_past (.cells #[.bool d_g, .slice d_o d_n d_c, .int .i64 d_e] 31) c_k
  have s_k := heap_past (.cells #[.bool d_g, .slice d_o d_n d_c, .int .i64 d_e] 31) s_k
  have t_k := heap_past (.cells #[.bool d_g, .slice d_o d_n d_c, .int .i64 d_e] 31) t_k
  have u_k := heap_past (.cells #[.bool d_g, .slice d_o d_n d_c, .int .i64 d_e] 31) u_k
  have v_k := heap_past (.cells #[.bool d_g, .slice d_o d_n d_c, .int .i64 d_e] 31) v_k
  have w__k := heap_past (.cells #[.bool d_g, .slice d_o d_n d_c, .int .i64 d_e] 31) w__k
  have d_k := heap_a1 y9 (.cells #[.bool d_g, .slice d_o d_n d_c, .int .i64 d_e] 31)
  have a_D := a_D.keeps (bel_alloc y9 (.cells #[.bool d_g, .slice d_o d_n d_c, .int .i64 d_e] 31))
  have b_D := b_D.keeps (bel_alloc y9 (.cells #[.bool d_g, .slice d_o d_n d_c, .int .i64 d_e] 31))
  have c_D := c_D.keeps (bel_alloc y9 (.cells #[.bool d_g, .slice d_o d_n d_c, .int .i64 d_e] 31))
  have s_D := s_D.keeps (bel_alloc y9 (.cells #[.bool d_g, .slice d_o d_n d_c, .int .i64 d_e] 31))
  have t_D := t_D.keeps (bel_alloc y9 (.cells #[.bool d_g, .slice d_o d_n d_c, .int .i64 d_e] 31))
  have u_D := u_D.keeps (bel_alloc y9 (.cells #[.bool d_g, .slice d_o d_n d_c, .int .i64 d_e] 31))
  have v_D := v_D.keeps (bel_alloc y9 (.cells #[.bool d_g, .slice d_o d_n d_c, .int .i64 d_e] 31))
  have w__D := w__D.keeps (bel_alloc y9 (.cells #[.bool d_g, .slice d_o d_n d_c, .int .i64 d_e] 31))
  have d_D := d_D.keeps (bel_alloc y9 (.cells #[.bool d_g, .slice d_o d_n d_c, .int .i64 d_e] 31))
  have hb10' := bel_trans hb9 (bel_alloc y9 (.cells #[.bool d_g, .slice d_o d_n d_c, .int .i64 d_e] 31))
  have f_a0 := blkC a_k 0 rfl
  have f_a1 := blkC a_k 1 rfl
  have f_a2 := blkC a_k 2 rfl
  have f_b0 := blkC b_k 0 rfl
  have f_b1 := blkC b_k 1 rfl
  have f_b2 := blkC b_k 2 rfl
  go_wp2_with fail
  clear f_a0 f_a1 f_a2 f_b0 f_b1 f_b2
  generalize y9.alloc (.cells #[.bool d_g, .slice d_o d_n d_c, .int .i64 d_e] 31) = x10 at l_k m_k o_k a_k b_k c_k s_k t_k u_k v_k w__k d_k a_D b_D c_D s_D t_D u_D v_D w__D d_D hb10' ⊢
  refine (mul_B a_D b_D a_B b_B (by omega) (H.tab.keeps hb10')).mono ?_
  rintro _ y10 ⟨v, p_V, rfl, h10, p_E, p_B⟩
  obtain ⟨p_g, p_o, p_n, p_c, p_e, rfl⟩ := dans_shape h10
  have hw10 := h10.below
  have p_D := h10.num
  have l_k := (hw10.block _ (Array.getElem?_eq_some_iff.1 l_k).1).trans l_k
  have m_k := (hw10.block _ (Array.getElem?_eq_some_iff.1 m_k).1).trans m_k
  have o_k := (hw10.block _ (Array.getElem?_eq_some_iff.1 o_k).1).trans o_k
  have a_k := (hw10.block _ (Array.getElem?_eq_some_iff.1 a_k).1).trans a_k
  have a_D := a_D.keeps hw10
  have b_k := (hw10.block _ (Array.getElem?_eq_some_iff.1 b_k).1).trans b_k
  have b_D := b_D.keeps hw10
  have c_k := (hw10.block _ (Array.getElem?_eq_some_iff.1 c_k).1).trans c_k
  have c_D := c_D.keeps hw10
  have s_k := (hw10.block _ (Array.getElem?_eq_some_iff.1 s_k).1).trans s_k
  have s_D := s_D.keeps hw10
  have t_k := (hw10.block _ (Array.getElem?_eq_some_iff.1 t_k).1).trans t_k
  have t_D := t_D.keeps hw10
  have u_k := (hw10.block _ (Array.getElem?_eq_some_iff.1 u_k).1).trans u_k
  have u_D := u_D.keeps hw10
  have v_k := (hw10.block _ (Array.getElem?_eq_some_iff.1 v_k).1).trans v_k
  have v_D := v_D.keeps hw10
  have w__k := (hw10.block _ (Array.getElem?_eq_some_iff.1 w__k).1).trans w__k
  have w__D := w__D.keeps hw10
  have d_k := (hw10.block _ (Array.getElem?_eq_some_iff.1 d_k).1).trans d_k
  have d_D := d_D.keeps hw10
  have hb10 := bel_trans hb10' hw10
  have p_B : Bd 8000 p_V := p_B
  have l_k := heap_past (.cells #[.bool p_g, .slice p_o p_n p_c, .int .i64 p_e] 31) l_k
  have m_k := heap_past (.cells #[.bool p_g, .slice p_o p_n p_c, .int .i64 p_e] 31) m_k
  have o_k := heap_past (.cells #[.bool p_g, .slice p_o p_n p_c, .int .i64 p_e] 31) o_k
  have a_k := heap_past (.cells #[.bool p_g, .slice p_o p_n p_c, .int .i64 p_e] 31) a_k
  have b_k := heap_past (.cells #[.bool p_g, .slice p_o p_n p_c, .int .i64 p_e] 31) b_k
  have c_k := heap_past (.cells #[.bool p_g, .slice p_o p_n p_c, .int .i64 p_e] 31) c_k
  have s_k := heap_past (.cells #[.bool p_g, .slice p_o p_n p_c, .int .i64 p_e] 31) s_k
  have t_k := heap_past (.cells #[.bool p_g, .slice p_o p_n p_c, .int .i64 p_e] 31) t_k
  have u_k := heap_past (.cells #[.bool p_g, .slice p_o p_n p_c, .int .i64 p_e] 31) u_k
  have v_k := heap_past (.cells #[.bool p_g, .slice p_o p_n p_c, .int .i64 p_e] 31) v_k
  have w__k := heap_past (.cells #[.bool p_g, .slice p_o p_n p_c, .int .i64 p_e] 31) w__k
  have d_k := heap_past (.cells #[.bool p_g, .slice p_o p_n p_c, .int .i64 p_e] 31) d_k
  have p_k := heap_a1 y10 (.cells #[.bool p_g, .slice p_o p_n p_c, .int .i64 p_e] 31)
  have a_D := a_D.keeps (bel_alloc y10 (.cells #[.bool p_g, .slice p_o p_n p_c, .int .i64 p_e] 31))
  have b_D := b_D.keeps (bel_alloc y10 (.cells #[.bool p_g, .slice p_o p_n p_c, .int .i64 p_e] 31))
  have c_D := c_D.keeps (bel_alloc y10 (.cells #[.bool p_g, .slice p_o p_n p_c, .int .i64 p_e] 31))
  have s_D := s_D.keeps (bel_alloc y10 (.cells #[.bool p_g, .slice p_o p_n p_c, .int .i64 p_e] 31))
  have t_D := t_D.keeps (bel_alloc y10 (.cells #[.bool p_g, .slice p_o p_n p_c, .int .i64 p_e] 31))
  have u_D := u_D.keeps (bel_alloc y10 (.cells #[.bool p_g, .slice p_o p_n p_c, .int .i64 p_e] 31))
  have v_D := v_D.keeps (bel_alloc y10 (.cells #[.bool p_g, .slice p_o p_n p_c, .int .i64 p_e] 31))
  have w__D := w__D.keeps (bel_alloc y10 (.cells #[.bool p_g, .slice p_o p_n p_c, .int .i64 p_e] 31))
  have d_D := d_D.keeps (bel_alloc y10 (.cells #[.bool p_g, .slice p_o p_n p_c, .int .i64 p_e] 31))
  have p_D := p_D.keeps (bel_alloc y10 (.cells #[.bool p_g, .slice p_o p_n p_c, .int .i64 p_e] 31))
  have hb11' := bel_trans hb10 (bel_alloc y10 (.cells #[.bool p_g, .slice p_o p_n p_c, .int .i64 p_e] 31))
  have f_b0 := blkC b_k 0 rfl
  have f_b1 := blkC b_k 1 rfl
  have f_b2 := blkC b_k 2 rfl
  have f_a0 := blkC a_k 0 rfl
  have f_a1 := blkC a_k 1 rfl
  have f_a2 := blkC a_k 2 rfl
  go_wp2_with fail
  clear f_b0 f_b1 f_b2 f_a0 f_a1 f_a2
  generalize y10.alloc (.cells #[.bool p_g, .slice p_o p_n p_c, .int .i64 p_e] 31) = x11 at l_k m_k o_k a_k b_k c_k s_k t_k u_k v_k w__k d_k p_k a_D b_D c_D s_D t_D u_D v_D w__D d_D p_D hb11' ⊢
  refine (mul_B b_D a_D b_B a_B (by omega) (H.tab.keeps hb11')).mono ?_
  rintro _ y11 ⟨v, q_V, rfl, h11, q_E, q_B⟩
  obtain ⟨q_g, q_o, q_n, q_c, q_e, rfl⟩ := dans_shape h11
  have hw11 := h11.below
  have q_D := h11.num
  have l_k := (hw11.block _ (Array.getElem?_eq_some_iff.1 l_k).1).trans l_k
  have m_k := (hw11.block _ (Array.getElem?_eq_some_iff.1 m_k).1).trans m_k
  have o_k := (hw11.block _ (Array.getElem?_eq_some_iff.1 o_k).1).trans o_k
  have a_k := (hw11.block _ (Array.getElem?_eq_some_iff.1 a_k).1).trans a_k
  have a_D := a_D.keeps hw11
  have b_k := (hw11.block _ (Array.getElem?_eq_some_iff.1 b_k).1).trans b_k
  have b_D := b_D.keeps hw11
  have c_k := (hw11.block _ (Array.getElem?_eq_some_iff.1 c_k).1).trans c_k
  have c_D := c_D.keeps hw11
  have s_k := (hw11.block _ (Array.getElem?_eq_some_iff.1 s_k).1).trans s_k
  have s_D := s_D.keeps hw11
  have t_k := (hw11.block _ (Array.getElem?_eq_some_iff.1 t_k).1).trans t_k
  have t_D := t_D.keeps hw11
  have u_k := (hw11.block _ (Array.getElem?_eq_some_iff.1 u_k).1).trans u_k
  have u_D := u_D.keeps hw11
  have v_k := (hw11.block _ (Array.getElem?_eq_some_iff.1 v_k).1).trans v_k
  have v_D := v_D.keeps hw11
  have w__k := (hw11.block _ (Array.getElem?_eq_some_iff.1 w__k).1).trans w__k
  have w__D := w__D.keeps hw11
  have d_k := (hw11.block _ (Array.getElem?_eq_some_iff.1 d_k).1).trans d_k
  have d_D := d_D.keeps hw11
  have p_k := (hw11.block _ (Array.getElem?_eq_some_iff.1 p_k).1).trans p_k
  have p_D := p_D.keeps hw11
  have hb11 := bel_trans hb11' hw11
  have q_B : Bd 8000 q_V := q_B
  have l_k := heap_past (.cells #[.bool q_g, .slice q_o q_n q_c, .int .i64 q_e] 31) l_k
  have m_k := heap_past (.cells #[.bool q_g, .slice q_o q_n q_c, .int .i64 q_e] 31) m_k
  have o_k := heap_past (.cells #[.bool q_g, .slice q_o q_n q_c, .int .i64 q_e] 31) o_k
  have a_k := heap_past (.cells #[.bool q_g, .slice q_o q_n q_c, .int .i64 q_e] 31) a_k
  have b_k := heap_past (.cells #[.bool q_g, .slice q_o q_n q_c, .int .i64 q_e] 31) b_k
  have c_k := heap_past (.cells #[.bool q_g, .slice q_o q_n q_c, .int .i64 q_e] 31) c_k
  have s_k := heap_past (.cells #[.bool q_g, .slice q_o q_n q_c, .int .i64 q_e] 31) s_k
  have t_k := heap_past (.cells #[.bool q_g, .slice q_o q_n q_c, .int .i64 q_e] 31) t_k
  have u_k := heap_past (.cells #[.bool q_g, .slice q_o q_n q_c, .int .i64 q_e] 31) u_k
  have v_k := heap_past (.cells #[.bool q_g, .slice q_o q_n q_c, .int .i64 q_e] 31) v_k
  have w__k := heap_past (.cells #[.bool q_g, .slice q_o q_n q_c, .int .i64 q_e] 31) w__k
  have d_k := heap_past (.cells #[.bool q_g, .slice q_o q_n q_c, .int .i64 q_e] 31) d_k
  have p_k := heap_past (.cells #[.bool q_g, .slice q_o q_n q_c, .int .i64 q_e] 31) p_k
  have q_k := heap_a1 y11 (.cells #[.bool q_g, .slice q_o q_n q_c, .int .i64 q_e] 31)
  have a_D := a_D.keeps (bel_alloc y11 (.cells #[.bool q_g, .slice q_o q_n q_c, .int .i64 q_e] 31))
  have b_D := b_D.keeps (bel_alloc y11 (.cells #[.bool q_g, .slice q_o q_n q_c, .int .i64 q_e] 31))
  have c_D := c_D.keeps (bel_alloc y11 (.cells #[.bool q_g, .slice q_o q_n q_c, .int .i64 q_e] 31))
  have s_D := s_D.keeps (bel_alloc y11 (.cells #[.bool q_g, .slice q_o q_n q_c, .int .i64 q_e] 31))
  have t_D := t_D.keeps (bel_alloc y11 (.cells #[.bool q_g, .slice q_o q_n q_c, .int .i64 q_e] 31))
  have u_D := u_D.keeps (bel_alloc y11 (.cells #[.bool q_g, .slice q_o q_n q_c, .int .i64 q_e] 31))
  have v_D := v_D.keeps (bel_alloc y11 (.cells #[.bool q_g, .slice q_o q_n q_c, .int .i64 q_e] 31))
  have w__D := w__D.keeps (bel_alloc y11 (.cells #[.bool q_g, .slice q_o q_n q_c, .int .i64 q_e] 31))
  have d_D := d_D.keeps (bel_alloc y11 (.cells #[.bool q_g, .slice q_o q_n q_c, .int .i64 q_e] 31))
  have p_D := p_D.keeps (bel_alloc y11 (.cells #[.bool q_g, .slice q_o q_n q_c, .int .i64 q_e] 31))
  have q_D := q_D.keeps (bel_alloc y11 (.cells #[.bool q_g, .slice q_o q_n q_c, .int .i64 q_e] 31))
  have hb12' := bel_trans hb11 (bel_alloc y11 (.cells #[.bool q_g, .slice q_o q_n q_c, .int .i64 q_e] 31))
  have f_a0 := blkC a_k 0 rfl
  have f_a1 := blkC a_k 1 rfl
  have f_a2 := blkC a_k 2 rfl
  have f_c0 := blkC c_k 0 rfl
  have f_c1 := blkC c_k 1 rfl
  have f_c2 := blkC c_k 2 rfl
  go_wp2_with fail
  clear f_a0 f_a1 f_a2 f_c0 f_c1 f_c2
  generalize y11.alloc (.cells #[.bool q_g, .slice q_o q_n q_c, .int .i64 q_e] 31) = x12 at l_k m_k o_k a_k b_k c_k s_k t_k u_k v_k w__k d_k p_k q_k a_D b_D c_D s_D t_D u_D v_D w__D d_D p_D q_D hb12' ⊢
  refine (mul_B a_D c_D a_B c_B (by omega) (H.tab.keeps hb12')).mono ?_
  rintro _ y12 ⟨v, x_V, rfl, h12, x_E, x_B⟩
  obtain ⟨x_g, x_o, x_n, x_c, x_e, rfl⟩ := dans_shape h12
  have hw12 := h12.below
  have x_D := h12.num
  have l_k := (hw12.block _ (Array.getElem?_eq_some_iff.1 l_k).1).trans l_k
  have m_k := (hw12.block _ (Array.getElem?_eq_some_iff.1 m_k).1).trans m_k
  have o_k := (hw12.block _ (Array.getElem?_eq_some_iff.1 o_k).1).trans o_k
  have a_k := (hw12.block _ (Array.getElem?_eq_some_iff.1 a_k).1).trans a_k
  have a_D := a_D.keeps hw12
  have b_k := (hw12.block _ (Array.getElem?_eq_some_iff.1 b_k).1).trans b_k
  have b_D := b_D.keeps hw12
  have c_k := (hw12.block _ (Array.getElem?_eq_some_iff.1 c_k).1).trans c_k
  have c_D := c_D.keeps hw12
  have s_k := (hw12.block _ (Array.getElem?_eq_some_iff.1 s_k).1).trans s_k
  have s_D := s_D.keeps hw12
  have t_k := (hw12.block _ (Array.getElem?_eq_some_iff.1 t_k).1).trans t_k
  have t_D := t_D.keeps hw12
  have u_k := (hw12.block _ (Array.getElem?_eq_some_iff.1 u_k).1).trans u_k
  have u_D := u_D.keeps hw12
  have v_k := (hw12.block _ (Array.getElem?_eq_some_iff.1 v_k).1).trans v_k
  have v_D := v_D.keeps hw12
  have w__k := (hw12.block _ (Array.getElem?_eq_some_iff.1 w__k).1).trans w__k
  have w__D := w__D.keeps hw12
  have d_k := (hw12.block _ (Array.getElem?_eq_some_iff.1 d_k).1).trans d_k
  have d_D := d_D.keeps hw12
  have p_k := (hw12.block _ (Array.getElem?_eq_some_iff.1 p_k).1).trans p_k
  have p_D := p_D.keeps hw12
  have q_k := (hw12.block _ (Array.getElem?_eq_some_iff.1 q_k).1).trans q_k
  have q_D := q_D.keeps hw12
  have hb12 := bel_trans hb12' hw12
  have x_B : Bd 8000 x_V := x_B
  have l_k := heap_past (.cells #[.bool x_g, .slice x_o x_n x_c, .int .i64 x_e] 31) l_k
  have m_k := heap_past (.cells #[.bool x_g, .slice x_o x_n x_c, .int .i64 x_e] 31) m_k
  have o_k := heap_past (.cells #[.bool x_g, .slice x_o x_n x_c, .int .i64 x_e] 31) o_k
  have a_k := heap_past (.cells #[.bool x_g, .slice x_o x_n x_c, .int .i64 x_e] 31) a_k
  have b_k := heap_past (.cells #[.bool x_g, .slice x_o x_n x_c, .int .i64 x_e] 31) b_k
  have c_k := heap_past (.cells #[.bool x_g, .slice x_o x_n x_c, .int .i64 x_e] 31) c_k
  have s_k := heap_past (.cells #[.bool x_g, .slice x_o x_n x_c, .int .i64 x_e] 31) s_k
  have t_k := heap_past (.cells #[.bool x_g, .slice x_o x_n x_c, .int .i64 x_e] 31) t_k
  have u_k := heap_past (.cells #[.bool x_g, .slice x_o x_n x_c, .int .i64 x_e] 31) u_k
  have v_k := heap_past (.cells #[.bool x_g, .slice x_o x_n x_c, .int .i64 x_e] 31) v_k
  have w__k := heap_past (.cells #[.bool x_g, .slice x_o x_n x_c, .int .i64 x_e] 31) w__k
  have d_k := heap_past (.cells #[.bool x_g, .slice x_o x_n x_c, .int .i64 x_e] 31) d_k
  have p_k := heap_past (.cells #[.bool x_g, .slice x_o x_n x_c, .int .i64 x_e] 31) p_k
  have q_k := heap_past (.cells #[.bool x_g, .slice x_o x_n x_c, .int .i64 x_e] 31) q_k
  have x_k := heap_a1 y12 (.cells #[.bool x_g, .slice x_o x_n x_c, .int .i64 x_e] 31)
  have a_D := a_D.keeps (bel_alloc y12 (.cells #[.bool x_g, .slice x_o x_n x_c, .int .i64 x_e] 31))
  have b_D := b_D.keeps (bel_alloc y12 (.cells #[.bool x_g, .slice x_o x_n x_c, .int .i64 x_e] 31))
  have c_D := c_D.keeps (bel_alloc y12 (.cells #[.bool x_g, .slice x_o x_n x_c, .int .i64 x_e] 31))
  have s_D := s_D.keeps (bel_alloc y12 (.cells #[.bool x_g, .slice x_o x_n x_c, .int .i64 x_e] 31))
  have t_D := t_D.keeps (bel_alloc y12 (.cells #[.bool x_g, .slice x_o x_n x_c, .int .i64 x_e] 31))
  have u_D := u_D.keeps (bel_alloc y12 (.cells #[.bool x_g, .slice x_o x_n x_c, .int .i64 x_e] 31))
  have v_D := v_D.keeps (bel_alloc y12 (.cells #[.bool x_g, .slice x_o x_n x_c, .int .i64 x_e] 31))
  have w__D := w__D.keeps (bel_alloc y12 (.cells #[.bool x_g, .slice x_o x_n x_c, .int .i64 x_e] 31))
  have d_D := d_D.keeps (bel_alloc y12 (.cells #[.bool x_g, .slice x_o x_n x_c, .int .i64 x_e] 31))
  have p_D := p_D.keeps (bel_alloc y12 (.cells #[.bool x_g, .slice x_o x_n x_c, .int .i64 x_e] 31))
  have q_D := q_D.keeps (bel_alloc y12 (.cells #[.bool x_g, .slice x_o x_n x_c, .int .i64 x_e] 31))
  have x_D := x_D.keeps (bel_alloc y12 (.cells #[.bool x_g, .slice x_o x_n x_c, .int .i64 x_e] 31))
  have hb13' := bel_trans hb12 (bel_alloc y12 (.cells #[.bool x_g, .slice x_o x_n x_c, .int .i64 x_e] 31))
  have f_a0 := blkC a_k 0 rfl
  have f_a1 := blkC a_k 1 rfl
  have f_a2 := blkC a_k 2 rfl
  have f_v0 := blkC v_k 0 rfl
  have f_v1 := blkC v_k 1 rfl
  have f_v2 := blkC v_k 2 rfl
  go_wp2_with fail
  clear f_a0 f_a1 f_a2 f_v0 f_v1 f_v2
  generalize y12.alloc (.cells #[.bool x_g, .slice x_o x_n x_c, .int .i64 x_e] 31) = x13 at l_k m_k o_k a_k b_k c_k s_k t_k u_k v_k w__k d_k p_k q_k x_k a_D b_D c_D s_D t_D u_D v_D w__D d_D p_D q_D x_D hb13' ⊢
  refine (mul_B a_D v_D (a_B.up (show 4000 ≤ 4001 by omega) (by omega)) v_B (by omega) (H.tab.keeps hb13')).mono ?_
  rintro _ y13 ⟨v, y_V, rfl, h13, y_E, y_B⟩
  obtain ⟨y_g, y_o, y_n, y_c, y_e, rfl⟩ := dans_shape h13
  have hw13 := h13.below
  have y_D := h13.num
  have l_k := (hw13.block _ (Array.getElem?_eq_some_iff.1 l_k).1).trans l_k
  have m_k := (hw13.block _ (Array.getElem?_eq_some_iff.1 m_k).1).trans m_k
  have o_k := (hw13.block _ (Array.getElem?_eq_some_iff.1 o_k).1).trans o_k
  have a_k := (hw13.block _ (Array.getElem?_eq_some_iff.1 a_k).1).trans a_k
  have a_D := a_D.keeps hw13
  have b_k := (hw13.block _ (Array.getElem?_eq_some_iff.1 b_k).1).trans b_k
  have b_D := b_D.keeps hw13
  have c_k := (hw13.block _ (Array.getElem?_eq_some_iff.1 c_k).1).trans c_k
  have c_D := c_D.keeps hw13
  have s_k := (hw13.block _ (Array.getElem?_eq_some_iff.1 s_k).1).trans s_k
  have s_D := s_D.keeps hw13
  have t_k := (hw13.block _ (Array.getElem?_eq_some_iff.1 t_k).1).trans t_k
  have t_D := t_D.keeps hw13
  have u_k := (hw13.block _ (Array.getElem?_eq_some_iff.1 u_k).1).trans u_k
  have u_D := u_D.keeps hw13
  have v_k := (hw13.block _ (Array.getElem?_eq_some_iff.1 v_k).1).trans v_k
  have v_D := v_D.keeps hw13
  have w__k := (hw13.block _ (Array.getElem?_eq_some_iff.1 w__k).1).trans w__k
  have w__D := w__D.keeps hw13
  have d_k := (hw13.block _ (Array.getElem?_eq_some_iff.1 d_k).1).trans d_k
  have d_D := d_D.keeps hw13
  have p_k := (hw13.block _ (Array.getElem?_eq_some_iff.1 p_k).1).trans p_k
  have p_D := p_D.keeps hw13
  have q_k := (hw13.block _ (Array.getElem?_eq_some_iff.1 q_k).1).trans q_k
  have q_D := q_D.keeps hw13
  have x_k := (hw13.block _ (Array.getElem?_eq_some_iff.1 x_k).1).trans x_k
  have x_D := x_D.keeps hw13
  have hb13 := bel_trans hb13' hw13
  have y_B : Bd 8002 y_V := y_B
  have l_k := heap_past (.cells #[.bool y_g, .slice y_o y_n y_c, .int .i64 y_e] 31) l_k
  have m_k := heap_past (.cells #[.bool y_g, .slice y_o y_n y_c, .int .i64 y_e] 31) m_k
  have o_k := heap_past (.cells #[.bool y_g, .slice y_o y_n y_c, .int .i64 y_e] 31) o_k
  have a_k := heap_past (.cells #[.bool y_g, .slice y_o y_n y_c, .int .i64 y_e] 31) a_k
  have b_k := heap_past (.cells #[.bool y_g, .slice y_o y_n y_c, .int .i64 y_e] 31) b_k
  have c_k := heap_past (.cells #[.bool y_g, .slice y_o y_n y_c, .int .i64 y_e] 31) c_k
  have s_k := heap_past (.cells #[.bool y_g, .slice y_o y_n y_c, .int .i64 y_e] 31) s_k
  have t_k := heap_past (.cells #[.bool y_g, .slice y_o y_n y_c, .int .i64 y_e] 31) t_k
  have u_k := heap_past (.cells #[.bool y_g, .slice y_o y_n y_c, .int .i64 y_e] 31) u_k
  have v_k := heap_past (.cells #[.bool y_g, .slice y_o y_n y_c, .int .i64 y_e] 31) v_k
  have w__k := heap_past (.cells #[.bool y_g, .slice y_o y_n y_c, .int .i64 y_e] 31) w__k
  have d_k := heap_past (.cells #[.bool y_g, .slice y_o y_n y_c, .int .i64 y_e] 31) d_k
  have p_k := heap_past (.cells #[.bool y_g, .slice y_o y_n y_c, .int .i64 y_e] 31) p_k
  have q_k := heap_past (.cells #[.bool y_g, .slice y_o y_n y_c, .int .i64 y_e] 31) q_k
  have x_k := heap_past (.cells #[.bool y_g, .slice y_o y_n y_c, .int .i64 y_e] 31) x_k
  have y_k := heap_a1 y13 (.cells #[.bool y_g, .slice y_o y_n y_c, .int .i64 y_e] 31)
  have a_D := a_D.keeps (bel_alloc y13 (.cells #[.bool y_g, .slice y_o y_n y_c, .int .i64 y_e] 31))
  have b_D := b_D.keeps (bel_alloc y13 (.cells #[.bool y_g, .slice y_o y_n y_c, .int .i64 y_e] 31))
  have c_D := c_D.keeps (bel_alloc y13 (.cells #[.bool y_g, .slice y_o y_n y_c, .int .i64 y_e] 31))
  have s_D := s_D.keeps (bel_alloc y13 (.cells #[.bool y_g, .slice y_o y_n y_c, .int .i64 y_e] 31))
  have t_D := t_D.keeps (bel_alloc y13 (.cells #[.bool y_g, .slice y_o y_n y_c, .int .i64 y_e] 31))
  have u_D := u_D.keeps (bel_alloc y13 (.cells #[.bool y_g, .slice y_o y_n y_c, .int .i64 y_e] 31))
  have v_D := v_D.keeps (bel_alloc y13 (.cells #[.bool y_g, .slice y_o y_n y_c, .int .i64 y_e] 31))
  have w__D := w__D.keeps (bel_alloc y13 (.cells #[.bool y_g, .slice y_o y_n y_c, .int .i64 y_e] 31))
  have d_D := d_D.keeps (bel_alloc y13 (.cells #[.bool y_g, .slice y_o y_n y_c, .int .i64 y_e] 31))
  have p_D := p_D.keeps (bel_alloc y13 (.cells #[.bool y_g, .slice y_o y_n y_c, .int .i64 y_e] 31))
  have q_D := q_D.keeps (bel_alloc y13 (.cells #[.bool y_g, .slice y_o y_n y_c, .int .i64 y_e] 31))
  have x_D := x_D.keeps (bel_alloc y13 (.cells #[.bool y_g, .slice y_o y_n y_c, .int .i64 y_e] 31))
  have y_D := y_D.keeps (bel_alloc y13 (.cells #[.bool y_g, .slice y_o y_n y_c, .int .i64 y_e] 31))
  have hb14' := bel_trans hb13 (bel_alloc y13 (.cells #[.bool y_g, .slice y_o y_n y_c, .int .i64 y_e] 31))
  have f_p0 := blkC p_k 0 rfl
  have f_p1 := blkC p_k 1 rfl
  have f_p2 := blkC p_k 2 rfl
  have f_x0 := blkC x_k 0 rfl
  have f_x1 := blkC x_k 1 rfl
  have f_x2 := blkC x_k 2 rfl
  go_wp2_with fail
  clear f_p0 f_p1 f_p2 f_x0 f_x1 f_x2
  generalize y13.alloc (.cells #[.bool y_g, .slice y_o y_n y_c, .int .i64 y_e] 31) = x14 at l_k m_k o_k a_k b_k c_k s_k t_k u_k v_k w__k d_k p_k q_k x_k y_k a_D b_D c_D s_D t_D u_D v_D w__D d_D p_D q_D x_D y_D hb14' ⊢
  refine (add_B p_D x_D p_B x_B (by omega) (H.tab.keeps hb14')).mono ?_
  rintro _ y14 ⟨v, rfl, h14⟩
  obtain ⟨z_g, z_o, z_n, z_c, z_e, rfl⟩ := dans_shape h14
  have hw14 := h14.below
  have z_D := h14.num
  have l_k := (hw14.block _ (Array.getElem?_eq_some_iff.1 l_k).1).trans l_k
  have m_k := (hw14.block _ (Array.getElem?_eq_some_iff.1 m_k).1).trans m_k
  have o_k := (hw14.block _ (Array.getElem?_eq_some_iff.1 o_k).1).trans o_k
  have a_k := (hw14.block _ (Array.getElem?_eq_some_iff.1 a_k).1).trans a_k
  have a_D := a_D.keeps hw14
  have b_k := (hw14.block _ (Array.getElem?_eq_some_iff.1 b_k).1).trans b_k
  have b_D := b_D.keeps hw14
  have c_k := (hw14.block _ (Array.getElem?_eq_some_iff.1 c_k).1).trans c_k
  have c_D := c_D.keeps hw14
  have s_k := (hw14.block _ (Array.getElem?_eq_some_iff.1 s_k).1).trans s_k
  have s_D := s_D.keeps hw14
  have t_k := (hw14.block _ (Array.getElem?_eq_some_iff.1 t_k).1).trans t_k
  have t_D := t_D.keeps hw14
  have u_k := (hw14.block _ (Array.getElem?_eq_some_iff.1 u_k).1).trans u_k
  have u_D := u_D.keeps hw14
  have v_k := (hw14.block _ (Array.getElem?_eq_some_iff.1 v_k).1).trans v_k
  have v_D := v_D.keeps hw14
  have w__k := (hw14.block _ (Array.getElem?_eq_some_iff.1 w__k).1).trans w__k
  have w__D := w__D.keeps hw14
  have d_k := (hw14.block _ (Array.getElem?_eq_some_iff.1 d_k).1).trans d_k
  have d_D := d_D.keeps hw14
  have p_k := (hw14.block _ (Array.getElem?_eq_some_iff.1 p_k).1).trans p_k
  have p_D := p_D.keeps hw14
  have q_k := (hw14.block _ (Array.getElem?_eq_some_iff.1 q_k).1).trans q_k
  have q_D := q_D.keeps hw14
  have x_k := (hw14.block _ (Array.getElem?_eq_some_iff.1 x_k).1).trans x_k
  have x_D := x_D.keeps hw14
  have y_k := (hw14.block _ (Array.getElem?_eq_some_iff.1 y_k).1).trans y_k
  have y_D := y_D.keeps hw14
  have hb14 := bel_trans hb14' hw14
  have z_B := p_B.add x_B (by omega)
  obtain ⟨z_V, z_F⟩ : ∃ V, V = p_V + x_V := ⟨_, rfl⟩
  rw [← z_F] at z_B z_D
  have z_E : Hid (z_V = p_V + x_V) := z_F
  clear z_F
  have q1 : s_V = t_V := by have := s_E.out; have := t_E.out; omega
  have q2 : u_V = w__V := by have := u_E.out; have := w__E.out; have := s_E.out; have := v_E.out; omega
  have q3 : d_V = a_V := by have := d_E.out; have := s_E.out; omega
  have q4 : p_V = q_V := scale_inj (by rw [p_E, q_E, Int.mul_comm])
  have q5 : y_V = z_V := scale_inj (by rw [y_E, z_E.out, v_E.out, Int.add_mul, p_E, x_E, Int.mul_add])
  have l_k := heap_past (.cells #[.bool z_g, .slice z_o z_n z_c, .int .i64 z_e] 31) l_k
  have m_k := heap_past (.cells #[.bool z_g, .slice z_o z_n z_c, .int .i64 z_e] 31) m_k
  have o_k := heap_past (.cells #[.bool z_g, .slice z_o z_n z_c, .int .i64 z_e] 31) o_k
  have a_k := heap_past (.cells #[.bool z_g, .slice z_o z_n z_c, .int .i64 z_e] 31) a_k
  have b_k := heap_past (.cells #[.bool z_g, .slice z_o z_n z_c, .int .i64 z_e] 31) b_k
  have c_k := heap_past (.cells #[.bool z_g, .slice z_o z_n z_c, .int .i64 z_e] 31) c_k
  have s_k := heap_past (.cells #[.bool z_g, .slice z_o z_n z_c, .int .i64 z_e] 31) s_k
  have t_k := heap_past (.cells #[.bool z_g, .slice z_o z_n z_c, .int .i64 z_e] 31) t_k
  have u_k := heap_past (.cells #[.bool z_g, .slice z_o z_n z_c, .int .i64 z_e] 31) u_k
  have v_k := heap_past (.cells #[.bool z_g, .slice z_o z_n z_c, .int .i64 z_e] 31) v_k
  have w__k := heap_past (.cells #[.bool z_g, .slice z_o z_n z_c, .int .i64 z_e] 31) w__k
  have d_k := heap_past (.cells #[.bool z_g, .slice z_o z_n z_c, .int .i64 z_e] 31) d_k
  have p_k := heap_past (.cells #[.bool z_g, .slice z_o z_n z_c, .int .i64 z_e] 31) p_k
  have q_k := heap_past (.cells #[.bool z_g, .slice z_o z_n z_c, .int .i64 z_e] 31) q_k
  have x_k := heap_past (.cells #[.bool z_g, .slice z_o z_n z_c, .int .i64 z_e] 31) x_k
  have y_k := heap_past (.cells #[.bool z_g, .slice z_o z_n z_c, .int .i64 z_e] 31) y_k
  have z_k := heap_a1 y14 (.cells #[.bool z_g, .slice z_o z_n z_c, .int .i64 z_e] 31)
  have a_D := a_D.keeps (bel_alloc y14 (.cells #[.bool z_g, .slice z_o z_n z_c, .int .i64 z_e] 31))
  have b_D := b_D.keeps (bel_alloc y14 (.cells #[.bool z_g, .slice z_o z_n z_c, .int .i64 z_e] 31))
  have c_D := c_D.keeps (bel_alloc y14 (.cells #[.bool z_g, .slice z_o z_n z_c, .int .i64 z_e] 31))
  have s_D := s_D.keeps (bel_alloc y14 (.cells #[.bool z_g, .slice z_o z_n z_c, .int .i64 z_e] 31))
  have t_D := t_D.keeps (bel_alloc y14 (.cells #[.bool z_g, .slice z_o z_n z_c, .int .i64 z_e] 31))
  have u_D := u_D.keeps (bel_alloc y14 (.cells #[.bool z_g, .slice z_o z_n z_c, .int .i64 z_e] 31))
  have v_D := v_D.keeps (bel_alloc y14 (.cells #[.bool z_g, .slice z_o z_n z_c, .int .i64 z_e] 31))
  have w__D := w__D.keeps (bel_alloc y14 (.cells #[.bool z_g, .slice z_o z_n z_c, .int .i64 z_e] 31))
  have d_D := d_D.keeps (bel_alloc y14 (.cells #[.bool z_g, .slice z_o z_n z_c, .int .i64 z_e] 31))
  have p_D := p_D.keeps (bel_alloc y14 (.cells #[.bool z_g, .slice z_o z_n z_c, .int .i64 z_e] 31))
  have q_D := q_D.keeps (bel_alloc y14 (.cells #[.bool z_g, .slice z_o z_n z_c, .int .i64 z_e] 31))
  have x_D := x_D.keeps (bel_alloc y14 (.cells #[.bool z_g, .slice z_o z_n z_c, .int .i64 z_e] 31))
  have y_D := y_D.keeps (bel_alloc y14 (.cells #[.bool z_g, .slice z_o z_n z_c, .int .i64 z_e] 31))
  have z_D := z_D.keeps (bel_alloc y14 (.cells #[.bool z_g, .slice z_o z_n z_c, .int .i64 z_e] 31))
  have hb15' := bel_trans hb14 (bel_alloc y14 (.cells #[.bool z_g, .slice z_o z_n z_c, .int .i64 z_e] 31))
  go_wp2_with fail
  generalize y14.alloc (.cells #[.bool z_g, .slice z_o z_n z_c, .int .i64 z_e] 31) = x15 at l_k m_k o_k a_k b_k c_k s_k t_k u_k v_k w__k d_k p_k q_k x_k y_k z_k a_D b_D c_D s_D t_D u_D v_D w__D d_D p_D q_D x_D y_D z_D hb15' ⊢
  refine (dalive_any _ (H.lay.keeps hb15') (H.tab.keeps hb15')).mono ?_
  rintro _ y15 ⟨rfl, hw15⟩
  have l_k := (hw15.block _ (Array.getElem?_eq_some_iff.1 l_k).1).trans l_k
  have m_k := (hw15.block _ (Array.getElem?_eq_some_iff.1 m_k).1).trans m_k
  have o_k := (hw15.block _ (Array.getElem?_eq_some_iff.1 o_k).1).trans o_k
  have a_k := (hw15.block _ (Array.getElem?_eq_some_iff.1 a_k).1).trans a_k
  have a_D := a_D.keeps hw15
  have b_k := (hw15.block _ (Array.getElem?_eq_some_iff.1 b_k).1).trans b_k
  have b_D := b_D.keeps hw15
  have c_k := (hw15.block _ (Array.getElem?_eq_some_iff.1 c_k).1).trans c_k
  have c_D := c_D.keeps hw15
  have s_k := (hw15.block _ (Array.getElem?_eq_some_iff.1 s_k).1).trans s_k
  have s_D := s_D.keeps hw15
  have t_k := (hw15.block _ (Array.getElem?_eq_some_iff.1 t_k).1).trans t_k
  have t_D := t_D.keeps hw15
  have u_k := (hw15.block _ (Array.getElem?_eq_some_iff.1 u_k).1).trans u_k
  have u_D := u_D.keeps hw15
  have v_k := (hw15.block _ (Array.getElem?_eq_some_iff.1 v_k).1).trans v_k
  have v_D := v_D.keeps hw15
  have w__k := (hw15.block _ (Array.getElem?_eq_some_iff.1 w__k).1).trans w__k
  have w__D := w__D.keeps hw15
  have d_k := (hw15.block _ (Array.getElem?_eq_some_iff.1 d_k).1).trans d_k
  have d_D := d_D.keeps hw15
  have p_k := (hw15.block _ (Array.getElem?_eq_some_iff.1 p_k).1).trans p_k
  have p_D := p_D.keeps hw15
  have q_k := (hw15.block _ (Array.getElem?_eq_some_iff.1 q_k).1).trans q_k
  have q_D := q_D.keeps hw15
  have x_k := (hw15.block _ (Array.getElem?_eq_some_iff.1 x_k).1).trans x_k
  have x_D := x_D.keeps hw15
  have y_k := (hw15.block _ (Array.getElem?_eq_some_iff.1 y_k).1).trans y_k
  have y_D := y_D.keeps hw15
  have z_k := (hw15.block _ (Array.getElem?_eq_some_iff.1 z_k).1).trans z_k
  have z_D := z_D.keeps hw15
  have hb15 := bel_trans hb15' hw15
  have f_s0 := blkC s_k 0 rfl
  have f_s1 := blkC s_k 1 rfl
  have f_s2 := blkC s_k 2 rfl
  have f_t0 := blkC t_k 0 rfl
  have f_t1 := blkC t_k 1 rfl
  have f_t2 := blkC t_k 2 rfl
  go_wp2_with fail
  clear f_s0 f_s1 f_s2 f_t0 f_t1 f_t2
  refine (sameD_yes (s_D.cast q1) t_D).mono ?_
  rintro _ y16 ⟨rfl, hw16⟩
  have l_k := (hw16.block _ (Array.getElem?_eq_some_iff.1 l_k).1).trans l_k
  have m_k := (hw16.block _ (Array.getElem?_eq_some_iff.1 m_k).1).trans m_k
  have o_k := (hw16.block _ (Array.getElem?_eq_some_iff.1 o_k).1).trans o_k
  have a_k := (hw16.block _ (Array.getElem?_eq_some_iff.1 a_k).1).trans a_k
  have a_D := a_D.keeps hw16
  have b_k := (hw16.block _ (Array.getElem?_eq_some_iff.1 b_k).1).trans b_k
  have b_D := b_D.keeps hw16
  have c_k := (hw16.block _ (Array.getElem?_eq_some_iff.1 c_k).1).trans c_k
  have c_D := c_D.keeps hw16
  have s_k := (hw16.block _ (Array.getElem?_eq_some_iff.1 s_k).1).trans s_k
  have s_D := s_D.keeps hw16
  have t_k := (hw16.block _ (Array.getElem?_eq_some_iff.1 t_k).1).trans t_k
  have t_D := t_D.keeps hw16
  have u_k := (hw16.block _ (Array.getElem?_eq_some_iff.1 u_k).1).trans u_k
  have u_D := u_D.keeps hw16
  have v_k := (hw16.block _ (Array.getElem?_eq_some_iff.1 v_k).1).trans v_k
  have v_D := v_D.keeps hw16
  have w__k := (hw16.block _ (Array.getElem?_eq_some_iff.1 w__k).1).trans w__k
  have w__D := w__D.keeps hw16
  have d_k := (hw16.block _ (Array.getElem?_eq_some_iff.1 d_k).1).trans d_k
  have d_D := d_D.keeps hw16
  have p_k := (hw16.block _ (Array.getElem?_eq_some_iff.1 p_k).1).trans p_k
  have p_D := p_D.keeps hw16
  have q_k := (hw16.block _ (Array.getElem?_eq_some_iff.1 q_k).1).trans q_k
  have q_D := q_D.keeps hw16
  have x_k := (hw16.block _ (Array.getElem?_eq_some_iff.1 x_k).1).trans x_k
  have x_D := x_D.keeps hw16
  have y_k := (hw16.block _ (Array.getElem?_eq_some_iff.1 y_k).1).trans y_k
  have y_D := y_D.keeps hw16
  have z_k := (hw16.block _ (Array.getElem?_eq_some_iff.1 z_k).1).trans z_k
  have z_D := z_D.keeps hw16
  have hb16 := bel_trans hb15 hw16
  have f_u0 := blkC u_k 0 rfl
  have f_u1 := blkC u_k 1 rfl
  have f_u2 := blkC u_k 2 rfl
  have f_w_0 := blkC w__k 0 rfl
  have f_w_1 := blkC w__k 1 rfl
  have f_w_2 := blkC w__k 2 rfl
  go_wp2_with fail
  clear f_u0 f_u1 f_u2 f_w_0 f_w_1 f_w_2
  refine (sameD_yes (u_D.cast q2) w__D).mono ?_
  rintro _ y17 ⟨rfl, hw17⟩
  have l_k := (hw17.block _ (Array.getElem?_eq_some_iff.1 l_k).1).trans l_k
  have m_k := (hw17.block _ (Array.getElem?_eq_some_iff.1 m_k).1).trans m_k
  have o_k := (hw17.block _ (Array.getElem?_eq_some_iff.1 o_k).1).trans o_k
  have a_k := (hw17.block _ (Array.getElem?_eq_some_iff.1 a_k).1).trans a_k
  have a_D := a_D.keeps hw17
  have b_k := (hw17.block _ (Array.getElem?_eq_some_iff.1 b_k).1).trans b_k
  have b_D := b_D.keeps hw17
  have c_k := (hw17.block _ (Array.getElem?_eq_some_iff.1 c_k).1).trans c_k
  have c_D := c_D.keeps hw17
  have s_k := (hw17.block _ (Array.getElem?_eq_some_iff.1 s_k).1).trans s_k
  have s_D := s_D.keeps hw17
  have t_k := (hw17.block _ (Array.getElem?_eq_some_iff.1 t_k).1).trans t_k
  have t_D := t_D.keeps hw17
  have u_k := (hw17.block _ (Array.getElem?_eq_some_iff.1 u_k).1).trans u_k
  have u_D := u_D.keeps hw17
  have v_k := (hw17.block _ (Array.getElem?_eq_some_iff.1 v_k).1).trans v_k
  have v_D := v_D.keeps hw17
  have w__k := (hw17.block _ (Array.getElem?_eq_some_iff.1 w__k).1).trans w__k
  have w__D := w__D.keeps hw17
  have d_k := (hw17.block _ (Array.getElem?_eq_some_iff.1 d_k).1).trans d_k
  have d_D := d_D.keeps hw17
  have p_k := (hw17.block _ (Array.getElem?_eq_some_iff.1 p_k).1).trans p_k
  have p_D := p_D.keeps hw17
  have q_k := (hw17.block _ (Array.getElem?_eq_some_iff.1 q_k).1).trans q_k
  have q_D := q_D.keeps hw17
  have x_k := (hw17.block _ (Array.getElem?_eq_some_iff.1 x_k).1).trans x_k
  have x_D := x_D.keeps hw17
  have y_k := (hw17.block _ (Array.getElem?_eq_some_iff.1 y_k).1).trans y_k
  have y_D := y_D.keeps hw17
  have z_k := (hw17.block _ (Array.getElem?_eq_some_iff.1 z_k).1).trans z_k
  have z_D := z_D.keeps hw17
  have hb17 := bel_trans hb16 hw17
  have f_d0 := blkC d_k 0 rfl
  have f_d1 := blkC d_k 1 rfl
  have f_d2 := blkC d_k 2 rfl
  have f_a0 := blkC a_k 0 rfl
  have f_a1 := blkC a_k 1 rfl
  have f_a2 := blkC a_k 2 rfl
  go_wp2_with fail
  clear f_d0 f_d1 f_d2 f_a0 f_a1 f_a2
  refine (sameD_yes (d_D.cast q3) a_D).mono ?_
  rintro _ y18 ⟨rfl, hw18⟩
  have l_k := (hw18.block _ (Array.getElem?_eq_some_iff.1 l_k).1).trans l_k
  have m_k := (hw18.block _ (Array.getElem?_eq_some_iff.1 m_k).1).trans m_k
  have o_k := (hw18.block _ (Array.getElem?_eq_some_iff.1 o_k).1).trans o_k
  have a_k := (hw18.block _ (Array.getElem?_eq_some_iff.1 a_k).1).trans a_k
  have a_D := a_D.keeps hw18
  have b_k := (hw18.block _ (Array.getElem?_eq_some_iff.1 b_k).1).trans b_k
  have b_D := b_D.keeps hw18
  have c_k := (hw18.block _ (Array.getElem?_eq_some_iff.1 c_k).1).trans c_k
  have c_D := c_D.keeps hw18
  have s_k := (hw18.block _ (Array.getElem?_eq_some_iff.1 s_k).1).trans s_k
  have s_D := s_D.keeps hw18
  have t_k := (hw18.block _ (Array.getElem?_eq_some_iff.1 t_k).1).trans t_k
  have t_D := t_D.keeps hw18
  have u_k := (hw18.block _ (Array.getElem?_eq_some_iff.1 u_k).1).trans u_k
  have u_D := u_D.keeps hw18
  have v_k := (hw18.block _ (Array.getElem?_eq_some_iff.1 v_k).1).trans v_k
  have v_D := v_D.keeps hw18
  have w__k := (hw18.block _ (Array.getElem?_eq_some_iff.1 w__k).1).trans w__k
  have w__D := w__D.keeps hw18
  have d_k := (hw18.block _ (Array.getElem?_eq_some_iff.1 d_k).1).trans d_k
  have d_D := d_D.keeps hw18
  have p_k := (hw18.block _ (Array.getElem?_eq_some_iff.1 p_k).1).trans p_k
  have p_D := p_D.keeps hw18
  have q_k := (hw18.block _ (Array.getElem?_eq_some_iff.1 q_k).1).trans q_k
  have q_D := q_D.keeps hw18
  have x_k := (hw18.block _ (Array.getElem?_eq_some_iff.1 x_k).1).trans x_k
  have x_D := x_D.keeps hw18
  have y_k := (hw18.block _ (Array.getElem?_eq_some_iff.1 y_k).1).trans y_k
  have y_D := y_D.keeps hw18
  have z_k := (hw18.block _ (Array.getElem?_eq_some_iff.1 z_k).1).trans z_k
  have z_D := z_D.keeps hw18
  have hb18 := bel_trans hb17 hw18
  have f_p0 := blkC p_k 0 rfl
  have f_p1 := blkC p_k 1 rfl
  have f_p2 := blkC p_k 2 rfl
  have f_q0 := blkC q_k 0 rfl
  have f_q1 := blkC q_k 1 rfl
  have f_q2 := blkC q_k 2 rfl
  go_wp2_with fail
  clear f_p0 f_p1 f_p2 f_q0 f_q1 f_q2
  refine (sameD_yes (p_D.cast q4) q_D).mono ?_
  rintro _ y19 ⟨rfl, hw19⟩
  have l_k := (hw19.block _ (Array.getElem?_eq_some_iff.1 l_k).1).trans l_k
  have m_k := (hw19.block _ (Array.getElem?_eq_some_iff.1 m_k).1).trans m_k
  have o_k := (hw19.block _ (Array.getElem?_eq_some_iff.1 o_k).1).trans o_k
  have a_k := (hw19.block _ (Array.getElem?_eq_some_iff.1 a_k).1).trans a_k
  have a_D := a_D.keeps hw19
  have b_k := (hw19.block _ (Array.getElem?_eq_some_iff.1 b_k).1).trans b_k
  have b_D := b_D.keeps hw19
  have c_k := (hw19.block _ (Array.getElem?_eq_some_iff.1 c_k).1).trans c_k
  have c_D := c_D.keeps hw19
  have s_k := (hw19.block _ (Array.getElem?_eq_some_iff.1 s_k).1).trans s_k
  have s_D := s_D.keeps hw19
  have t_k := (hw19.block _ (Array.getElem?_eq_some_iff.1 t_k).1).trans t_k
  have t_D := t_D.keeps hw19
  have u_k := (hw19.block _ (Array.getElem?_eq_some_iff.1 u_k).1).trans u_k
  have u_D := u_D.keeps hw19
  have v_k := (hw19.block _ (Array.getElem?_eq_some_iff.1 v_k).1).trans v_k
  have v_D := v_D.keeps hw19
  have w__k := (hw19.block _ (Array.getElem?_eq_some_iff.1 w__k).1).trans w__k
  have w__D := w__D.keeps hw19
  have d_k := (hw19.block _ (Array.getElem?_eq_some_iff.1 d_k).1).trans d_k
  have d_D := d_D.keeps hw19
  have p_k := (hw19.block _ (Array.getElem?_eq_some_iff.1 p_k).1).trans p_k
  have p_D := p_D.keeps hw19
  have q_k := (hw19.block _ (Array.getElem?_eq_some_iff.1 q_k).1).trans q_k
  have q_D := q_D.keeps hw19
  have x_k := (hw19.block _ (Array.getElem?_eq_some_iff.1 x_k).1).trans x_k
  have x_D := x_D.keeps hw19
  have y_k := (hw19.block _ (Array.getElem?_eq_some_iff.1 y_k).1).trans y_k
  have y_D := y_D.keeps hw19
  have z_k := (hw19.block _ (Array.getElem?_eq_some_iff.1 z_k).1).trans z_k
  have z_D := z_D.keeps hw19
  have hb19 := bel_trans hb18 hw19
  have f_y0 := blkC y_k 0 rfl
  have f_y1 := blkC y_k 1 rfl
  have f_y2 := blkC y_k 2 rfl
  have f_z0 := blkC z_k 0 rfl
  have f_z1 := blkC z_k 1 rfl
  have f_z2 := blkC z_k 2 rfl
  go_wp2_with fail
  clear f_y0 f_y1 f_y2 f_z0 f_z1 f_z2
  refine (sameD_yes (y_D.cast q5) z_D).mono ?_
  rintro _ y20 ⟨rfl, hw20⟩
  have l_k := (hw20.block _ (Array.getElem?_eq_some_iff.1 l_k).1).trans l_k
  have m_k := (hw20.block _ (Array.getElem?_eq_some_iff.1 m_k).1).trans m_k
  have o_k := (hw20.block _ (Array.getElem?_eq_some_iff.1 o_k).1).trans o_k
  have a_k := (hw20.block _ (Array.getElem?_eq_some_iff.1 a_k).1).trans a_k
  have a_D := a_D.keeps hw20
  have b_k := (hw20.block _ (Array.getElem?_eq_some_iff.1 b_k).1).trans b_k
  have b_D := b_D.keeps hw20
  have c_k := (hw20.block _ (Array.getElem?_eq_some_iff.1 c_k).1).trans c_k
  have c_D := c_D.keeps hw20
  have s_k := (hw20.block _ (Array.getElem?_eq_some_iff.1 s_k).1).trans s_k
  have s_D := s_D.keeps hw20
  have t_k := (hw20.block _ (Array.getElem?_eq_some_iff.1 t_k).1).trans t_k
  have t_D := t_D.keeps hw20
  have u_k := (hw20.block _ (Array.getElem?_eq_some_iff.1 u_k).1).trans u_k
  have u_D := u_D.keeps hw20
  have v_k := (hw20.block _ (Array.getElem?_eq_some_iff.1 v_k).1).trans v_k
  have v_D := v_D.keeps hw20
  have w__k := (hw20.block _ (Array.getElem?_eq_some_iff.1 w__k).1).trans w__k
  have w__D := w__D.keeps hw20
  have d_k := (hw20.block _ (Array.getElem?_eq_some_iff.1 d_k).1).trans d_k
  have d_D := d_D.keeps hw20
  have p_k := (hw20.block _ (Array.getElem?_eq_some_iff.1 p_k).1).trans p_k
  have p_D := p_D.keeps hw20
  have q_k := (hw20.block _ (Array.getElem?_eq_some_iff.1 q_k).1).trans q_k
  have q_D := q_D.keeps hw20
  have x_k := (hw20.block _ (Array.getElem?_eq_some_iff.1 x_k).1).trans x_k
  have x_D := x_D.keeps hw20
  have y_k := (hw20.block _ (Array.getElem?_eq_some_iff.1 y_k).1).trans y_k
  have y_D := y_D.keeps hw20
  have z_k := (hw20.block _ (Array.getElem?_eq_some_iff.1 z_k).1).trans z_k
  have z_D := z_D.keeps hw20
  have hb20 := bel_trans hb19 hw20
  have f_s0 := blkC s_k 0 rfl
  have f_s1 := blkC s_k 1 rfl
  have f_s2 := blkC s_k 2 rfl
  go_wp2_with fail
  clear f_s0 f_s1 f_s2
  refine (valid_D s_D (s_B.ok (by omega))).mono ?_
  rintro _ y21 ⟨rfl, hw21⟩
  have l_k := (hw21.block _ (Array.getElem?_eq_some_iff.1 l_k).1).trans l_k
  have m_k := (hw21.block _ (Array.getElem?_eq_some_iff.1 m_k).1).trans m_k
  have o_k := (hw21.block _ (Array.getElem?_eq_some_iff.1 o_k).1).trans o_k
  have a_k := (hw21.block _ (Array.getElem?_eq_some_iff.1 a_k).1).trans a_k
  have a_D := a_D.keeps hw21
  have b_k := (hw21.block _ (Array.getElem?_eq_some_iff.1 b_k).1).trans b_k
  have b_D := b_D.keeps hw21
  have c_k := (hw21.block _ (Array.getElem?_eq_some_iff.1 c_k).1).trans c_k
  have c_D := c_D.keeps hw21
  have s_k := (hw21.block _ (Array.getElem?_eq_some_iff.1 s_k).1).trans s_k
  have s_D := s_D.keeps hw21
  have t_k := (hw21.block _ (Array.getElem?_eq_some_iff.1 t_k).1).trans t_k
  have t_D := t_D.keeps hw21
  have u_k := (hw21.block _ (Array.getElem?_eq_some_iff.1 u_k).1).trans u_k
  have u_D := u_D.keeps hw21
  have v_k := (hw21.block _ (Array.getElem?_eq_some_iff.1 v_k).1).trans v_k
  have v_D := v_D.keeps hw21
  have w__k := (hw21.block _ (Array.getElem?_eq_some_iff.1 w__k).1).trans w__k
  have w__D := w__D.keeps hw21
  have d_k := (hw21.block _ (Array.getElem?_eq_some_iff.1 d_k).1).trans d_k
  have d_D := d_D.keeps hw21
  have p_k := (hw21.block _ (Array.getElem?_eq_some_iff.1 p_k).1).trans p_k
  have p_D := p_D.keeps hw21
  have q_k := (hw21.block _ (Array.getElem?_eq_some_iff.1 q_k).1).trans q_k
  have q_D := q_D.keeps hw21
  have x_k := (hw21.block _ (Array.getElem?_eq_some_iff.1 x_k).1).trans x_k
  have x_D := x_D.keeps hw21
  have y_k := (hw21.block _ (Array.getElem?_eq_some_iff.1 y_k).1).trans y_k
  have y_D := y_D.keeps hw21
  have z_k := (hw21.block _ (Array.getElem?_eq_some_iff.1 z_k).1).trans z_k
  have z_D := z_D.keeps hw21
  have hb21 := bel_trans hb20 hw21
  have f_p0 := blkC p_k 0 rfl
  have f_p1 := blkC p_k 1 rfl
  have f_p2 := blkC p_k 2 rfl
  go_wp2_with fail
  clear f_p0 f_p1 f_p2
  refine (valid_D p_D (p_B.ok (by omega))).mono ?_
  rintro _ y22 ⟨rfl, hw22⟩
  have l_k := (hw22.block _ (Array.getElem?_eq_some_iff.1 l_k).1).trans l_k
  have m_k := (hw22.block _ (Array.getElem?_eq_some_iff.1 m_k).1).trans m_k
  have o_k := (hw22.block _ (Array.getElem?_eq_some_iff.1 o_k).1).trans o_k
  have a_k := (hw22.block _ (Array.getElem?_eq_some_iff.1 a_k).1).trans a_k
  have a_D := a_D.keeps hw22
  have b_k := (hw22.block _ (Array.getElem?_eq_some_iff.1 b_k).1).trans b_k
  have b_D := b_D.keeps hw22
  have c_k := (hw22.block _ (Array.getElem?_eq_some_iff.1 c_k).1).trans c_k
  have c_D := c_D.keeps hw22
  have s_k := (hw22.block _ (Array.getElem?_eq_some_iff.1 s_k).1).trans s_k
  have s_D := s_D.keeps hw22
  have t_k := (hw22.block _ (Array.getElem?_eq_some_iff.1 t_k).1).trans t_k
  have t_D := t_D.keeps hw22
  have u_k := (hw22.block _ (Array.getElem?_eq_some_iff.1 u_k).1).trans u_k
  have u_D := u_D.keeps hw22
  have v_k := (hw22.block _ (Array.getElem?_eq_some_iff.1 v_k).1).trans v_k
  have v_D := v_D.keeps hw22
  have w__k := (hw22.block _ (Array.getElem?_eq_some_iff.1 w__k).1).trans w__k
  have w__D := w__D.keeps hw22
  have d_k := (hw22.block _ (Array.getElem?_eq_some_iff.1 d_k).1).trans d_k
  have d_D := d_D.keeps hw22
  have p_k := (hw22.block _ (Array.getElem?_eq_some_iff.1 p_k).1).trans p_k
  have p_D := p_D.keeps hw22
  have q_k := (hw22.block _ (Array.getElem?_eq_some_iff.1 q_k).1).trans q_k
  have q_D := q_D.keeps hw22
  have x_k := (hw22.block _ (Array.getElem?_eq_some_iff.1 x_k).1).trans x_k
  have x_D := x_D.keeps hw22
  have y_k := (hw22.block _ (Array.getElem?_eq_some_iff.1 y_k).1).trans y_k
  have y_D := y_D.keeps hw22
  have z_k := (hw22.block _ (Array.getElem?_eq_some_iff.1 z_k).1).trans z_k
  have z_D := z_D.keeps hw22
  have hb22 := bel_trans hb21 hw22
  have f_u0 := blkC u_k 0 rfl
  have f_u1 := blkC u_k 1 rfl
  have f_u2 := blkC u_k 2 rfl
  go_wp2_with fail
  clear f_u0 f_u1 f_u2
  refine (valid_D u_D (u_B.ok (by omega))).mono ?_
  rintro _ y23 ⟨rfl, hw23⟩
  have l_k := (hw23.block _ (Array.getElem?_eq_some_iff.1 l_k).1).trans l_k
  have m_k := (hw23.block _ (Array.getElem?_eq_some_iff.1 m_k).1).trans m_k
  have o_k := (hw23.block _ (Array.getElem?_eq_some_iff.1 o_k).1).trans o_k
  have a_k := (hw23.block _ (Array.getElem?_eq_some_iff.1 a_k).1).trans a_k
  have a_D := a_D.keeps hw23
  have b_k := (hw23.block _ (Array.getElem?_eq_some_iff.1 b_k).1).trans b_k
  have b_D := b_D.keeps hw23
  have c_k := (hw23.block _ (Array.getElem?_eq_some_iff.1 c_k).1).trans c_k
  have c_D := c_D.keeps hw23
  have s_k := (hw23.block _ (Array.getElem?_eq_some_iff.1 s_k).1).trans s_k
  have s_D := s_D.keeps hw23
  have t_k := (hw23.block _ (Array.getElem?_eq_some_iff.1 t_k).1).trans t_k
  have t_D := t_D.keeps hw23
  have u_k := (hw23.block _ (Array.getElem?_eq_some_iff.1 u_k).1).trans u_k
  have u_D := u_D.keeps hw23
  have v_k := (hw23.block _ (Array.getElem?_eq_some_iff.1 v_k).1).trans v_k
  have v_D := v_D.keeps hw23
  have w__k := (hw23.block _ (Array.getElem?_eq_some_iff.1 w__k).1).trans w__k
  have w__D := w__D.keeps hw23
  have d_k := (hw23.block _ (Array.getElem?_eq_some_iff.1 d_k).1).trans d_k
  have d_D := d_D.keeps hw23
  have p_k := (hw23.block _ (Array.getElem?_eq_some_iff.1 p_k).1).trans p_k
  have p_D := p_D.keeps hw23
  have q_k := (hw23.block _ (Array.getElem?_eq_some_iff.1 q_k).1).trans q_k
  have q_D := q_D.keeps hw23
  have x_k := (hw23.block _ (Array.getElem?_eq_some_iff.1 x_k).1).trans x_k
  have x_D := x_D.keeps hw23
  have y_k := (hw23.block _ (Array.getElem?_eq_some_iff.1 y_k).1).trans y_k
  have y_D := y_D.keeps hw23
  have z_k := (hw23.block _ (Array.getElem?_eq_some_iff.1 z_k).1).trans z_k
  have z_D := z_D.keeps hw23
  have hb23 := bel_trans hb22 hw23
  go_wp2
  go_ret
  exact ⟨rfl, hb23⟩
theorem own : ownKnob Tryd.prog.godebug = none := by kernel_rfl
theorem laidOut : laidOutB Tryd.prog = true := by kernel_rfl
theorem door_met (os : Os) (args : Array Value) : laidMetH Tryd.prog Rows.dyadicRingRow.laid ((World.doorLaid Tryd.prog 400 os).forCall (fun _ _ => 0) ⟨#[], args, []⟩).memory :=
  laidMetH_of_parts3 (fuel := 8) (laidMet_of_run' 8 (by kernel_rfl) (by kernel_rfl)) (by kernel_rfl) (by kernel_rfl)
set_option maxRecDepth 100000 in
theorem lifted (os : Os) (started : os.Started) (H : Type) (enc : TypeId × Value → H) :
    ReturnsInHanded {} Tryd.checked os 7 .any (fun w args => (Rows.dyadicRingSpec.pre enc Tryd.prog Tryd.f7 [] false w args ∧ laidMetH Tryd.prog Rows.dyadicRingRow.laid w) ∧ sizedMet enc Tryd.prog Tryd.f7 (OpenSpec.ofChange Rows.dyadicRingSpec) false w args)
      (Rows.dyadicRingSpec.post enc Tryd.prog Tryd.f7 false true false false) := by
  refine returnsInHanded_of_change_and (C := Tryd.checked) (X := fun w _ => laidMetH Tryd.prog Rows.dyadicRingRow.laid w) (fun _ _ _ hh h => h.of_heap hh) own started (by kernel_rfl) Tryd.func7
    (ChangeSpec.witness_shaped (enc := enc) (C := Tryd.checked) (os := os) (X := fun w _ => laidMetH Tryd.prog Rows.dyadicRingRow.laid w) false (World.doorLaid Tryd.prog 400 os) #[.agg #[.bool false, .slice none 0 0, .int .i64 0], .agg #[.bool false, .slice none 0 0, .int .i64 0], .agg #[.bool false, .slice none 0 0, .int .i64 0]] 8 rfl (World.shaped_of_RefB (by kernel_rfl) (by kernel_rfl)) (by kernel_rfl) (by kernel_rfl) (by kernel_rfl) (door_met os _)) ?_
  intro W base args ds gs before hval0 hW _ _ hL _
  have hval : ∀ (j : Nat) t v, Tryd.f7.params[j]? = some t → args[j]? = some v → Value.okWide Tryd.prog W .any base t v := hval0
  have hW' := hW
  obtain ⟨p, q, hA0, hV, rfl, hfz, hnd⟩ := hW
  have hA : DataW.TrodAll enc Tryd.prog W 0 (fun _ => true) true Tryd.f7.params.toList args.toList ds p := hA0
  rw [Tryd.params7] at hA hval
  obtain ⟨v0, vs0, d0, ds0, p0, q0, hargs, rfl, rfl, h0, r0⟩ := trodAll_cons hA
  obtain ⟨v1, vs1, d1, ds1, p1, q1, rfl, rfl, rfl, h1, r1⟩ := trodAll_cons r0
  obtain ⟨v2, vs2, d2, ds2, p2, q2, rfl, rfl, rfl, h2, r2⟩ := trodAll_cons r1
  obtain ⟨rfl, rfl, rfl⟩ := trodAll_nil r2
  obtain rfl : args = #[v0, v1, v2] := by cases args; simp_all
  obtain ⟨rfl, rfl⟩ := trodVars_none hV
  have k0 := h0
  have lt0 : ∀ x ∈ p0, x.block < W.heap.size := by obtain ⟨m, hm⟩ := k0; exact DataW.trod_lt m _ _ _ hm
  obtain ⟨x0, rfl, w0, g0⟩ := num_of (hval 0 31 v0 rfl rfl) h0
  have k1 := h1
  have lt1 : ∀ x ∈ p1, x.block < W.heap.size := by obtain ⟨m, hm⟩ := k1; exact DataW.trod_lt m _ _ _ hm
  obtain ⟨x1, rfl, w1, g1⟩ := num_of (hval 1 31 v1 rfl rfl) h1
  have k2 := h2
  have lt2 : ∀ x ∈ p2, x.block < W.heap.size := by obtain ⟨m, hm⟩ := k2; exact DataW.trod_lt m _ _ _ hm
  obtain ⟨x2, rfl, w2, g2⟩ := num_of (hval 2 31 v2 rfl rfl) h2
  clear hA0 hval0
  refine (walk x0 x1 x2 W w0 g0 w1 g1 w2 g2 (hold_of hL)).mono fun e W' ⟨he, bel⟩ => ?_
  subst he
  exact ⟨_, rfl, _, _, _, [], _, [], hW', trodAll_mk1 (shut_bool Tryd.underlying4 _), (trodAll_cons_mk (Below.trod laidOut (by kernel_rfl) (of_decide_eq_true (by kernel_rfl)) k0 bel lt0) (trodAll_cons_mk (Below.trod laidOut (by kernel_rfl) (of_decide_eq_true (by kernel_rfl)) k1 bel lt1) (trodAll_cons_mk (Below.trod laidOut (by kernel_rfl) (of_decide_eq_true (by kernel_rfl)) k2 bel lt2) trodAll_mk0))), rfl, bel.frame _, fun h => by cases h⟩
theorem said : Rows.DyadicRingSaid :=
  OpenClaim.holds_of_wide 7 Tryd.f7 rfl rfl rfl rfl rfl rfl rfl ⟨rfl, rfl, rfl, rfl, rfl⟩ rfl rfl rfl rfl rfl (by kernel_rfl) Tryd.func7 (by kernel_rfl)
    (of_decide_eq_true (by kernel_rfl)) (by unfold Func.isWrapper; first | (rw [if_pos (by decide +kernel)]; kernel_rfl) | (rw [if_neg (by decide +kernel)]; exact ⟨rfl, rfl⟩))
    (fun os started H enc _ => lifted os started H enc)
theorem plain (f : FuncId) (fn : Func) (hf : Tryd.pinned.checked.prog.funcNamed Tryd.f7.name = some f) (hfn : Tryd.pinned.checked.prog.funcs[f]? = some fn) :
    true = Tryd.pinned.checked.prog.looks [] ∧ ∀ (j : Nat) t, fn.params[j]? = some t → Tryd.pinned.checked.prog.wantsStandIn t = false := by
  obtain rfl : f = 7 := Option.some.inj ((show Tryd.prog.funcNamed Tryd.f7.name = some 7 by kernel_rfl).symm.trans hf) |>.symm
  obtain rfl : fn = Tryd.f7 := (Option.some.inj (Tryd.func7.symm.trans hfn)).symm
  refine ⟨by kernel_rfl, fun j t ht => ?_⟩
  rw [Tryd.params7] at ht
  obtain rfl : t = 31 := by simpa using Array.mem_of_getElem? ht
  exact (show Tryd.prog.wantsStandIn 31 = false by kernel_rfl)
/-- THE CARD. -/
theorem card : Rows.DyadicRingCardSaid :=
  Claim7.holds_tied_plain_at .later [] _ _ _ _ said (fun _ h => by cases h) (by kernel_rfl) (fun _ h => by cases h) dyadicRing_row_tie rfl ⟨rfl, rfl⟩ (by kernel_rfl) rfl plain (by kernel_rfl)
end Go.Proofs.YtlmoeclfjogoaaaDoor.dyadicRing
namespace Go.Proofs.YtlmoeclfjogoaaaDoor
/-- DyadicRing: the statement as it is given. -/
theorem dyadicRing_holds : Rows.DyadicRingCardSaid := dyadicRing.card
end Go.Proofs.YtlmoeclfjogoaaaDoor
