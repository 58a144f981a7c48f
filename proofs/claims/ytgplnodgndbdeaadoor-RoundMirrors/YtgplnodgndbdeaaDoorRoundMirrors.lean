/-
  RoundMirrors: for any two numbers and every way the law returns true: with the other sign down is up; what is greater is not rounded to less. As a card: the library's tables and the layouts start as the program's text lays them.
-/
import Derived.Test.YtgplnodgndbdeaaDoorPart14
import Derived.Test.YtgplnodgndbdeaaDoorCards
import Derived.Test.YtgplnodgndbdeaaDoorTie
namespace Go.Proofs.YtgplnodgndbdeaaDoor.roundMirrors
open Go Go.ChangeShapes Go.WideShapes Go.ChangeAt Go.RowKit Go.Proofs.YtgplnodgndbdeaaDoor Go.Proofs.YtgplnodgndbdeaaDoor.M
set_option linter.unusedSimpArgs false
set_option linter.unusedVariables false

set_option maxRecDepth 100000 in
set_option maxHeartbeats 8000000 in
theorem walk (l m : NumR) (way : Int) (w : World) (hl : Row w l.ao l.n l.cap l.d) (el : rng l.e) (hm : Row w m.ao m.n m.cap m.d) (em : rng m.e) (hway : rng way) (H : Hold4 w) :
    Calls Tryd.prog 5 #[l.v, m.v, .int .i64 way] w fun e w' => e = .returned (.bool true) ∧ Below w.heap.size w w' := by
  have l_N := fun W hb => num4_B l W (hl.keeps hb) el
  have m_N := fun W hb => num4_B m W (hm.keeps hb) em
  unfold NumR.v at *
  obtain ⟨l_g, l_o, l_n, l_c, l_d, l_e⟩ := l
  obtain ⟨m_g, m_o, m_n, m_c, m_d, m_e⟩ := m
  simp only at *
  clear hl el hm em
  obtain ⟨k, hk, hk3⟩ : ∃ k : Nat, bits .and .i64 way 3 = (k : Int) ∧ k ≤ 3 := ⟨(way % 4).toNat, (and_i64_mask way 2 (by decide)).trans (show way % 4 = ((way % 4).toNat : Int) by omega), by omega⟩
  go_enter Tryd.func5, Tryd.ntmps5
  have l_k : ((w.alloc (.cells #[.bool l_g, .slice l_o l_n l_c, .int .i64 l_e] 24)).alloc (.cells #[.bool m_g, .slice m_o m_n m_c, .int .i64 m_e] 24)).heap[w.heap.size]? = some (.cells #[.bool l_g, .slice l_o l_n l_c, .int .i64 l_e] 24 (0, 0)) := heap_a2 _ _ _
  have m_k : ((w.alloc (.cells #[.bool l_g, .slice l_o l_n l_c, .int .i64 l_e] 24)).alloc (.cells #[.bool m_g, .slice m_o m_n m_c, .int .i64 m_e] 24)).heap[w.heap.size + 1]? = some (.cells #[.bool m_g, .slice m_o m_n m_c, .int .i64 m_e] 24 (0, 0)) := heap_b2 _ _ _
  have hb0 : Below w.heap.size w ((w.alloc (.cells #[.bool l_g, .slice l_o l_n l_c, .int .i64 l_e] 24)).alloc (.cells #[.bool m_g, .slice m_o m_n m_c, .int .i64 m_e] 24)) := bel_alloc2 _ _ _
  go_wp2_with fail
  generalize ((w.alloc (.cells #[.bool l_g, .slice l_o l_n l_c, .int .i64 l_e] 24)).alloc (.cells #[.bool m_g, .slice m_o m_n m_c, .int .i64 m_e] 24)) = x0 at l_k m_k hb0 ⊢
  have H := H.keeps hb0
  refine (l_N _ hb0 H.tab).mono ?_
  rintro _ y1 ⟨v, a_V, rfl, h1 , a_B⟩
  obtain ⟨a_g, a_o, a_n, a_c, a_e, rfl⟩ := dans_shape h1
  have hw1 := h1.below
  have a_D := h1.num
  have H := H.keeps hw1
  have l_k := (hw1.block _ (Array.getElem?_eq_some_iff.1 l_k).1).trans l_k
  have m_k := (hw1.block _ (Array.getElem?_eq_some_iff.1 m_k).1).trans m_k
  have hb1 := bel_trans hb0 hw1
  have l_k := heap_past (.cells #[.bool a_g, .slice a_o a_n a_c, .int .i64 a_e] 24) l_k
  have m_k := heap_past (.cells #[.bool a_g, .slice a_o a_n a_c, .int .i64 a_e] 24) m_k
  have a_k := heap_a1 y1 (.cells #[.bool a_g, .slice a_o a_n a_c, .int .i64 a_e] 24)
  have a_D := a_D.keeps (bel_alloc y1 (.cells #[.bool a_g, .slice a_o a_n a_c, .int .i64 a_e] 24))
  have H := H.keeps (bel_alloc y1 (.cells #[.bool a_g, .slice a_o a_n a_c, .int .i64 a_e] 24))
  have hb2' := bel_trans hb1 (bel_alloc y1 (.cells #[.bool a_g, .slice a_o a_n a_c, .int .i64 a_e] 24))
  have f_m0 := blkC m_k 0 rfl
  have f_m1 := blkC m_k 1 rfl
  have f_m2 := blkC m_k 2 rfl
  go_wp2_with fail
  clear f_m0 f_m1 f_m2
  generalize y1.alloc (.cells #[.bool a_g, .slice a_o a_n a_c, .int .i64 a_e] 24) = x2 at l_k m_k a_k a_D H hb2' ⊢
  refine (m_N _ hb2' H.tab).mono ?_
  rintro _ y2 ⟨v, b_V, rfl, h2 , b_B⟩
  obtain ⟨b_g, b_o, b_n, b_c, b_e, rfl⟩ := dans_shape h2
  have hw2 := h2.below
  have b_D := h2.num
  have H := H.keeps hw2
  have l_k := (hw2.block _ (Array.getElem?_eq_some_iff.1 l_k).1).trans l_k
  have m_k := (hw2.block _ (Array.getElem?_eq_some_iff.1 m_k).1).trans m_k
  have a_k := (hw2.block _ (Array.getElem?_eq_some_iff.1 a_k).1).trans a_k
  have a_D := a_D.keeps hw2
  have hb2 := bel_trans hb2' hw2
  clear l_N m_N
  obtain ⟨f, FA, _, hRA, hNA⟩ := to_nea a_D (a_B.ok (by omega)) H
  obtain ⟨h, FB, _, hRB, hNB⟩ := to_nea b_D (b_B.ok (by omega)) H
  have hbl := bel_alloc2 y2 (.cells #[.bool b_g, .slice b_o b_n b_c, .int .i64 b_e] 24) (.cells #[.int .i64 0, .int .i64 2, .int .i64 1, .int .i64 3] 3)
  have l_k := heap_past (.cells #[.int .i64 0, .int .i64 2, .int .i64 1, .int .i64 3] 3) (heap_past (.cells #[.bool b_g, .slice b_o b_n b_c, .int .i64 b_e] 24) l_k)
  have m_k := heap_past (.cells #[.int .i64 0, .int .i64 2, .int .i64 1, .int .i64 3] 3) (heap_past (.cells #[.bool b_g, .slice b_o b_n b_c, .int .i64 b_e] 24) m_k)
  have a_k := heap_past (.cells #[.int .i64 0, .int .i64 2, .int .i64 1, .int .i64 3] 3) (heap_past (.cells #[.bool b_g, .slice b_o b_n b_c, .int .i64 b_e] 24) a_k)
  have b_k := heap_past (.cells #[.int .i64 0, .int .i64 2, .int .i64 1, .int .i64 3] 3) (heap_a1 y2 (.cells #[.bool b_g, .slice b_o b_n b_c, .int .i64 b_e] 24))
  have a_D := a_D.keeps hbl
  have b_D := b_D.keeps hbl
  have H := H.keeps hbl
  have FA := FA.keeps hbl
  have FB := FB.keeps hbl
  have hI := lit4 (heap_b2 y2 (.cells #[.bool b_g, .slice b_o b_n b_c, .int .i64 b_e] 24) (.cells #[.int .i64 0, .int .i64 2, .int .i64 1, .int .i64 3] 3)) hk3
  have hb3' := bel_trans hb2 hbl
  have f_a0 := blkC a_k 0 rfl
  have f_a1 := blkC a_k 1 rfl
  have f_a2 := blkC a_k 2 rfl
  go_wp2_with fail
  clear f_a0 f_a1 f_a2 hI hbl
  generalize (y2.alloc (.cells #[.bool b_g, .slice b_o b_n b_c, .int .i64 b_e] 24)).alloc (.cells #[.int .i64 0, .int .i64 2, .int .i64 1, .int .i64 3] 3) = x3 at l_k m_k a_k b_k a_D b_D H FA FB hb3' ⊢
  refine (neg_D a_D (a_B.ok (by omega))).mono ?_
  rintro _ y4 ⟨v, rfl, h4⟩
  obtain ⟨n_g, n_o, n_n, n_c, n_e, rfl⟩ := dans_shape h4
  have hw4 := h4.below
  have n_D := h4.num
  have H := H.keeps hw4
  have FA := FA.keeps hw4
  have FB := FB.keeps hw4
  have l_k := (hw4.block _ (Array.getElem?_eq_some_iff.1 l_k).1).trans l_k
  have m_k := (hw4.block _ (Array.getElem?_eq_some_iff.1 m_k).1).trans m_k
  have a_k := (hw4.block _ (Array.getElem?_eq_some_iff.1 a_k).1).trans a_k
  have a_D := a_D.keeps hw4
  have b_k := (hw4.block _ (Array.getElem?_eq_some_iff.1 b_k).1).trans b_k
  have b_D := b_D.keeps hw4
  have hb4 := bel_trans hb3' hw4
  have n_B := a_B.neg
  obtain ⟨g, FN, _, hRN, hNN⟩ := to_nea n_D (n_B.ok (by omega)) H
  have hk4 : 0 ≤ (k : Int) ∧ (k : Int) ≤ 3 := by omega
  have hmw := mirW_in hk4
  have l_k := heap_past (.cells #[.bool n_g, .slice n_o n_n n_c, .int .i64 n_e] 24) l_k
  have m_k := heap_past (.cells #[.bool n_g, .slice n_o n_n n_c, .int .i64 n_e] 24) m_k
  have a_k := heap_past (.cells #[.bool n_g, .slice n_o n_n n_c, .int .i64 n_e] 24) a_k
  have b_k := heap_past (.cells #[.bool n_g, .slice n_o n_n n_c, .int .i64 n_e] 24) b_k
  have n_k := heap_a1 y4 (.cells #[.bool n_g, .slice n_o n_n n_c, .int .i64 n_e] 24)
  have a_D := a_D.keeps (bel_alloc y4 (.cells #[.bool n_g, .slice n_o n_n n_c, .int .i64 n_e] 24))
  have b_D := b_D.keeps (bel_alloc y4 (.cells #[.bool n_g, .slice n_o n_n n_c, .int .i64 n_e] 24))
  have n_D := n_D.keeps (bel_alloc y4 (.cells #[.bool n_g, .slice n_o n_n n_c, .int .i64 n_e] 24))
  have H := H.keeps (bel_alloc y4 (.cells #[.bool n_g, .slice n_o n_n n_c, .int .i64 n_e] 24))
  have FA := FA.keeps (bel_alloc y4 (.cells #[.bool n_g, .slice n_o n_n n_c, .int .i64 n_e] 24))
  have FB := FB.keeps (bel_alloc y4 (.cells #[.bool n_g, .slice n_o n_n n_c, .int .i64 n_e] 24))
  have FN := FN.keeps (bel_alloc y4 (.cells #[.bool n_g, .slice n_o n_n n_c, .int .i64 n_e] 24))
  have hb5' := bel_trans hb4 (bel_alloc y4 (.cells #[.bool n_g, .slice n_o n_n n_c, .int .i64 n_e] 24))
  have f_a0 := blkC a_k 0 rfl
  have f_a1 := blkC a_k 1 rfl
  have f_a2 := blkC a_k 2 rfl
  go_wp2_with fail
  clear f_a0 f_a1 f_a2
  generalize y4.alloc (.cells #[.bool n_g, .slice n_o n_n n_c, .int .i64 n_e] 24) = x5 at l_k m_k a_k b_k n_k a_D b_D n_D H FA FB FN hb5' ⊢
  refine (FA.at _ hk4).mono ?_
  rintro _ y5 ⟨rfl, hw5⟩
  have H := H.keeps hw5
  have FA := FA.keeps hw5
  have FB := FB.keeps hw5
  have FN := FN.keeps hw5
  have l_k := (hw5.block _ (Array.getElem?_eq_some_iff.1 l_k).1).trans l_k
  have m_k := (hw5.block _ (Array.getElem?_eq_some_iff.1 m_k).1).trans m_k
  have a_k := (hw5.block _ (Array.getElem?_eq_some_iff.1 a_k).1).trans a_k
  have a_D := a_D.keeps hw5
  have b_k := (hw5.block _ (Array.getElem?_eq_some_iff.1 b_k).1).trans b_k
  have b_D := b_D.keeps hw5
  have n_k := (hw5.block _ (Array.getElem?_eq_some_iff.1 n_k).1).trans n_k
  have n_D := n_D.keeps hw5
  have hb5 := bel_trans hb5' hw5
  have f_n0 := blkC n_k 0 rfl
  have f_n1 := blkC n_k 1 rfl
  have f_n2 := blkC n_k 2 rfl
  go_wp2_with fail
  clear f_n0 f_n1 f_n2
  refine (FN.at _ hmw).mono ?_
  rintro _ y6 ⟨rfl, hw6⟩
  have H := H.keeps hw6
  have FA := FA.keeps hw6
  have FB := FB.keeps hw6
  have FN := FN.keeps hw6
  have l_k := (hw6.block _ (Array.getElem?_eq_some_iff.1 l_k).1).trans l_k
  have m_k := (hw6.block _ (Array.getElem?_eq_some_iff.1 m_k).1).trans m_k
  have a_k := (hw6.block _ (Array.getElem?_eq_some_iff.1 a_k).1).trans a_k
  have a_D := a_D.keeps hw6
  have b_k := (hw6.block _ (Array.getElem?_eq_some_iff.1 b_k).1).trans b_k
  have b_D := b_D.keeps hw6
  have n_k := (hw6.block _ (Array.getElem?_eq_some_iff.1 n_k).1).trans n_k
  have n_D := n_D.keeps hw6
  have hb6 := bel_trans hb5 hw6
  have f_b0 := blkC b_k 0 rfl
  have f_b1 := blkC b_k 1 rfl
  have f_b2 := blkC b_k 2 rfl
  go_wp2_with fail
  clear f_b0 f_b1 f_b2
  refine (FB.at _ hk4).mono ?_
  rintro _ y7 ⟨rfl, hw7⟩
  have H := H.keeps hw7
  have FA := FA.keeps hw7
  have FB := FB.keeps hw7
  have FN := FN.keeps hw7
  have l_k := (hw7.block _ (Array.getElem?_eq_some_iff.1 l_k).1).trans l_k
  have m_k := (hw7.block _ (Array.getElem?_eq_some_iff.1 m_k).1).trans m_k
  have a_k := (hw7.block _ (Array.getElem?_eq_some_iff.1 a_k).1).trans a_k
  have a_D := a_D.keeps hw7
  have b_k := (hw7.block _ (Array.getElem?_eq_some_iff.1 b_k).1).trans b_k
  have b_D := b_D.keeps hw7
  have n_k := (hw7.block _ (Array.getElem?_eq_some_iff.1 n_k).1).trans n_k
  have n_D := n_D.keeps hw7
  have hb7 := bel_trans hb6 hw7
  have f_a0 := blkC a_k 0 rfl
  have f_a1 := blkC a_k 1 rfl
  have f_a2 := blkC a_k 2 rfl
  have f_b0 := blkC b_k 0 rfl
  have f_b1 := blkC b_k 1 rfl
  have f_b2 := blkC b_k 2 rfl
  go_wp2_with fail
  clear f_a0 f_a1 f_a2 f_b0 f_b1 f_b2
  refine (cmp_D a_D b_D (a_B.ok (by omega)) (b_B.ok (by omega))).mono ?_
  rintro _ y8 ⟨rfl, hw8⟩
  have H := H.keeps hw8
  have FA := FA.keeps hw8
  have FB := FB.keeps hw8
  have FN := FN.keeps hw8
  have l_k := (hw8.block _ (Array.getElem?_eq_some_iff.1 l_k).1).trans l_k
  have m_k := (hw8.block _ (Array.getElem?_eq_some_iff.1 m_k).1).trans m_k
  have a_k := (hw8.block _ (Array.getElem?_eq_some_iff.1 a_k).1).trans a_k
  have a_D := a_D.keeps hw8
  have b_k := (hw8.block _ (Array.getElem?_eq_some_iff.1 b_k).1).trans b_k
  have b_D := b_D.keeps hw8
  have n_k := (hw8.block _ (Array.getElem?_eq_some_iff.1 n_k).1).trans n_k
  have n_D := n_D.keeps hw8
  have hb8 := bel_trans hb7 hw8
  go_wp2_with fail
  refine (alive4 _ H.env H.tab).mono ?_
  rintro _ y9 ⟨rfl, hw9⟩
  have H := H.keeps hw9
  have FA := FA.keeps hw9
  have FB := FB.keeps hw9
  have FN := FN.keeps hw9
  have l_k := (hw9.block _ (Array.getElem?_eq_some_iff.1 l_k).1).trans l_k
  have m_k := (hw9.block _ (Array.getElem?_eq_some_iff.1 m_k).1).trans m_k
  have a_k := (hw9.block _ (Array.getElem?_eq_some_iff.1 a_k).1).trans a_k
  have a_D := a_D.keeps hw9
  have b_k := (hw9.block _ (Array.getElem?_eq_some_iff.1 b_k).1).trans b_k
  have b_D := b_D.keeps hw9
  have n_k := (hw9.block _ (Array.getElem?_eq_some_iff.1 n_k).1).trans n_k
  have n_D := n_D.keeps hw9
  have hb9 := bel_trans hb8 hw9
  obtain ⟨m1, m2⟩ := rd_mir hNA hNN hk4
  have m3 : b_V ≤ a_V → less (f k).1 (h k).1 = false := fun e => rd_mono hNB hNA e _
  have m4 : a_V ≤ b_V → less (h k).1 (f k).1 = false := fun e => rd_mono hNA hNB e _
  have r1 := hRA k
  have r2 := hRN (mirW k)
  have r3 := hRB k
  rw [← m1]
  have m3 : ord a_V b_V < 0 ∨ less (f k).1 (h k).1 = false := by
    by_cases e : a_V < b_V
    · left; exact ord_neg_iff.2 e
    · right; exact m3 (by omega)
  have m4 : 0 < ord a_V b_V ∨ less (h k).1 (f k).1 = false := by
    by_cases e : b_V < a_V
    · left; exact ord_pos_iff.2 e
    · right; exact m4 (by omega)
  clear hRA hRB hRN hNA hNB hNN FA FB FN m1
  generalize (f k).1 = p at *
  generalize (f k).2 = o at *
  generalize (g (mirW k)).1 = q at *
  generalize (h k).1 = r at *
  generalize ord a_V b_V = c at *
  have m3 : Hid (c < 0 ∨ less p r = false) := m3
  have m4 : Hid (0 < c ∨ less r p = false) := m4
  have m2 : Hid (same (neg p) q = true) := m2
  cases o
  · go_wp2_with fail
    refine (neg_Bb r1 H).mono ?_
    rintro _ y10 ⟨rfl, hw10⟩
    have H := H.keeps hw10
    have hb10 := bel_trans hb9 hw10
    go_wp2_with fail
    refine (same_B (rng_neg r1) r2).mono ?_
    rintro _ y11 ⟨rfl, hw11⟩
    have H := H.keeps hw11
    have hb11 := bel_trans hb10 hw11
    rw [m2.out]
    by_cases c1 : 0 < c
    · have c2 : ¬ c < 0 := by omega
      have m3' : less p r = false := by rcases m3.out with e | e; exact absurd e c2; exact e
      clear m3 m4 m2
      go_wp2_with fail
      refine (less_B r1 r3).mono ?_
      rintro _ y12 ⟨rfl, hw12⟩
      have H := H.keeps hw12
      have hb12 := bel_trans hb11 hw12
      rw [m3']
      go_wp2
      all_goals go_ret
      all_goals exact ⟨rfl, hb12⟩
    · have m4' : less r p = false := by rcases m4.out with e | e; exact absurd e c1; exact e
      go_wp2_with fail
      refine (less_B r3 r1).mono ?_
      rintro _ y12 ⟨rfl, hw12⟩
      have H := H.keeps hw12
      have hb12 := bel_trans hb11 hw12
      rw [m4']
      by_cases c2 : c < 0
      · clear m3 m4 m2 m4'
        go_wp2
        all_goals go_ret
        all_goals exact ⟨rfl, hb12⟩
      · have m3' : less p r = false := by rcases m3.out with e | e; exact absurd e c2; exact e
        clear m3 m4 m2
        go_wp2_with fail
        refine (less_B r1 r3).mono ?_
        rintro _ y13 ⟨rfl, hw13⟩
        have H := H.keeps hw13
        have hb13 := bel_trans hb12 hw13
        rw [m3']
        go_wp2
        all_goals go_ret
        all_goals exact ⟨rfl, hb13⟩
  · go_wp2_with fail
    refine (neg_Bb r1 H).mono ?_
    rintro _ y10 ⟨rfl, hw10⟩
    have H := H.keeps hw10
    have hb10 := bel_trans hb9 hw10
    go_wp2_with fail
    refine (same_B (rng_neg r1) r2).mono ?_
    rintro _ y11 ⟨rfl, hw11⟩
    have H := H.keeps hw11
    have hb11 := bel_trans hb10 hw11
    rw [m2.out]
    by_cases c1 : 0 < c
    · have c2 : ¬ c < 0 := by omega
      have m3' : less p r = false := by rcases m3.out with e | e; exact absurd e c2; exact e
      clear m3 m4 m2
      go_wp2_with fail
      refine (less_B r1 r3).mono ?_
      rintro _ y12 ⟨rfl, hw12⟩
      have H := H.keeps hw12
      have hb12 := bel_trans hb11 hw12
      rw [m3']
      go_wp2
      all_goals go_ret
      all_goals exact ⟨rfl, hb12⟩
    · have m4' : less r p = false := by rcases m4.out with e | e; exact absurd e c1; exact e
      go_wp2_with fail
      refine (less_B r3 r1).mono ?_
      rintro _ y12 ⟨rfl, hw12⟩
      have H := H.keeps hw12
      have hb12 := bel_trans hb11 hw12
      rw [m4']
      by_cases c2 : c < 0
      · clear m3 m4 m2 m4'
        go_wp2
        all_goals go_ret
        all_goals exact ⟨rfl, hb12⟩
      · have m3' : less p r = false := by rcases m3.out with e | e; exact absurd e c2; exact e
        clear m3 m4 m2
        go_wp2_with fail
        refine (less_B r1 r3).mono ?_
        rintro _ y13 ⟨rfl, hw13⟩
        have H := H.keeps hw13
        have hb13 := bel_trans hb12 hw13
        rw [m3']
        go_wp2
        all_goals go_ret
        all_goals exact ⟨rfl, hb13⟩
theorem own : ownKnob Tryd.prog.godebug = none := by kernel_rfl
theorem laidOut : laidOutB Tryd.prog = true := by kernel_rfl
theorem door_met (os : Os) (args : Array Value) : laidMetH Tryd.prog Rows.roundMirrorsRow.laid ((World.doorLaid Tryd.prog 400 os).forCall (fun _ _ => 0) ⟨#[], args, []⟩).memory :=
  laidMetH_of_parts3 (fuel := 8) (laidMet_of_run' 8 (by kernel_rfl) (by kernel_rfl)) (by kernel_rfl) (by kernel_rfl)
set_option maxRecDepth 100000 in
theorem lifted (os : Os) (started : os.Started) (H : Type) (enc : TypeId × Value → H) :
    ReturnsInHanded {} Tryd.checked os 5 .any (fun w args => (Rows.roundMirrorsSpec.pre enc Tryd.prog Tryd.f5 [] false w args ∧ laidMetH Tryd.prog Rows.roundMirrorsRow.laid w) ∧ sizedMet enc Tryd.prog Tryd.f5 (OpenSpec.ofChange Rows.roundMirrorsSpec) false w args)
      (Rows.roundMirrorsSpec.post enc Tryd.prog Tryd.f5 false true false false) := by
  refine returnsInHanded_of_change_and (C := Tryd.checked) (X := fun w _ => laidMetH Tryd.prog Rows.roundMirrorsRow.laid w) (fun _ _ _ hh h => h.of_heap hh) own started (by kernel_rfl) Tryd.func5
    (ChangeSpec.witness_shaped (enc := enc) (C := Tryd.checked) (os := os) (X := fun w _ => laidMetH Tryd.prog Rows.roundMirrorsRow.laid w) false (World.doorLaid Tryd.prog 400 os) #[.agg #[.bool false, .slice none 0 0, .int .i64 0], .agg #[.bool false, .slice none 0 0, .int .i64 0], .int .i64 0] 8 rfl (World.shaped_of_RefB (by kernel_rfl) (by kernel_rfl)) (by kernel_rfl) (by kernel_rfl) (by kernel_rfl) (door_met os _)) ?_
  intro W base args ds gs before hval0 hW _ _ hL _
  have hval : ∀ (j : Nat) t v, Tryd.f5.params[j]? = some t → args[j]? = some v → Value.okWide Tryd.prog W .any base t v := hval0
  have hW' := hW
  obtain ⟨p, q, hA0, hV, rfl, hfz, hnd⟩ := hW
  have hA : DataW.TrodAll enc Tryd.prog W 0 (fun _ => true) true Tryd.f5.params.toList args.toList ds p := hA0
  rw [Tryd.params5] at hA hval
  obtain ⟨v0, vs0, d0, ds0, p0, q0, hargs, rfl, rfl, h0, r0⟩ := trodAll_cons hA
  obtain ⟨v1, vs1, d1, ds1, p1, q1, rfl, rfl, rfl, h1, r1⟩ := trodAll_cons r0
  obtain ⟨v2, vs2, d2, ds2, p2, q2, rfl, rfl, rfl, h2, r2⟩ := trodAll_cons r1
  obtain ⟨rfl, rfl, rfl⟩ := trodAll_nil r2
  obtain rfl : args = #[v0, v1, v2] := by cases args; simp_all
  obtain ⟨rfl, rfl⟩ := trodVars_none hV
  have k0 := h0
  have lt0 : ∀ x ∈ p0, x.block < W.heap.size := by obtain ⟨m, hm⟩ := k0; exact DataW.trod_lt m _ _ _ hm
  obtain ⟨x0, rfl, w0, g0⟩ := num_of (hval 0 24 v0 rfl rfl) h0
  have k1 := h1
  have lt1 : ∀ x ∈ p1, x.block < W.heap.size := by obtain ⟨m, hm⟩ := k1; exact DataW.trod_lt m _ _ _ hm
  obtain ⟨x1, rfl, w1, g1⟩ := num_of (hval 1 24 v1 rfl rfl) h1
  obtain ⟨a2, rfl, rfl, rfl, w2⟩ := open_int Tryd.underlying3 (hval 2 3 v2 rfl rfl) h2
  clear hA0 hval0
  refine (walk x0 x1 a2 W w0 g0 w1 g1 (rng_of w2) (hold4_of hL)).mono fun e W' ⟨he, bel⟩ => ?_
  subst he
  exact ⟨_, rfl, _, _, _, [], _, [], hW', trodAll_mk1 (shut_bool Tryd.underlying4 _), (trodAll_cons_mk (Below.trod laidOut (by kernel_rfl) (of_decide_eq_true (by kernel_rfl)) k0 bel lt0) (trodAll_cons_mk (Below.trod laidOut (by kernel_rfl) (of_decide_eq_true (by kernel_rfl)) k1 bel lt1) (trodAll_cons_mk (shut_int Tryd.underlying3 w2) trodAll_mk0))), rfl, bel.frame _, fun h => by cases h⟩
theorem said : Rows.RoundMirrorsSaid :=
  OpenClaim.holds_of_wide 5 Tryd.f5 rfl rfl rfl rfl rfl rfl rfl ⟨rfl, rfl, rfl, rfl, rfl⟩ rfl rfl rfl rfl rfl (by kernel_rfl) Tryd.func5 (by kernel_rfl)
    (of_decide_eq_true (by kernel_rfl)) (by unfold Func.isWrapper; first | (rw [if_pos (by decide +kernel)]; kernel_rfl) | (rw [if_neg (by decide +kernel)]; exact ⟨rfl, rfl⟩))
    (fun os started H enc _ => lifted os started H enc)
theorem plain (f : FuncId) (fn : Func) (hf : Tryd.pinned.checked.prog.funcNamed Tryd.f5.name = some f) (hfn : Tryd.pinned.checked.prog.funcs[f]? = some fn) :
    true = Tryd.pinned.checked.prog.looks [] ∧ ∀ (j : Nat) t, fn.params[j]? = some t → Tryd.pinned.checked.prog.wantsStandIn t = false := by
  obtain rfl : f = 5 := Option.some.inj ((show Tryd.prog.funcNamed Tryd.f5.name = some 5 by kernel_rfl).symm.trans hf) |>.symm
  obtain rfl : fn = Tryd.f5 := (Option.some.inj (Tryd.func5.symm.trans hfn)).symm
  refine ⟨by kernel_rfl, fun j t ht => ?_⟩
  rw [Tryd.params5] at ht
  have ht2 : t = 24 ∨ t = 3 := by simpa using Array.mem_of_getElem? ht
  rcases ht2 with rfl | rfl
  · exact (show Tryd.prog.wantsStandIn 24 = false by kernel_rfl)
  · exact (show Tryd.prog.wantsStandIn 3 = false by kernel_rfl)
/-- THE CARD. -/
theorem card : Rows.RoundMirrorsCardSaid :=
  Claim7.holds_tied_plain_at .later [] _ _ _ _ said (fun _ h => by cases h) (by kernel_rfl) (fun _ h => by cases h) roundMirrors_row_tie rfl ⟨rfl, rfl⟩ (by kernel_rfl) rfl plain (by kernel_rfl)
end Go.Proofs.YtgplnodgndbdeaaDoor.roundMirrors
namespace Go.Proofs.YtgplnodgndbdeaaDoor
/-- RoundMirrors: the statement as it is given. -/
theorem roundMirrors_holds : Rows.RoundMirrorsCardSaid := roundMirrors.card
end Go.Proofs.YtgplnodgndbdeaaDoor
