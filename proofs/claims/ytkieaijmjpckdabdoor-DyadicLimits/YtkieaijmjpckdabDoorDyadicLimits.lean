/-
  Proved: plumblaw3.DyadicLimits answers true: the greatest exponents, and one more; numbers of too many digits, which may come and go in a sum. As a card: the library's tables and the layout start as the program's text lays them; no other conditions.
-/
import Derived.Test.YtkieaijmjpckdabDoorPart9
import Derived.Test.YtkieaijmjpckdabDoorPart8
import Derived.Test.YtkieaijmjpckdabDoorCards
import Derived.Test.YtkieaijmjpckdabDoorTie
namespace Go.Proofs.YtkieaijmjpckdabDoor.dyadicLimits
open Go Go.ChangeShapes Go.WideShapes Go.ChangeAt Go.RowKit Go.Proofs.YtkieaijmjpckdabDoor Go.Proofs.YtkieaijmjpckdabDoor.M
set_option linter.unusedSimpArgs false
set_option linter.unusedVariables false

theorem num_lit {w : World} {g : Nat} {x : Int} (h : w.heap[g]? = some (.cells #[.int .i64 x] 3 (0, 0))) (h0 : 0 < x) (h1 : x < 1073741824) : Num w (.slice (some ⟨g, 0, none⟩) 1 1) x :=
  ⟨_, 1, 1, fun _ => x, rfl, ⟨Nat.le_refl _, by decide, (fun h => by cases h), fun _ => ⟨g, 0, rfl, (Array.getElem?_eq_some_iff.1 h).1, fun i hi => by
    match i, hi with
    | 0, _ => exact blkC h 0 rfl⟩⟩, ⟨fun i _ => by show 0 ≤ x ∧ x < 1073741824; omega, .inr (by show x ≠ 0; omega)⟩, by show 0 + x * 1 = x; omega⟩
theorem row_lit {w : World} {g : Nat} {x : Int} (h : w.heap[g]? = some (.cells #[.int .i64 x] 3 (0, 0))) : Row w (some ⟨g, 0, none⟩) 1 1 (fun _ => x) :=
  ⟨Nat.le_refl _, by decide, (fun h => by cases h), fun _ => ⟨g, 0, rfl, (Array.getElem?_eq_some_iff.1 h).1, fun i hi => by
    match i, hi with
    | 0, _ => exact blkC h 0 rfl⟩⟩
theorem make_nought {w : World} {g : Nat} (h : w.heap[g]? = some (.cells #[.int .i64 0] 3 (0, 0))) :
    Calls Tryd.prog 4 #[.bool false, .slice (some ⟨g, 0, none⟩) 1 1, .int .i64 0] w fun r w' => r = .returned (.tuple #[zeroV, .int .i64 11]) ∧ Below w.heap.size w w' :=
  dmake_bad _ _ _ _ _ _ _ (row_lit h) (by
    cases h : okB (fun _ => (0 : Int)) 1
    · rfl
    · have := (okB_out h).2.2
      rcases this with h | h
      · omega
      · exact absurd rfl h)
set_option maxRecDepth 100000 in
set_option maxHeartbeats 8000000 in
theorem far_any {t_g l_g b_g : Bool} {t_o l_o b_o : Option Addr} {t_n t_c l_n l_c b_n b_c : Nat} {t_e l_e b_e VT VL VB VY : Int} (w : World) (t_D : DNum w (.agg #[.bool t_g, .slice t_o t_n t_c, .int .i64 t_e]) VT) (l_D : DNum w (.agg #[.bool l_g, .slice l_o l_n l_c, .int .i64 l_e]) VL) (b_D : DNum w (.agg #[.bool b_g, .slice b_o b_n b_c, .int .i64 b_e]) VB)
    (oT : Hid (Dok VT)) (oL : Hid (Dok VL)) (oB : Hid (Dok VB)) (hVY : VY = mkV false 1 (-1048576)) (oY : Hid (Dok VY)) (hTY : Hid (VY < VT)) (oLL : Hid (Dok (VL + VL))) (nTY : Hid (¬ Dok (VT + VY))) (nTT : Hid (¬ Dok (VT + VT))) (hT : Tab w) :
    Calls Tryd.prog 11 #[.agg #[.bool t_g, .slice t_o t_n t_c, .int .i64 t_e], .agg #[.bool l_g, .slice l_o l_n l_c, .int .i64 l_e], .agg #[.bool b_g, .slice b_o b_n b_c, .int .i64 b_e]] w fun r w' => r = .returned (.bool true) ∧ Below w.heap.size w w' := by
  have HL : Hid (∀ W, Below w.heap.size w W → Tab W) := fun W hb => hT.keeps hb
  have CY : Hid (∀ W g, Below w.heap.size w W → W.heap[g]? = some (.cells #[.int .i64 1] 3 (0, 0)) → Calls Tryd.prog 4 #[.bool false, .slice (some ⟨g, 0, none⟩) 1 1, .int .i64 (-1048576)] W fun r w' => ∃ v, r = .returned (.tuple #[v, .int .i64 0]) ∧ DAns W w' VY v) := fun W g hb h => by rw [hVY]; exact make_yes false (-1048576) (num_lit h (by decide) (by decide)) P_one (hT.keeps hb) (dok_one (by omega) (by omega))
  clear hT hVY
  go_enter Tryd.func11, Tryd.ntmps11
  have hb0 : Below w.heap.size w w := bel_refl w
  have hbx : Below w.heap.size w ((((w.alloc (.cells #[.bool t_g, .slice t_o t_n t_c, .int .i64 t_e] 24)).alloc (.cells #[.bool l_g, .slice l_o l_n l_c, .int .i64 l_e] 24)).alloc (.cells #[.bool b_g, .slice b_o b_n b_c, .int .i64 b_e] 24)).alloc (.cells #[.int .i64 1] 3)) := bel_a4 _ _ _ _ _
  have t_k : ((((w.alloc (.cells #[.bool t_g, .slice t_o t_n t_c, .int .i64 t_e] 24)).alloc (.cells #[.bool l_g, .slice l_o l_n l_c, .int .i64 l_e] 24)).alloc (.cells #[.bool b_g, .slice b_o b_n b_c, .int .i64 b_e] 24)).alloc (.cells #[.int .i64 1] 3)).heap[w.heap.size]? = some (.cells #[.bool t_g, .slice t_o t_n t_c, .int .i64 t_e] 24 (0, 0)) := h4_0 _ _ _ _ _
  have l_k : ((((w.alloc (.cells #[.bool t_g, .slice t_o t_n t_c, .int .i64 t_e] 24)).alloc (.cells #[.bool l_g, .slice l_o l_n l_c, .int .i64 l_e] 24)).alloc (.cells #[.bool b_g, .slice b_o b_n b_c, .int .i64 b_e] 24)).alloc (.cells #[.int .i64 1] 3)).heap[w.heap.size + 1]? = some (.cells #[.bool l_g, .slice l_o l_n l_c, .int .i64 l_e] 24 (0, 0)) := h4_1 _ _ _ _ _
  have b_k : ((((w.alloc (.cells #[.bool t_g, .slice t_o t_n t_c, .int .i64 t_e] 24)).alloc (.cells #[.bool l_g, .slice l_o l_n l_c, .int .i64 l_e] 24)).alloc (.cells #[.bool b_g, .slice b_o b_n b_c, .int .i64 b_e] 24)).alloc (.cells #[.int .i64 1] 3)).heap[w.heap.size + 2]? = some (.cells #[.bool b_g, .slice b_o b_n b_c, .int .i64 b_e] 24 (0, 0)) := h4_2 _ _ _ _ _
  have i_k : ((((w.alloc (.cells #[.bool t_g, .slice t_o t_n t_c, .int .i64 t_e] 24)).alloc (.cells #[.bool l_g, .slice l_o l_n l_c, .int .i64 l_e] 24)).alloc (.cells #[.bool b_g, .slice b_o b_n b_c, .int .i64 b_e] 24)).alloc (.cells #[.int .i64 1] 3)).heap[w.heap.size + 3]? = some (.cells #[.int .i64 1] 3 (0, 0)) := h4_3 _ _ _ _ _
  go_wp2_with fail
  generalize ((((w.alloc (.cells #[.bool t_g, .slice t_o t_n t_c, .int .i64 t_e] 24)).alloc (.cells #[.bool l_g, .slice l_o l_n l_c, .int .i64 l_e] 24)).alloc (.cells #[.bool b_g, .slice b_o b_n b_c, .int .i64 b_e] 24)).alloc (.cells #[.int .i64 1] 3)) = x1 at hbx t_k l_k b_k i_k ⊢
  have t_D := t_D.keeps hbx
  have l_D := l_D.keeps hbx
  have b_D := b_D.keeps hbx
  have hb1 := bel_trans hb0 hbx
  clear hbx
  refine (CY.out _ _ hb1 i_k).mono ?_
  rintro _ y2 ⟨v, rfl, hA⟩
  obtain ⟨y_g, y_o, y_n, y_c, y_e, rfl⟩ := dans_shape hA
  have hw := hA.below
  have y_D := hA.num
  clear hA
  have t_k := (hw.block _ (Array.getElem?_eq_some_iff.1 t_k).1).trans t_k
  have t_D := t_D.keeps hw
  have l_k := (hw.block _ (Array.getElem?_eq_some_iff.1 l_k).1).trans l_k
  have l_D := l_D.keeps hw
  have b_k := (hw.block _ (Array.getElem?_eq_some_iff.1 b_k).1).trans b_k
  have b_D := b_D.keeps hw
  have i_k := (hw.block _ (Array.getElem?_eq_some_iff.1 i_k).1).trans i_k
  have hb2 := bel_trans hb1 hw
  clear hw
  have hbx : Below y2.heap.size y2 (y2.alloc (.cells #[.bool y_g, .slice y_o y_n y_c, .int .i64 y_e] 24)) := bel_alloc _ _
  have y_k : (y2.alloc (.cells #[.bool y_g, .slice y_o y_n y_c, .int .i64 y_e] 24)).heap[y2.heap.size]? = some (.cells #[.bool y_g, .slice y_o y_n y_c, .int .i64 y_e] 24 (0, 0)) := heap_a1 _ _
  have u_k := (hbx.block _ (Array.getElem?_eq_some_iff.1 t_k).1).trans t_k
  have f_t0 := blkC t_k 0 rfl
  have g_t0 := blkC u_k 0 rfl
  have f_t1 := blkC t_k 1 rfl
  have g_t1 := blkC u_k 1 rfl
  have f_t2 := blkC t_k 2 rfl
  have g_t2 := blkC u_k 2 rfl
  clear u_k
  go_wp2_with fail
  clear f_t0 g_t0 f_t1 g_t1 f_t2 g_t2
  generalize (y2.alloc (.cells #[.bool y_g, .slice y_o y_n y_c, .int .i64 y_e] 24)) = x3 at hbx y_k ⊢
  have y_D := y_D.keeps hbx
  have t_k := (hbx.block _ (Array.getElem?_eq_some_iff.1 t_k).1).trans t_k
  have t_D := t_D.keeps hbx
  have l_k := (hbx.block _ (Array.getElem?_eq_some_iff.1 l_k).1).trans l_k
  have l_D := l_D.keeps hbx
  have b_k := (hbx.block _ (Array.getElem?_eq_some_iff.1 b_k).1).trans b_k
  have b_D := b_D.keeps hbx
  have i_k := (hbx.block _ (Array.getElem?_eq_some_iff.1 i_k).1).trans i_k
  have hb3 := bel_trans hb2 hbx
  clear hbx
  refine (cmp_D t_D y_D oT.out oY.out).mono ?_
  rintro _ y4 ⟨rfl, hw⟩
  have t_k := (hw.block _ (Array.getElem?_eq_some_iff.1 t_k).1).trans t_k
  have t_D := t_D.keeps hw
  have l_k := (hw.block _ (Array.getElem?_eq_some_iff.1 l_k).1).trans l_k
  have l_D := l_D.keeps hw
  have b_k := (hw.block _ (Array.getElem?_eq_some_iff.1 b_k).1).trans b_k
  have b_D := b_D.keeps hw
  have i_k := (hw.block _ (Array.getElem?_eq_some_iff.1 i_k).1).trans i_k
  have y_k := (hw.block _ (Array.getElem?_eq_some_iff.1 y_k).1).trans y_k
  have y_D := y_D.keeps hw
  have hb4 := bel_trans hb3 hw
  clear hw
  rw [ord_gt (show VY < VT from hTY.out)]
  have f_l0 := blkC l_k 0 rfl
  have f_l1 := blkC l_k 1 rfl
  have f_l2 := blkC l_k 2 rfl
  go_wp2_with fail
  clear f_l0 f_l1 f_l2
  refine (cmp_D l_D l_D oL.out oL.out).mono ?_
  rintro _ y5 ⟨rfl, hw⟩
  have t_k := (hw.block _ (Array.getElem?_eq_some_iff.1 t_k).1).trans t_k
  have t_D := t_D.keeps hw
  have l_k := (hw.block _ (Array.getElem?_eq_some_iff.1 l_k).1).trans l_k
  have l_D := l_D.keeps hw
  have b_k := (hw.block _ (Array.getElem?_eq_some_iff.1 b_k).1).trans b_k
  have b_D := b_D.keeps hw
  have i_k := (hw.block _ (Array.getElem?_eq_some_iff.1 i_k).1).trans i_k
  have y_k := (hw.block _ (Array.getElem?_eq_some_iff.1 y_k).1).trans y_k
  have y_D := y_D.keeps hw
  have hb5 := bel_trans hb4 hw
  clear hw
  rw [ord_eq rfl]
  have f_l0 := blkC l_k 0 rfl
  have f_l1 := blkC l_k 1 rfl
  have f_l2 := blkC l_k 2 rfl
  go_wp2_with fail
  clear f_l0 f_l1 f_l2
  refine (addD_yes l_D l_D oL.out oL.out (HL.out _ hb5) oLL.out).mono ?_
  rintro _ y6 ⟨v, rfl, hA⟩
  obtain ⟨u6_g, u6_o, u6_n, u6_c, u6_e, rfl⟩ := dans_shape hA
  have hw := hA.below
  have u6_D := hA.num
  clear hA
  have t_k := (hw.block _ (Array.getElem?_eq_some_iff.1 t_k).1).trans t_k
  have t_D := t_D.keeps hw
  have l_k := (hw.block _ (Array.getElem?_eq_some_iff.1 l_k).1).trans l_k
  have l_D := l_D.keeps hw
  have b_k := (hw.block _ (Array.getElem?_eq_some_iff.1 b_k).1).trans b_k
  have b_D := b_D.keeps hw
  have i_k := (hw.block _ (Array.getElem?_eq_some_iff.1 i_k).1).trans i_k
  have y_k := (hw.block _ (Array.getElem?_eq_some_iff.1 y_k).1).trans y_k
  have y_D := y_D.keeps hw
  have hb6 := bel_trans hb5 hw
  clear hw
  have hbx : Below y6.heap.size y6 (y6.alloc (.cells #[.bool u6_g, .slice u6_o u6_n u6_c, .int .i64 u6_e] 24)) := bel_alloc _ _
  have u6_k : (y6.alloc (.cells #[.bool u6_g, .slice u6_o u6_n u6_c, .int .i64 u6_e] 24)).heap[y6.heap.size]? = some (.cells #[.bool u6_g, .slice u6_o u6_n u6_c, .int .i64 u6_e] 24 (0, 0)) := heap_a1 _ _
  have u_k := (hbx.block _ (Array.getElem?_eq_some_iff.1 l_k).1).trans l_k
  have f_l0 := blkC l_k 0 rfl
  have g_l0 := blkC u_k 0 rfl
  have f_l1 := blkC l_k 1 rfl
  have g_l1 := blkC u_k 1 rfl
  have f_l2 := blkC l_k 2 rfl
  have g_l2 := blkC u_k 2 rfl
  clear u_k
  go_wp2_with fail
  clear f_l0 g_l0 f_l1 g_l1 f_l2 g_l2
  generalize (y6.alloc (.cells #[.bool u6_g, .slice u6_o u6_n u6_c, .int .i64 u6_e] 24)) = x7 at hbx u6_k ⊢
  have t_k := (hbx.block _ (Array.getElem?_eq_some_iff.1 t_k).1).trans t_k
  have t_D := t_D.keeps hbx
  have l_k := (hbx.block _ (Array.getElem?_eq_some_iff.1 l_k).1).trans l_k
  have l_D := l_D.keeps hbx
  have b_k := (hbx.block _ (Array.getElem?_eq_some_iff.1 b_k).1).trans b_k
  have b_D := b_D.keeps hbx
  have i_k := (hbx.block _ (Array.getElem?_eq_some_iff.1 i_k).1).trans i_k
  have y_k := (hbx.block _ (Array.getElem?_eq_some_iff.1 y_k).1).trans y_k
  have y_D := y_D.keeps hbx
  have hb7 := bel_trans hb6 hbx
  clear hbx
  refine (sub_zero l_D oL.out (HL.out _ hb7)).mono ?_
  rintro _ y8 ⟨v, rfl, hA⟩
  obtain ⟨z_g, z_o, z_n, z_c, z_e, rfl⟩ := dans_shape hA
  have hw := hA.below
  have z_D := hA.num
  clear hA
  have t_k := (hw.block _ (Array.getElem?_eq_some_iff.1 t_k).1).trans t_k
  have t_D := t_D.keeps hw
  have l_k := (hw.block _ (Array.getElem?_eq_some_iff.1 l_k).1).trans l_k
  have l_D := l_D.keeps hw
  have b_k := (hw.block _ (Array.getElem?_eq_some_iff.1 b_k).1).trans b_k
  have b_D := b_D.keeps hw
  have i_k := (hw.block _ (Array.getElem?_eq_some_iff.1 i_k).1).trans i_k
  have y_k := (hw.block _ (Array.getElem?_eq_some_iff.1 y_k).1).trans y_k
  have y_D := y_D.keeps hw
  have hb8 := bel_trans hb7 hw
  clear hw
  have hbx : Below y8.heap.size y8 (y8.alloc (.cells #[.bool z_g, .slice z_o z_n z_c, .int .i64 z_e] 24)) := bel_alloc _ _
  have z_k : (y8.alloc (.cells #[.bool z_g, .slice z_o z_n z_c, .int .i64 z_e] 24)).heap[y8.heap.size]? = some (.cells #[.bool z_g, .slice z_o z_n z_c, .int .i64 z_e] 24 (0, 0)) := heap_a1 _ _
  have u_k := (hbx.block _ (Array.getElem?_eq_some_iff.1 t_k).1).trans t_k
  have f_t0 := blkC t_k 0 rfl
  have g_t0 := blkC u_k 0 rfl
  have f_t1 := blkC t_k 1 rfl
  have g_t1 := blkC u_k 1 rfl
  have f_t2 := blkC t_k 2 rfl
  have g_t2 := blkC u_k 2 rfl
  clear u_k
  go_wp2_with fail
  clear f_t0 g_t0 f_t1 g_t1 f_t2 g_t2
  generalize (y8.alloc (.cells #[.bool z_g, .slice z_o z_n z_c, .int .i64 z_e] 24)) = x9 at hbx z_k ⊢
  have z_D := z_D.keeps hbx
  have t_k := (hbx.block _ (Array.getElem?_eq_some_iff.1 t_k).1).trans t_k
  have t_D := t_D.keeps hbx
  have l_k := (hbx.block _ (Array.getElem?_eq_some_iff.1 l_k).1).trans l_k
  have l_D := l_D.keeps hbx
  have b_k := (hbx.block _ (Array.getElem?_eq_some_iff.1 b_k).1).trans b_k
  have b_D := b_D.keeps hbx
  have i_k := (hbx.block _ (Array.getElem?_eq_some_iff.1 i_k).1).trans i_k
  have y_k := (hbx.block _ (Array.getElem?_eq_some_iff.1 y_k).1).trans y_k
  have y_D := y_D.keeps hbx
  have hb9 := bel_trans hb8 hbx
  clear hbx
  refine (neg_D t_D oT.out).mono ?_
  rintro _ y10 ⟨v, rfl, hA⟩
  obtain ⟨m_g, m_o, m_n, m_c, m_e, rfl⟩ := dans_shape hA
  have hw := hA.below
  have m_D := hA.num
  clear hA
  have t_k := (hw.block _ (Array.getElem?_eq_some_iff.1 t_k).1).trans t_k
  have t_D := t_D.keeps hw
  have l_k := (hw.block _ (Array.getElem?_eq_some_iff.1 l_k).1).trans l_k
  have l_D := l_D.keeps hw
  have b_k := (hw.block _ (Array.getElem?_eq_some_iff.1 b_k).1).trans b_k
  have b_D := b_D.keeps hw
  have i_k := (hw.block _ (Array.getElem?_eq_some_iff.1 i_k).1).trans i_k
  have y_k := (hw.block _ (Array.getElem?_eq_some_iff.1 y_k).1).trans y_k
  have y_D := y_D.keeps hw
  have z_k := (hw.block _ (Array.getElem?_eq_some_iff.1 z_k).1).trans z_k
  have z_D := z_D.keeps hw
  have hb10 := bel_trans hb9 hw
  clear hw
  have hbx : Below y10.heap.size y10 ((y10.alloc (.cells #[.bool m_g, .slice m_o m_n m_c, .int .i64 m_e] 24)).alloc (.cells #[.bool t_g, .slice t_o t_n t_c, .int .i64 t_e, .bool b_g, .slice b_o b_n b_c, .int .i64 b_e, .bool m_g, .slice m_o m_n m_c, .int .i64 m_e] 24)) := bel_alloc2 _ _ _
  have m_k : ((y10.alloc (.cells #[.bool m_g, .slice m_o m_n m_c, .int .i64 m_e] 24)).alloc (.cells #[.bool t_g, .slice t_o t_n t_c, .int .i64 t_e, .bool b_g, .slice b_o b_n b_c, .int .i64 b_e, .bool m_g, .slice m_o m_n m_c, .int .i64 m_e] 24)).heap[y10.heap.size]? = some (.cells #[.bool m_g, .slice m_o m_n m_c, .int .i64 m_e] 24 (0, 0)) := heap_a2 _ _ _
  have q_k : ((y10.alloc (.cells #[.bool m_g, .slice m_o m_n m_c, .int .i64 m_e] 24)).alloc (.cells #[.bool t_g, .slice t_o t_n t_c, .int .i64 t_e, .bool b_g, .slice b_o b_n b_c, .int .i64 b_e, .bool m_g, .slice m_o m_n m_c, .int .i64 m_e] 24)).heap[y10.heap.size + 1]? = some (.cells #[.bool t_g, .slice t_o t_n t_c, .int .i64 t_e, .bool b_g, .slice b_o b_n b_c, .int .i64 b_e, .bool m_g, .slice m_o m_n m_c, .int .i64 m_e] 24 (0, 0)) := heap_b2 _ _ _
  have u_k := ((bel_alloc y10 (.cells #[.bool m_g, .slice m_o m_n m_c, .int .i64 m_e] 24)).block _ (Array.getElem?_eq_some_iff.1 t_k).1).trans t_k
  have h_t0 := blkC u_k 0 rfl
  have h_t1 := blkC u_k 1 rfl
  have h_t2 := blkC u_k 2 rfl
  clear u_k
  have u_k := ((bel_alloc y10 (.cells #[.bool m_g, .slice m_o m_n m_c, .int .i64 m_e] 24)).block _ (Array.getElem?_eq_some_iff.1 b_k).1).trans b_k
  have h_b0 := blkC u_k 0 rfl
  have h_b1 := blkC u_k 1 rfl
  have h_b2 := blkC u_k 2 rfl
  clear u_k
  have u_k := (hbx.block _ (Array.getElem?_eq_some_iff.1 t_k).1).trans t_k
  have f_t0 := blkC t_k 0 rfl
  have g_t0 := blkC u_k 0 rfl
  have f_t1 := blkC t_k 1 rfl
  have g_t1 := blkC u_k 1 rfl
  have f_t2 := blkC t_k 2 rfl
  have g_t2 := blkC u_k 2 rfl
  clear u_k
  have u_k := (hbx.block _ (Array.getElem?_eq_some_iff.1 b_k).1).trans b_k
  have f_b0 := blkC b_k 0 rfl
  have g_b0 := blkC u_k 0 rfl
  have f_b1 := blkC b_k 1 rfl
  have g_b1 := blkC u_k 1 rfl
  have f_b2 := blkC b_k 2 rfl
  have g_b2 := blkC u_k 2 rfl
  clear u_k
  go_wp2_with fail
  clear h_t0 h_t1 h_t2 h_b0 h_b1 h_b2 f_t0 g_t0 f_t1 g_t1 f_t2 g_t2 f_b0 g_b0 f_b1 g_b1 f_b2 g_b2
  generalize ((y10.alloc (.cells #[.bool m_g, .slice m_o m_n m_c, .int .i64 m_e] 24)).alloc (.cells #[.bool t_g, .slice t_o t_n t_c, .int .i64 t_e, .bool b_g, .slice b_o b_n b_c, .int .i64 b_e, .bool m_g, .slice m_o m_n m_c, .int .i64 m_e] 24)) = x11 at hbx m_k q_k ⊢
  have m_D := m_D.keeps hbx
  have t_k := (hbx.block _ (Array.getElem?_eq_some_iff.1 t_k).1).trans t_k
  have t_D := t_D.keeps hbx
  have l_k := (hbx.block _ (Array.getElem?_eq_some_iff.1 l_k).1).trans l_k
  have l_D := l_D.keeps hbx
  have b_k := (hbx.block _ (Array.getElem?_eq_some_iff.1 b_k).1).trans b_k
  have b_D := b_D.keeps hbx
  have i_k := (hbx.block _ (Array.getElem?_eq_some_iff.1 i_k).1).trans i_k
  have y_k := (hbx.block _ (Array.getElem?_eq_some_iff.1 y_k).1).trans y_k
  have y_D := y_D.keeps hbx
  have z_k := (hbx.block _ (Array.getElem?_eq_some_iff.1 z_k).1).trans z_k
  have z_D := z_D.keeps hbx
  have hb11 := bel_trans hb10 hbx
  clear hbx
  refine (sum_back q_k t_D b_D m_D oT.out oB.out (HL.out _ hb11)).mono ?_
  rintro _ y12 ⟨v, rfl, hA⟩
  obtain ⟨s_g, s_o, s_n, s_c, s_e, rfl⟩ := dans_shape hA
  have hw := hA.below
  have s_D := hA.num
  clear hA
  have t_k := (hw.block _ (Array.getElem?_eq_some_iff.1 t_k).1).trans t_k
  have t_D := t_D.keeps hw
  have l_k := (hw.block _ (Array.getElem?_eq_some_iff.1 l_k).1).trans l_k
  have l_D := l_D.keeps hw
  have b_k := (hw.block _ (Array.getElem?_eq_some_iff.1 b_k).1).trans b_k
  have b_D := b_D.keeps hw
  have i_k := (hw.block _ (Array.getElem?_eq_some_iff.1 i_k).1).trans i_k
  have y_k := (hw.block _ (Array.getElem?_eq_some_iff.1 y_k).1).trans y_k
  have y_D := y_D.keeps hw
  have z_k := (hw.block _ (Array.getElem?_eq_some_iff.1 z_k).1).trans z_k
  have z_D := z_D.keeps hw
  have m_k := (hw.block _ (Array.getElem?_eq_some_iff.1 m_k).1).trans m_k
  have m_D := m_D.keeps hw
  have q_k := (hw.block _ (Array.getElem?_eq_some_iff.1 q_k).1).trans q_k
  have hb12 := bel_trans hb11 hw
  clear hw
  have hbx : Below y12.heap.size y12 (y12.alloc (.cells #[.bool s_g, .slice s_o s_n s_c, .int .i64 s_e] 24)) := bel_alloc _ _
  have s_k : (y12.alloc (.cells #[.bool s_g, .slice s_o s_n s_c, .int .i64 s_e] 24)).heap[y12.heap.size]? = some (.cells #[.bool s_g, .slice s_o s_n s_c, .int .i64 s_e] 24 (0, 0)) := heap_a1 _ _
  have u_k := (hbx.block _ (Array.getElem?_eq_some_iff.1 t_k).1).trans t_k
  have f_t0 := blkC t_k 0 rfl
  have g_t0 := blkC u_k 0 rfl
  have f_t1 := blkC t_k 1 rfl
  have g_t1 := blkC u_k 1 rfl
  have f_t2 := blkC t_k 2 rfl
  have g_t2 := blkC u_k 2 rfl
  clear u_k
  have u_k := (hbx.block _ (Array.getElem?_eq_some_iff.1 y_k).1).trans y_k
  have f_y0 := blkC y_k 0 rfl
  have g_y0 := blkC u_k 0 rfl
  have f_y1 := blkC y_k 1 rfl
  have g_y1 := blkC u_k 1 rfl
  have f_y2 := blkC y_k 2 rfl
  have g_y2 := blkC u_k 2 rfl
  clear u_k
  go_wp2_with fail
  clear f_t0 g_t0 f_t1 g_t1 f_t2 g_t2 f_y0 g_y0 f_y1 g_y1 f_y2 g_y2
  generalize (y12.alloc (.cells #[.bool s_g, .slice s_o s_n s_c, .int .i64 s_e] 24)) = x13 at hbx s_k ⊢
  have s_D := s_D.keeps hbx
  have t_k := (hbx.block _ (Array.getElem?_eq_some_iff.1 t_k).1).trans t_k
  have t_D := t_D.keeps hbx
  have l_k := (hbx.block _ (Array.getElem?_eq_some_iff.1 l_k).1).trans l_k
  have l_D := l_D.keeps hbx
  have b_k := (hbx.block _ (Array.getElem?_eq_some_iff.1 b_k).1).trans b_k
  have b_D := b_D.keeps hbx
  have i_k := (hbx.block _ (Array.getElem?_eq_some_iff.1 i_k).1).trans i_k
  have y_k := (hbx.block _ (Array.getElem?_eq_some_iff.1 y_k).1).trans y_k
  have y_D := y_D.keeps hbx
  have z_k := (hbx.block _ (Array.getElem?_eq_some_iff.1 z_k).1).trans z_k
  have z_D := z_D.keeps hbx
  have m_k := (hbx.block _ (Array.getElem?_eq_some_iff.1 m_k).1).trans m_k
  have m_D := m_D.keeps hbx
  have hb13 := bel_trans hb12 hbx
  clear hbx
  refine (addD_no t_D y_D oT.out oY.out (HL.out _ hb13) nTY.out).mono ?_
  rintro _ y14 ⟨rfl, hw⟩
  have t_k := (hw.block _ (Array.getElem?_eq_some_iff.1 t_k).1).trans t_k
  have t_D := t_D.keeps hw
  have l_k := (hw.block _ (Array.getElem?_eq_some_iff.1 l_k).1).trans l_k
  have l_D := l_D.keeps hw
  have b_k := (hw.block _ (Array.getElem?_eq_some_iff.1 b_k).1).trans b_k
  have b_D := b_D.keeps hw
  have i_k := (hw.block _ (Array.getElem?_eq_some_iff.1 i_k).1).trans i_k
  have y_k := (hw.block _ (Array.getElem?_eq_some_iff.1 y_k).1).trans y_k
  have y_D := y_D.keeps hw
  have z_k := (hw.block _ (Array.getElem?_eq_some_iff.1 z_k).1).trans z_k
  have z_D := z_D.keeps hw
  have m_k := (hw.block _ (Array.getElem?_eq_some_iff.1 m_k).1).trans m_k
  have m_D := m_D.keeps hw
  have s_k := (hw.block _ (Array.getElem?_eq_some_iff.1 s_k).1).trans s_k
  have s_D := s_D.keeps hw
  have hb14 := bel_trans hb13 hw
  clear hw
  unfold zeroV
  have hbx : Below y14.heap.size y14 (y14.alloc (.cells #[.bool false, .slice none 0 0, .int .i64 0] 24)) := bel_alloc _ _
  have u14_k : (y14.alloc (.cells #[.bool false, .slice none 0 0, .int .i64 0] 24)).heap[y14.heap.size]? = some (.cells #[.bool false, .slice none 0 0, .int .i64 0] 24 (0, 0)) := heap_a1 _ _
  have u_k := (hbx.block _ (Array.getElem?_eq_some_iff.1 t_k).1).trans t_k
  have f_t0 := blkC t_k 0 rfl
  have g_t0 := blkC u_k 0 rfl
  have f_t1 := blkC t_k 1 rfl
  have g_t1 := blkC u_k 1 rfl
  have f_t2 := blkC t_k 2 rfl
  have g_t2 := blkC u_k 2 rfl
  clear u_k
  go_wp2_with fail
  clear f_t0 g_t0 f_t1 g_t1 f_t2 g_t2
  generalize (y14.alloc (.cells #[.bool false, .slice none 0 0, .int .i64 0] 24)) = x15 at hbx u14_k ⊢
  have t_k := (hbx.block _ (Array.getElem?_eq_some_iff.1 t_k).1).trans t_k
  have t_D := t_D.keeps hbx
  have l_k := (hbx.block _ (Array.getElem?_eq_some_iff.1 l_k).1).trans l_k
  have l_D := l_D.keeps hbx
  have b_k := (hbx.block _ (Array.getElem?_eq_some_iff.1 b_k).1).trans b_k
  have b_D := b_D.keeps hbx
  have i_k := (hbx.block _ (Array.getElem?_eq_some_iff.1 i_k).1).trans i_k
  have y_k := (hbx.block _ (Array.getElem?_eq_some_iff.1 y_k).1).trans y_k
  have y_D := y_D.keeps hbx
  have z_k := (hbx.block _ (Array.getElem?_eq_some_iff.1 z_k).1).trans z_k
  have z_D := z_D.keeps hbx
  have m_k := (hbx.block _ (Array.getElem?_eq_some_iff.1 m_k).1).trans m_k
  have m_D := m_D.keeps hbx
  have s_k := (hbx.block _ (Array.getElem?_eq_some_iff.1 s_k).1).trans s_k
  have s_D := s_D.keeps hbx
  have hb15 := bel_trans hb14 hbx
  clear hbx
  refine (addD_no t_D t_D oT.out oT.out (HL.out _ hb15) nTT.out).mono ?_
  rintro _ y16 ⟨rfl, hw⟩
  have t_k := (hw.block _ (Array.getElem?_eq_some_iff.1 t_k).1).trans t_k
  have t_D := t_D.keeps hw
  have l_k := (hw.block _ (Array.getElem?_eq_some_iff.1 l_k).1).trans l_k
  have l_D := l_D.keeps hw
  have b_k := (hw.block _ (Array.getElem?_eq_some_iff.1 b_k).1).trans b_k
  have b_D := b_D.keeps hw
  have i_k := (hw.block _ (Array.getElem?_eq_some_iff.1 i_k).1).trans i_k
  have y_k := (hw.block _ (Array.getElem?_eq_some_iff.1 y_k).1).trans y_k
  have y_D := y_D.keeps hw
  have z_k := (hw.block _ (Array.getElem?_eq_some_iff.1 z_k).1).trans z_k
  have z_D := z_D.keeps hw
  have m_k := (hw.block _ (Array.getElem?_eq_some_iff.1 m_k).1).trans m_k
  have m_D := m_D.keeps hw
  have s_k := (hw.block _ (Array.getElem?_eq_some_iff.1 s_k).1).trans s_k
  have s_D := s_D.keeps hw
  have hb16 := bel_trans hb15 hw
  clear hw
  unfold zeroV
  have hbx : Below y16.heap.size y16 (y16.alloc (.cells #[.bool false, .slice none 0 0, .int .i64 0] 24)) := bel_alloc _ _
  have d_k : (y16.alloc (.cells #[.bool false, .slice none 0 0, .int .i64 0] 24)).heap[y16.heap.size]? = some (.cells #[.bool false, .slice none 0 0, .int .i64 0] 24 (0, 0)) := heap_a1 _ _
  have u_k := (hbx.block _ (Array.getElem?_eq_some_iff.1 z_k).1).trans z_k
  have f_z0 := blkC z_k 0 rfl
  have g_z0 := blkC u_k 0 rfl
  have f_z1 := blkC z_k 1 rfl
  have g_z1 := blkC u_k 1 rfl
  have f_z2 := blkC z_k 2 rfl
  have g_z2 := blkC u_k 2 rfl
  clear u_k
  go_wp2_with fail
  clear f_z0 g_z0 f_z1 g_z1 f_z2 g_z2
  generalize (y16.alloc (.cells #[.bool false, .slice none 0 0, .int .i64 0] 24)) = x17 at hbx d_k ⊢
  have t_k := (hbx.block _ (Array.getElem?_eq_some_iff.1 t_k).1).trans t_k
  have t_D := t_D.keeps hbx
  have l_k := (hbx.block _ (Array.getElem?_eq_some_iff.1 l_k).1).trans l_k
  have l_D := l_D.keeps hbx
  have b_k := (hbx.block _ (Array.getElem?_eq_some_iff.1 b_k).1).trans b_k
  have b_D := b_D.keeps hbx
  have i_k := (hbx.block _ (Array.getElem?_eq_some_iff.1 i_k).1).trans i_k
  have y_k := (hbx.block _ (Array.getElem?_eq_some_iff.1 y_k).1).trans y_k
  have y_D := y_D.keeps hbx
  have z_k := (hbx.block _ (Array.getElem?_eq_some_iff.1 z_k).1).trans z_k
  have z_D := z_D.keeps hbx
  have m_k := (hbx.block _ (Array.getElem?_eq_some_iff.1 m_k).1).trans m_k
  have m_D := m_D.keeps hbx
  have s_k := (hbx.block _ (Array.getElem?_eq_some_iff.1 s_k).1).trans s_k
  have s_D := s_D.keeps hbx
  have hb17 := bel_trans hb16 hbx
  clear hbx
  refine (sameD_yes z_D (DNum.zero _)).mono ?_
  rintro _ y18 ⟨rfl, hw⟩
  have t_k := (hw.block _ (Array.getElem?_eq_some_iff.1 t_k).1).trans t_k
  have t_D := t_D.keeps hw
  have l_k := (hw.block _ (Array.getElem?_eq_some_iff.1 l_k).1).trans l_k
  have l_D := l_D.keeps hw
  have b_k := (hw.block _ (Array.getElem?_eq_some_iff.1 b_k).1).trans b_k
  have b_D := b_D.keeps hw
  have i_k := (hw.block _ (Array.getElem?_eq_some_iff.1 i_k).1).trans i_k
  have y_k := (hw.block _ (Array.getElem?_eq_some_iff.1 y_k).1).trans y_k
  have y_D := y_D.keeps hw
  have z_k := (hw.block _ (Array.getElem?_eq_some_iff.1 z_k).1).trans z_k
  have z_D := z_D.keeps hw
  have m_k := (hw.block _ (Array.getElem?_eq_some_iff.1 m_k).1).trans m_k
  have m_D := m_D.keeps hw
  have s_k := (hw.block _ (Array.getElem?_eq_some_iff.1 s_k).1).trans s_k
  have s_D := s_D.keeps hw
  have d_k := (hw.block _ (Array.getElem?_eq_some_iff.1 d_k).1).trans d_k
  have hb18 := bel_trans hb17 hw
  clear hw
  have f_s0 := blkC s_k 0 rfl
  have f_s1 := blkC s_k 1 rfl
  have f_s2 := blkC s_k 2 rfl
  have f_b0 := blkC b_k 0 rfl
  have f_b1 := blkC b_k 1 rfl
  have f_b2 := blkC b_k 2 rfl
  go_wp2_with fail
  clear f_s0 f_s1 f_s2 f_b0 f_b1 f_b2
  refine (sameD_yes s_D b_D).mono ?_
  rintro _ y19 ⟨rfl, hw⟩
  have t_k := (hw.block _ (Array.getElem?_eq_some_iff.1 t_k).1).trans t_k
  have t_D := t_D.keeps hw
  have l_k := (hw.block _ (Array.getElem?_eq_some_iff.1 l_k).1).trans l_k
  have l_D := l_D.keeps hw
  have b_k := (hw.block _ (Array.getElem?_eq_some_iff.1 b_k).1).trans b_k
  have b_D := b_D.keeps hw
  have i_k := (hw.block _ (Array.getElem?_eq_some_iff.1 i_k).1).trans i_k
  have y_k := (hw.block _ (Array.getElem?_eq_some_iff.1 y_k).1).trans y_k
  have y_D := y_D.keeps hw
  have z_k := (hw.block _ (Array.getElem?_eq_some_iff.1 z_k).1).trans z_k
  have z_D := z_D.keeps hw
  have m_k := (hw.block _ (Array.getElem?_eq_some_iff.1 m_k).1).trans m_k
  have m_D := m_D.keeps hw
  have s_k := (hw.block _ (Array.getElem?_eq_some_iff.1 s_k).1).trans s_k
  have s_D := s_D.keeps hw
  have d_k := (hw.block _ (Array.getElem?_eq_some_iff.1 d_k).1).trans d_k
  have hb19 := bel_trans hb18 hw
  clear hw
  have f_d0 := blkC d_k 0 rfl
  have f_d1 := blkC d_k 1 rfl
  have f_d2 := blkC d_k 2 rfl
  go_wp2_with fail
  clear f_d0 f_d1 f_d2
  refine (sameD_yes (DNum.zero _) (DNum.zero _)).mono ?_
  rintro _ y20 ⟨rfl, hw⟩
  have t_k := (hw.block _ (Array.getElem?_eq_some_iff.1 t_k).1).trans t_k
  have t_D := t_D.keeps hw
  have l_k := (hw.block _ (Array.getElem?_eq_some_iff.1 l_k).1).trans l_k
  have l_D := l_D.keeps hw
  have b_k := (hw.block _ (Array.getElem?_eq_some_iff.1 b_k).1).trans b_k
  have b_D := b_D.keeps hw
  have i_k := (hw.block _ (Array.getElem?_eq_some_iff.1 i_k).1).trans i_k
  have y_k := (hw.block _ (Array.getElem?_eq_some_iff.1 y_k).1).trans y_k
  have y_D := y_D.keeps hw
  have z_k := (hw.block _ (Array.getElem?_eq_some_iff.1 z_k).1).trans z_k
  have z_D := z_D.keeps hw
  have m_k := (hw.block _ (Array.getElem?_eq_some_iff.1 m_k).1).trans m_k
  have m_D := m_D.keeps hw
  have s_k := (hw.block _ (Array.getElem?_eq_some_iff.1 s_k).1).trans s_k
  have s_D := s_D.keeps hw
  have d_k := (hw.block _ (Array.getElem?_eq_some_iff.1 d_k).1).trans d_k
  have hb20 := bel_trans hb19 hw
  clear hw
  go_wp2
  go_ret
  exact ⟨rfl, hb20⟩
set_option maxRecDepth 100000 in
set_option maxHeartbeats 8000000 in
theorem walk (w : World) (H : Hold w) :
    Calls Tryd.prog 3 #[] w fun e w' => e = .returned (.bool true) ∧ Below w.heap.size w w' := by
  obtain ⟨VT, hVT⟩ : ∃ V, V = mkV false 1 (1048576) := ⟨_, rfl⟩
  have oVT : Hid (Dok VT) := by unfold Hid; rw [hVT]; exact dok_one (by omega) (by omega)
  obtain ⟨VL, hVL⟩ : ∃ V, V = mkV true 1 (-1048576) := ⟨_, rfl⟩
  have oVL : Hid (Dok VL) := by unfold Hid; rw [hVL]; exact dok_one (by omega) (by omega)
  obtain ⟨VA, hVA⟩ : ∃ V, V = mkV false 1 (70000) := ⟨_, rfl⟩
  have oVA : Hid (Dok VA) := by unfold Hid; rw [hVA]; exact dok_one (by omega) (by omega)
  obtain ⟨VB, hVB⟩ : ∃ V, V = mkV false 1 (0) := ⟨_, rfl⟩
  have oVB : Hid (Dok VB) := by unfold Hid; rw [hVB]; exact dok_one (by omega) (by omega)
  obtain ⟨VY, hVY⟩ : ∃ V, V = mkV false 1 (-1048576) := ⟨_, rfl⟩
  have oVY : Hid (Dok VY) := by unfold Hid; rw [hVY]; exact dok_one (by omega) (by omega)
  have oC : Hid (Dok (-VA)) := dok_minus oVA.out
  have nAB : Hid (¬ Dok (VA + VB)) := by unfold Hid; rw [hVA, hVB]; exact nok_sum (by omega) (by omega)
  have hBA : Hid (VB < VA) := by unfold Hid; rw [hVA, hVB]; exact one_lt (by omega) (by omega)
  have hYT : Hid (VY < VT) := by unfold Hid; rw [hVT, hVY]; exact one_lt (by omega) (by omega)
  have oLL : Hid (Dok (VL + VL)) := by unfold Hid; rw [hVL]; exact dok_low2
  have nTY : Hid (¬ Dok (VT + VY)) := by unfold Hid; rw [hVT, hVY]; exact nok_sum (by omega) (by omega)
  have nTT : Hid (¬ Dok (VT + VT)) := by unfold Hid; rw [hVT]; exact nok_high2
  have nLL : Hid (∀ C, C * 2 ^ 4194304 = VL * VL → ¬ Dok C) := by unfold Hid; rw [hVL]; exact fun C h => nok_prod h
  have C1 : Hid (∀ W g, Below w.heap.size w W → W.heap[g]? = some (.cells #[.int .i64 1] 3 (0, 0)) → Calls Tryd.prog 4 #[.bool false, .slice (some ⟨g, 0, none⟩) 1 1, .int .i64 (1048576)] W fun r w' => ∃ v, r = .returned (.tuple #[v, .int .i64 0]) ∧ DAns W w' VT v) := fun W g hb h => by rw [hVT]; exact make_yes false (1048576) (num_lit h (by decide) (by decide)) P_one (H.tab.keeps hb) (dok_one (by omega) (by omega))
  have C2 : Hid (∀ W g, Below w.heap.size w W → W.heap[g]? = some (.cells #[.int .i64 1] 3 (0, 0)) → Calls Tryd.prog 4 #[.bool false, .slice (some ⟨g, 0, none⟩) 1 1, .int .i64 (1048577)] W fun r w' => r = .returned (.tuple #[zeroV, .int .i64 2]) ∧ Below W.heap.size W w') := fun W g hb h => make_no false (1048577) (num_lit h (by decide) (by decide)) P_one (H.tab.keeps hb) (nok_one (.inl (by omega)))
  have C3 : Hid (∀ W g, Below w.heap.size w W → W.heap[g]? = some (.cells #[.int .i64 2] 3 (0, 0)) → Calls Tryd.prog 4 #[.bool false, .slice (some ⟨g, 0, none⟩) 1 1, .int .i64 (1048576)] W fun r w' => r = .returned (.tuple #[zeroV, .int .i64 2]) ∧ Below W.heap.size W w') := fun W g hb h => make_no false (1048576) (num_lit h (by decide) (by decide)) (by have := P2000_big2; omega) (H.tab.keeps hb) (nok_two (by omega) (by omega))
  have C4 : Hid (∀ W g, Below w.heap.size w W → W.heap[g]? = some (.cells #[.int .i64 1] 3 (0, 0)) → Calls Tryd.prog 4 #[.bool true, .slice (some ⟨g, 0, none⟩) 1 1, .int .i64 (-1048576)] W fun r w' => ∃ v, r = .returned (.tuple #[v, .int .i64 0]) ∧ DAns W w' VL v) := fun W g hb h => by rw [hVL]; exact make_yes true (-1048576) (num_lit h (by decide) (by decide)) P_one (H.tab.keeps hb) (dok_one (by omega) (by omega))
  have C9 : Hid (∀ W g, Below w.heap.size w W → W.heap[g]? = some (.cells #[.int .i64 1] 3 (0, 0)) → Calls Tryd.prog 4 #[.bool false, .slice (some ⟨g, 0, none⟩) 1 1, .int .i64 (70000)] W fun r w' => ∃ v, r = .returned (.tuple #[v, .int .i64 0]) ∧ DAns W w' VA v) := fun W g hb h => by rw [hVA]; exact make_yes false (70000) (num_lit h (by decide) (by decide)) P_one (H.tab.keeps hb) (dok_one (by omega) (by omega))
  have C10 : Hid (∀ W g, Below w.heap.size w W → W.heap[g]? = some (.cells #[.int .i64 1] 3 (0, 0)) → Calls Tryd.prog 4 #[.bool false, .slice (some ⟨g, 0, none⟩) 1 1, .int .i64 (0)] W fun r w' => ∃ v, r = .returned (.tuple #[v, .int .i64 0]) ∧ DAns W w' VB v) := fun W g hb h => by rw [hVB]; exact make_yes false (0) (num_lit h (by decide) (by decide)) P_one (H.tab.keeps hb) (dok_one (by omega) (by omega))
  have C16 : Hid (∀ W g, Below w.heap.size w W → W.heap[g]? = some (.cells #[.int .i64 1] 3 (0, 0)) → Calls Tryd.prog 4 #[.bool false, .slice (some ⟨g, 0, none⟩) 1 1, .int .i64 (-1048577)] W fun r w' => r = .returned (.tuple #[zeroV, .int .i64 2]) ∧ Below W.heap.size W w') := fun W g hb h => make_no false (-1048577) (num_lit h (by decide) (by decide)) P_one (H.tab.keeps hb) (nok_one (.inr (by omega)))
  have C5 : Hid (∀ W x, Below w.heap.size w W → DNum W x VT → Calls Tryd.prog 5 #[x, .int .i64 (1)] W fun r w' => r = .returned (.tuple #[zeroV, .int .i64 2]) ∧ Below W.heap.size W w') := fun W x hb h => by rw [hVT] at h; exact scale_no h (dy_one (by omega)) (dok_one (by omega) (by omega)) (1) (by unfold rng; omega) (H.tab.keeps hb) (nok_one (.inl (by omega)))
  have C7 : Hid (∀ W x, Below w.heap.size w W → DNum W x VL → Calls Tryd.prog 5 #[x, .int .i64 (-4611686018427387904)] W fun r w' => r = .returned (.tuple #[zeroV, .int .i64 2]) ∧ Below W.heap.size W w') := fun W x hb h => by rw [hVL] at h; exact scale_no h (dy_one (by omega)) (dok_one (by omega) (by omega)) (-4611686018427387904) (by unfold rng; omega) (H.tab.keeps hb) (nok_one (.inr (by omega)))
  have C17 : Hid (∀ W x, Below w.heap.size w W → DNum W x VL → Calls Tryd.prog 5 #[x, .int .i64 (-1)] W fun r w' => r = .returned (.tuple #[zeroV, .int .i64 2]) ∧ Below W.heap.size W w') := fun W x hb h => by rw [hVL] at h; exact scale_no h (dy_one (by omega)) (dok_one (by omega) (by omega)) (-1) (by unfold rng; omega) (H.tab.keeps hb) (nok_one (.inr (by omega)))
  have HT : Hid (∀ W, Below w.heap.size w W → Tab W) := fun W hb => H.tab.keeps hb
  have CA : Hid (∀ W, Below w.heap.size w W → _) := fun W hb => dalive_any W (H.lay.keeps hb) (H.tab.keeps hb)
  have CFAR : Hid (∀ W, Below w.heap.size w W → ∀ {t_g l_g b_g : Bool} {t_o l_o b_o : Option Addr} {t_n t_c l_n l_c b_n b_c : Nat} {t_e l_e b_e : Int}, DNum W (.agg #[.bool t_g, .slice t_o t_n t_c, .int .i64 t_e]) VT → DNum W (.agg #[.bool l_g, .slice l_o l_n l_c, .int .i64 l_e]) VL → DNum W (.agg #[.bool b_g, .slice b_o b_n b_c, .int .i64 b_e]) VB → Calls Tryd.prog 11 #[.agg #[.bool t_g, .slice t_o t_n t_c, .int .i64 t_e], .agg #[.bool l_g, .slice l_o l_n l_c, .int .i64 l_e], .agg #[.bool b_g, .slice b_o b_n b_c, .int .i64 b_e]] W fun r w' => r = .returned (.bool true) ∧ Below W.heap.size W w') := fun W hb {t_g l_g b_g t_o l_o b_o t_n t_c l_n l_c b_n b_c t_e l_e b_e} h1 h2 h3 => far_any W h1 h2 h3 oVT oVL oVB hVY oVY hYT oLL nTY nTT (H.tab.keeps hb)
  clear hVT hVL hVA hVB hVY H oVY hYT oLL nTY nTT
  go_enter Tryd.func3, Tryd.ntmps3
  have hb0 : Below w.heap.size w w := bel_refl w
  have hbx : Below w.heap.size w (w.alloc (.cells #[.int .i64 1] 3)) := bel_alloc _ _
  have one_k : (w.alloc (.cells #[.int .i64 1] 3)).heap[w.heap.size]? = some (.cells #[.int .i64 1] 3 (0, 0)) := heap_a1 _ _
  go_wp2_with fail
  generalize (w.alloc (.cells #[.int .i64 1] 3)) = x1 at hbx one_k ⊢
  have hb1 := bel_trans hb0 hbx
  clear hbx
  refine (C1.out _ _ hb1 one_k).mono ?_
  rintro _ y2 ⟨v, rfl, hA⟩
  obtain ⟨t_g, t_o, t_n, t_c, t_e, rfl⟩ := dans_shape hA
  have hw := hA.below
  have t_D := hA.num
  clear hA
  have one_k := (hw.block _ (Array.getElem?_eq_some_iff.1 one_k).1).trans one_k
  have hb2 := bel_trans hb1 hw
  clear hw
  have hbx : Below y2.heap.size y2 (y2.alloc (.cells #[.bool t_g, .slice t_o t_n t_c, .int .i64 t_e] 24)) := bel_alloc _ _
  have t_k : (y2.alloc (.cells #[.bool t_g, .slice t_o t_n t_c, .int .i64 t_e] 24)).heap[y2.heap.size]? = some (.cells #[.bool t_g, .slice t_o t_n t_c, .int .i64 t_e] 24 (0, 0)) := heap_a1 _ _
  go_wp2_with fail
  generalize (y2.alloc (.cells #[.bool t_g, .slice t_o t_n t_c, .int .i64 t_e] 24)) = x3 at hbx t_k ⊢
  have t_D := t_D.keeps hbx
  have one_k := (hbx.block _ (Array.getElem?_eq_some_iff.1 one_k).1).trans one_k
  have hb3 := bel_trans hb2 hbx
  clear hbx
  refine (C2.out _ _ hb3 one_k).mono ?_
  rintro _ y4 ⟨rfl, hw⟩
  have one_k := (hw.block _ (Array.getElem?_eq_some_iff.1 one_k).1).trans one_k
  have t_k := (hw.block _ (Array.getElem?_eq_some_iff.1 t_k).1).trans t_k
  have t_D := t_D.keeps hw
  have hb4 := bel_trans hb3 hw
  clear hw
  unfold zeroV
  have hbx : Below y4.heap.size y4 ((y4.alloc (.cells #[.bool false, .slice none 0 0, .int .i64 0] 24)).alloc (.cells #[.int .i64 2] 3)) := bel_alloc2 _ _ _
  have u4_k : ((y4.alloc (.cells #[.bool false, .slice none 0 0, .int .i64 0] 24)).alloc (.cells #[.int .i64 2] 3)).heap[y4.heap.size]? = some (.cells #[.bool false, .slice none 0 0, .int .i64 0] 24 (0, 0)) := heap_a2 _ _ _
  have two_k : ((y4.alloc (.cells #[.bool false, .slice none 0 0, .int .i64 0] 24)).alloc (.cells #[.int .i64 2] 3)).heap[y4.heap.size + 1]? = some (.cells #[.int .i64 2] 3 (0, 0)) := heap_b2 _ _ _
  go_wp2_with fail
  generalize ((y4.alloc (.cells #[.bool false, .slice none 0 0, .int .i64 0] 24)).alloc (.cells #[.int .i64 2] 3)) = x5 at hbx u4_k two_k ⊢
  have one_k := (hbx.block _ (Array.getElem?_eq_some_iff.1 one_k).1).trans one_k
  have t_k := (hbx.block _ (Array.getElem?_eq_some_iff.1 t_k).1).trans t_k
  have t_D := t_D.keeps hbx
  have hb5 := bel_trans hb4 hbx
  clear hbx
  refine (C3.out _ _ hb5 two_k).mono ?_
  rintro _ y6 ⟨rfl, hw⟩
  have one_k := (hw.block _ (Array.getElem?_eq_some_iff.1 one_k).1).trans one_k
  have t_k := (hw.block _ (Array.getElem?_eq_some_iff.1 t_k).1).trans t_k
  have t_D := t_D.keeps hw
  have two_k := (hw.block _ (Array.getElem?_eq_some_iff.1 two_k).1).trans two_k
  have hb6 := bel_trans hb5 hw
  clear hw
  unfold zeroV
  have hbx : Below y6.heap.size y6 (y6.alloc (.cells #[.bool false, .slice none 0 0, .int .i64 0] 24)) := bel_alloc _ _
  have u6_k : (y6.alloc (.cells #[.bool false, .slice none 0 0, .int .i64 0] 24)).heap[y6.heap.size]? = some (.cells #[.bool false, .slice none 0 0, .int .i64 0] 24 (0, 0)) := heap_a1 _ _
  go_wp2_with fail
  generalize (y6.alloc (.cells #[.bool false, .slice none 0 0, .int .i64 0] 24)) = x7 at hbx u6_k ⊢
  have one_k := (hbx.block _ (Array.getElem?_eq_some_iff.1 one_k).1).trans one_k
  have t_k := (hbx.block _ (Array.getElem?_eq_some_iff.1 t_k).1).trans t_k
  have t_D := t_D.keeps hbx
  have hb7 := bel_trans hb6 hbx
  clear hbx
  refine (C4.out _ _ hb7 one_k).mono ?_
  rintro _ y8 ⟨v, rfl, hA⟩
  obtain ⟨l_g, l_o, l_n, l_c, l_e, rfl⟩ := dans_shape hA
  have hw := hA.below
  have l_D := hA.num
  clear hA
  have one_k := (hw.block _ (Array.getElem?_eq_some_iff.1 one_k).1).trans one_k
  have t_k := (hw.block _ (Array.getElem?_eq_some_iff.1 t_k).1).trans t_k
  have t_D := t_D.keeps hw
  have hb8 := bel_trans hb7 hw
  clear hw
  have hbx : Below y8.heap.size y8 (y8.alloc (.cells #[.bool l_g, .slice l_o l_n l_c, .int .i64 l_e] 24)) := bel_alloc _ _
  have l_k : (y8.alloc (.cells #[.bool l_g, .slice l_o l_n l_c, .int .i64 l_e] 24)).heap[y8.heap.size]? = some (.cells #[.bool l_g, .slice l_o l_n l_c, .int .i64 l_e] 24 (0, 0)) := heap_a1 _ _
  have u_k := (hbx.block _ (Array.getElem?_eq_some_iff.1 t_k).1).trans t_k
  have f_t0 := blkC t_k 0 rfl
  have g_t0 := blkC u_k 0 rfl
  have f_t1 := blkC t_k 1 rfl
  have g_t1 := blkC u_k 1 rfl
  have f_t2 := blkC t_k 2 rfl
  have g_t2 := blkC u_k 2 rfl
  clear u_k
  go_wp2_with fail
  clear f_t0 g_t0 f_t1 g_t1 f_t2 g_t2
  generalize (y8.alloc (.cells #[.bool l_g, .slice l_o l_n l_c, .int .i64 l_e] 24)) = x9 at hbx l_k ⊢
  have l_D := l_D.keeps hbx
  have one_k := (hbx.block _ (Array.getElem?_eq_some_iff.1 one_k).1).trans one_k
  have t_k := (hbx.block _ (Array.getElem?_eq_some_iff.1 t_k).1).trans t_k
  have t_D := t_D.keeps hbx
  have hb9 := bel_trans hb8 hbx
  clear hbx
  refine (C5.out _ _ hb9 t_D).mono ?_
  rintro _ y10 ⟨rfl, hw⟩
  have one_k := (hw.block _ (Array.getElem?_eq_some_iff.1 one_k).1).trans one_k
  have t_k := (hw.block _ (Array.getElem?_eq_some_iff.1 t_k).1).trans t_k
  have t_D := t_D.keeps hw
  have l_k := (hw.block _ (Array.getElem?_eq_some_iff.1 l_k).1).trans l_k
  have l_D := l_D.keeps hw
  have hb10 := bel_trans hb9 hw
  clear hw
  unfold zeroV
  have hbx : Below y10.heap.size y10 (y10.alloc (.cells #[.bool false, .slice none 0 0, .int .i64 0] 24)) := bel_alloc _ _
  have u10_k : (y10.alloc (.cells #[.bool false, .slice none 0 0, .int .i64 0] 24)).heap[y10.heap.size]? = some (.cells #[.bool false, .slice none 0 0, .int .i64 0] 24 (0, 0)) := heap_a1 _ _
  have u_k := (hbx.block _ (Array.getElem?_eq_some_iff.1 l_k).1).trans l_k
  have f_l0 := blkC l_k 0 rfl
  have g_l0 := blkC u_k 0 rfl
  have f_l1 := blkC l_k 1 rfl
  have g_l1 := blkC u_k 1 rfl
  have f_l2 := blkC l_k 2 rfl
  have g_l2 := blkC u_k 2 rfl
  clear u_k
  go_wp2_with fail
  clear f_l0 g_l0 f_l1 g_l1 f_l2 g_l2
  generalize (y10.alloc (.cells #[.bool false, .slice none 0 0, .int .i64 0] 24)) = x11 at hbx u10_k ⊢
  have one_k := (hbx.block _ (Array.getElem?_eq_some_iff.1 one_k).1).trans one_k
  have t_k := (hbx.block _ (Array.getElem?_eq_some_iff.1 t_k).1).trans t_k
  have t_D := t_D.keeps hbx
  have l_k := (hbx.block _ (Array.getElem?_eq_some_iff.1 l_k).1).trans l_k
  have l_D := l_D.keeps hbx
  have hb11 := bel_trans hb10 hbx
  clear hbx
  refine (mul_no l_D oVL.out (HT.out _ hb11) nLL.out).mono ?_
  rintro _ y12 ⟨rfl, hw⟩
  have one_k := (hw.block _ (Array.getElem?_eq_some_iff.1 one_k).1).trans one_k
  have t_k := (hw.block _ (Array.getElem?_eq_some_iff.1 t_k).1).trans t_k
  have t_D := t_D.keeps hw
  have l_k := (hw.block _ (Array.getElem?_eq_some_iff.1 l_k).1).trans l_k
  have l_D := l_D.keeps hw
  have hb12 := bel_trans hb11 hw
  clear hw
  unfold zeroV
  have hbx : Below y12.heap.size y12 (y12.alloc (.cells #[.bool false, .slice none 0 0, .int .i64 0] 24)) := bel_alloc _ _
  have u12_k : (y12.alloc (.cells #[.bool false, .slice none 0 0, .int .i64 0] 24)).heap[y12.heap.size]? = some (.cells #[.bool false, .slice none 0 0, .int .i64 0] 24 (0, 0)) := heap_a1 _ _
  have u_k := (hbx.block _ (Array.getElem?_eq_some_iff.1 l_k).1).trans l_k
  have f_l0 := blkC l_k 0 rfl
  have g_l0 := blkC u_k 0 rfl
  have f_l1 := blkC l_k 1 rfl
  have g_l1 := blkC u_k 1 rfl
  have f_l2 := blkC l_k 2 rfl
  have g_l2 := blkC u_k 2 rfl
  clear u_k
  go_wp2_with fail
  clear f_l0 g_l0 f_l1 g_l1 f_l2 g_l2
  generalize (y12.alloc (.cells #[.bool false, .slice none 0 0, .int .i64 0] 24)) = x13 at hbx u12_k ⊢
  have one_k := (hbx.block _ (Array.getElem?_eq_some_iff.1 one_k).1).trans one_k
  have t_k := (hbx.block _ (Array.getElem?_eq_some_iff.1 t_k).1).trans t_k
  have t_D := t_D.keeps hbx
  have l_k := (hbx.block _ (Array.getElem?_eq_some_iff.1 l_k).1).trans l_k
  have l_D := l_D.keeps hbx
  have hb13 := bel_trans hb12 hbx
  clear hbx
  refine (C7.out _ _ hb13 l_D).mono ?_
  rintro _ y14 ⟨rfl, hw⟩
  have one_k := (hw.block _ (Array.getElem?_eq_some_iff.1 one_k).1).trans one_k
  have t_k := (hw.block _ (Array.getElem?_eq_some_iff.1 t_k).1).trans t_k
  have t_D := t_D.keeps hw
  have l_k := (hw.block _ (Array.getElem?_eq_some_iff.1 l_k).1).trans l_k
  have l_D := l_D.keeps hw
  have hb14 := bel_trans hb13 hw
  clear hw
  unfold zeroV
  have hbx : Below y14.heap.size y14 (y14.alloc (.cells #[.bool false, .slice none 0 0, .int .i64 0] 24)) := bel_alloc _ _
  have u14_k : (y14.alloc (.cells #[.bool false, .slice none 0 0, .int .i64 0] 24)).heap[y14.heap.size]? = some (.cells #[.bool false, .slice none 0 0, .int .i64 0] 24 (0, 0)) := heap_a1 _ _
  go_wp2_with fail
  generalize (y14.alloc (.cells #[.bool false, .slice none 0 0, .int .i64 0] 24)) = x15 at hbx u14_k ⊢
  have one_k := (hbx.block _ (Array.getElem?_eq_some_iff.1 one_k).1).trans one_k
  have t_k := (hbx.block _ (Array.getElem?_eq_some_iff.1 t_k).1).trans t_k
  have t_D := t_D.keeps hbx
  have l_k := (hbx.block _ (Array.getElem?_eq_some_iff.1 l_k).1).trans l_k
  have l_D := l_D.keeps hbx
  have hb15 := bel_trans hb14 hbx
  clear hbx
  refine (scale_zero 4611686018427387904 (by unfold rng; omega) (HT.out _ hb15)).mono ?_
  rintro _ y16 ⟨v, rfl, hA⟩
  obtain ⟨z_g, z_o, z_n, z_c, z_e, rfl⟩ := dans_shape hA
  have hw := hA.below
  have z_D := hA.num
  clear hA
  have one_k := (hw.block _ (Array.getElem?_eq_some_iff.1 one_k).1).trans one_k
  have t_k := (hw.block _ (Array.getElem?_eq_some_iff.1 t_k).1).trans t_k
  have t_D := t_D.keeps hw
  have l_k := (hw.block _ (Array.getElem?_eq_some_iff.1 l_k).1).trans l_k
  have l_D := l_D.keeps hw
  have hb16 := bel_trans hb15 hw
  clear hw
  have hbx : Below y16.heap.size y16 (y16.alloc (.cells #[.bool z_g, .slice z_o z_n z_c, .int .i64 z_e] 24)) := bel_alloc _ _
  have z_k : (y16.alloc (.cells #[.bool z_g, .slice z_o z_n z_c, .int .i64 z_e] 24)).heap[y16.heap.size]? = some (.cells #[.bool z_g, .slice z_o z_n z_c, .int .i64 z_e] 24 (0, 0)) := heap_a1 _ _
  go_wp2_with fail
  generalize (y16.alloc (.cells #[.bool z_g, .slice z_o z_n z_c, .int .i64 z_e] 24)) = x17 at hbx z_k ⊢
  have z_D := z_D.keeps hbx
  have one_k := (hbx.block _ (Array.getElem?_eq_some_iff.1 one_k).1).trans one_k
  have t_k := (hbx.block _ (Array.getElem?_eq_some_iff.1 t_k).1).trans t_k
  have t_D := t_D.keeps hbx
  have l_k := (hbx.block _ (Array.getElem?_eq_some_iff.1 l_k).1).trans l_k
  have l_D := l_D.keeps hbx
  have hb17 := bel_trans hb16 hbx
  clear hbx
  refine (C9.out _ _ hb17 one_k).mono ?_
  rintro _ y18 ⟨v, rfl, hA⟩
  obtain ⟨a_g, a_o, a_n, a_c, a_e, rfl⟩ := dans_shape hA
  have hw := hA.below
  have a_D := hA.num
  clear hA
  have one_k := (hw.block _ (Array.getElem?_eq_some_iff.1 one_k).1).trans one_k
  have t_k := (hw.block _ (Array.getElem?_eq_some_iff.1 t_k).1).trans t_k
  have t_D := t_D.keeps hw
  have l_k := (hw.block _ (Array.getElem?_eq_some_iff.1 l_k).1).trans l_k
  have l_D := l_D.keeps hw
  have z_k := (hw.block _ (Array.getElem?_eq_some_iff.1 z_k).1).trans z_k
  have z_D := z_D.keeps hw
  have hb18 := bel_trans hb17 hw
  clear hw
  have hbx : Below y18.heap.size y18 (y18.alloc (.cells #[.bool a_g, .slice a_o a_n a_c, .int .i64 a_e] 24)) := bel_alloc _ _
  have a_k : (y18.alloc (.cells #[.bool a_g, .slice a_o a_n a_c, .int .i64 a_e] 24)).heap[y18.heap.size]? = some (.cells #[.bool a_g, .slice a_o a_n a_c, .int .i64 a_e] 24 (0, 0)) := heap_a1 _ _
  go_wp2_with fail
  generalize (y18.alloc (.cells #[.bool a_g, .slice a_o a_n a_c, .int .i64 a_e] 24)) = x19 at hbx a_k ⊢
  have a_D := a_D.keeps hbx
  have one_k := (hbx.block _ (Array.getElem?_eq_some_iff.1 one_k).1).trans one_k
  have t_k := (hbx.block _ (Array.getElem?_eq_some_iff.1 t_k).1).trans t_k
  have t_D := t_D.keeps hbx
  have l_k := (hbx.block _ (Array.getElem?_eq_some_iff.1 l_k).1).trans l_k
  have l_D := l_D.keeps hbx
  have z_k := (hbx.block _ (Array.getElem?_eq_some_iff.1 z_k).1).trans z_k
  have z_D := z_D.keeps hbx
  have hb19 := bel_trans hb18 hbx
  clear hbx
  refine (C10.out _ _ hb19 one_k).mono ?_
  rintro _ y20 ⟨v, rfl, hA⟩
  obtain ⟨b_g, b_o, b_n, b_c, b_e, rfl⟩ := dans_shape hA
  have hw := hA.below
  have b_D := hA.num
  clear hA
  have one_k := (hw.block _ (Array.getElem?_eq_some_iff.1 one_k).1).trans one_k
  have t_k := (hw.block _ (Array.getElem?_eq_some_iff.1 t_k).1).trans t_k
  have t_D := t_D.keeps hw
  have l_k := (hw.block _ (Array.getElem?_eq_some_iff.1 l_k).1).trans l_k
  have l_D := l_D.keeps hw
  have z_k := (hw.block _ (Array.getElem?_eq_some_iff.1 z_k).1).trans z_k
  have z_D := z_D.keeps hw
  have a_k := (hw.block _ (Array.getElem?_eq_some_iff.1 a_k).1).trans a_k
  have a_D := a_D.keeps hw
  have hb20 := bel_trans hb19 hw
  clear hw
  have hbx : Below y20.heap.size y20 (y20.alloc (.cells #[.bool b_g, .slice b_o b_n b_c, .int .i64 b_e] 24)) := bel_alloc _ _
  have b_k : (y20.alloc (.cells #[.bool b_g, .slice b_o b_n b_c, .int .i64 b_e] 24)).heap[y20.heap.size]? = some (.cells #[.bool b_g, .slice b_o b_n b_c, .int .i64 b_e] 24 (0, 0)) := heap_a1 _ _
  have u_k := (hbx.block _ (Array.getElem?_eq_some_iff.1 a_k).1).trans a_k
  have f_a0 := blkC a_k 0 rfl
  have g_a0 := blkC u_k 0 rfl
  have f_a1 := blkC a_k 1 rfl
  have g_a1 := blkC u_k 1 rfl
  have f_a2 := blkC a_k 2 rfl
  have g_a2 := blkC u_k 2 rfl
  clear u_k
  go_wp2_with fail
  clear f_a0 g_a0 f_a1 g_a1 f_a2 g_a2
  generalize (y20.alloc (.cells #[.bool b_g, .slice b_o b_n b_c, .int .i64 b_e] 24)) = x21 at hbx b_k ⊢
  have b_D := b_D.keeps hbx
  have one_k := (hbx.block _ (Array.getElem?_eq_some_iff.1 one_k).1).trans one_k
  have t_k := (hbx.block _ (Array.getElem?_eq_some_iff.1 t_k).1).trans t_k
  have t_D := t_D.keeps hbx
  have l_k := (hbx.block _ (Array.getElem?_eq_some_iff.1 l_k).1).trans l_k
  have l_D := l_D.keeps hbx
  have z_k := (hbx.block _ (Array.getElem?_eq_some_iff.1 z_k).1).trans z_k
  have z_D := z_D.keeps hbx
  have a_k := (hbx.block _ (Array.getElem?_eq_some_iff.1 a_k).1).trans a_k
  have a_D := a_D.keeps hbx
  have hb21 := bel_trans hb20 hbx
  clear hbx
  refine (neg_D a_D oVA.out).mono ?_
  rintro _ y22 ⟨v, rfl, hA⟩
  obtain ⟨c_g, c_o, c_n, c_c, c_e, rfl⟩ := dans_shape hA
  have hw := hA.below
  have c_D := hA.num
  clear hA
  have one_k := (hw.block _ (Array.getElem?_eq_some_iff.1 one_k).1).trans one_k
  have t_k := (hw.block _ (Array.getElem?_eq_some_iff.1 t_k).1).trans t_k
  have t_D := t_D.keeps hw
  have l_k := (hw.block _ (Array.getElem?_eq_some_iff.1 l_k).1).trans l_k
  have l_D := l_D.keeps hw
  have z_k := (hw.block _ (Array.getElem?_eq_some_iff.1 z_k).1).trans z_k
  have z_D := z_D.keeps hw
  have a_k := (hw.block _ (Array.getElem?_eq_some_iff.1 a_k).1).trans a_k
  have a_D := a_D.keeps hw
  have b_k := (hw.block _ (Array.getElem?_eq_some_iff.1 b_k).1).trans b_k
  have b_D := b_D.keeps hw
  have hb22 := bel_trans hb21 hw
  clear hw
  have hbx : Below y22.heap.size y22 (y22.alloc (.cells #[.bool c_g, .slice c_o c_n c_c, .int .i64 c_e] 24)) := bel_alloc _ _
  have c_k : (y22.alloc (.cells #[.bool c_g, .slice c_o c_n c_c, .int .i64 c_e] 24)).heap[y22.heap.size]? = some (.cells #[.bool c_g, .slice c_o c_n c_c, .int .i64 c_e] 24 (0, 0)) := heap_a1 _ _
  have u_k := (hbx.block _ (Array.getElem?_eq_some_iff.1 a_k).1).trans a_k
  have f_a0 := blkC a_k 0 rfl
  have g_a0 := blkC u_k 0 rfl
  have f_a1 := blkC a_k 1 rfl
  have g_a1 := blkC u_k 1 rfl
  have f_a2 := blkC a_k 2 rfl
  have g_a2 := blkC u_k 2 rfl
  clear u_k
  have u_k := (hbx.block _ (Array.getElem?_eq_some_iff.1 b_k).1).trans b_k
  have f_b0 := blkC b_k 0 rfl
  have g_b0 := blkC u_k 0 rfl
  have f_b1 := blkC b_k 1 rfl
  have g_b1 := blkC u_k 1 rfl
  have f_b2 := blkC b_k 2 rfl
  have g_b2 := blkC u_k 2 rfl
  clear u_k
  go_wp2_with fail
  clear f_a0 g_a0 f_a1 g_a1 f_a2 g_a2 f_b0 g_b0 f_b1 g_b1 f_b2 g_b2
  generalize (y22.alloc (.cells #[.bool c_g, .slice c_o c_n c_c, .int .i64 c_e] 24)) = x23 at hbx c_k ⊢
  have c_D := c_D.keeps hbx
  have one_k := (hbx.block _ (Array.getElem?_eq_some_iff.1 one_k).1).trans one_k
  have t_k := (hbx.block _ (Array.getElem?_eq_some_iff.1 t_k).1).trans t_k
  have t_D := t_D.keeps hbx
  have l_k := (hbx.block _ (Array.getElem?_eq_some_iff.1 l_k).1).trans l_k
  have l_D := l_D.keeps hbx
  have z_k := (hbx.block _ (Array.getElem?_eq_some_iff.1 z_k).1).trans z_k
  have z_D := z_D.keeps hbx
  have a_k := (hbx.block _ (Array.getElem?_eq_some_iff.1 a_k).1).trans a_k
  have a_D := a_D.keeps hbx
  have b_k := (hbx.block _ (Array.getElem?_eq_some_iff.1 b_k).1).trans b_k
  have b_D := b_D.keeps hbx
  have hb23 := bel_trans hb22 hbx
  clear hbx
  refine (addD_no a_D b_D oVA.out oVB.out (HT.out _ hb23) nAB.out).mono ?_
  rintro _ y24 ⟨rfl, hw⟩
  have one_k := (hw.block _ (Array.getElem?_eq_some_iff.1 one_k).1).trans one_k
  have t_k := (hw.block _ (Array.getElem?_eq_some_iff.1 t_k).1).trans t_k
  have t_D := t_D.keeps hw
  have l_k := (hw.block _ (Array.getElem?_eq_some_iff.1 l_k).1).trans l_k
  have l_D := l_D.keeps hw
  have z_k := (hw.block _ (Array.getElem?_eq_some_iff.1 z_k).1).trans z_k
  have z_D := z_D.keeps hw
  have a_k := (hw.block _ (Array.getElem?_eq_some_iff.1 a_k).1).trans a_k
  have a_D := a_D.keeps hw
  have b_k := (hw.block _ (Array.getElem?_eq_some_iff.1 b_k).1).trans b_k
  have b_D := b_D.keeps hw
  have c_k := (hw.block _ (Array.getElem?_eq_some_iff.1 c_k).1).trans c_k
  have c_D := c_D.keeps hw
  have hb24 := bel_trans hb23 hw
  clear hw
  unfold zeroV
  have hbx : Below y24.heap.size y24 ((y24.alloc (.cells #[.bool false, .slice none 0 0, .int .i64 0] 24)).alloc (.cells #[.bool a_g, .slice a_o a_n a_c, .int .i64 a_e, .bool b_g, .slice b_o b_n b_c, .int .i64 b_e, .bool c_g, .slice c_o c_n c_c, .int .i64 c_e] 24)) := bel_alloc2 _ _ _
  have u24_k : ((y24.alloc (.cells #[.bool false, .slice none 0 0, .int .i64 0] 24)).alloc (.cells #[.bool a_g, .slice a_o a_n a_c, .int .i64 a_e, .bool b_g, .slice b_o b_n b_c, .int .i64 b_e, .bool c_g, .slice c_o c_n c_c, .int .i64 c_e] 24)).heap[y24.heap.size]? = some (.cells #[.bool false, .slice none 0 0, .int .i64 0] 24 (0, 0)) := heap_a2 _ _ _
  have q_k : ((y24.alloc (.cells #[.bool false, .slice none 0 0, .int .i64 0] 24)).alloc (.cells #[.bool a_g, .slice a_o a_n a_c, .int .i64 a_e, .bool b_g, .slice b_o b_n b_c, .int .i64 b_e, .bool c_g, .slice c_o c_n c_c, .int .i64 c_e] 24)).heap[y24.heap.size + 1]? = some (.cells #[.bool a_g, .slice a_o a_n a_c, .int .i64 a_e, .bool b_g, .slice b_o b_n b_c, .int .i64 b_e, .bool c_g, .slice c_o c_n c_c, .int .i64 c_e] 24 (0, 0)) := heap_b2 _ _ _
  have u_k := ((bel_alloc y24 (.cells #[.bool false, .slice none 0 0, .int .i64 0] 24)).block _ (Array.getElem?_eq_some_iff.1 a_k).1).trans a_k
  have h_a0 := blkC u_k 0 rfl
  have h_a1 := blkC u_k 1 rfl
  have h_a2 := blkC u_k 2 rfl
  clear u_k
  have u_k := ((bel_alloc y24 (.cells #[.bool false, .slice none 0 0, .int .i64 0] 24)).block _ (Array.getElem?_eq_some_iff.1 b_k).1).trans b_k
  have h_b0 := blkC u_k 0 rfl
  have h_b1 := blkC u_k 1 rfl
  have h_b2 := blkC u_k 2 rfl
  clear u_k
  have u_k := ((bel_alloc y24 (.cells #[.bool false, .slice none 0 0, .int .i64 0] 24)).block _ (Array.getElem?_eq_some_iff.1 c_k).1).trans c_k
  have h_c0 := blkC u_k 0 rfl
  have h_c1 := blkC u_k 1 rfl
  have h_c2 := blkC u_k 2 rfl
  clear u_k
  have u_k := (hbx.block _ (Array.getElem?_eq_some_iff.1 a_k).1).trans a_k
  have f_a0 := blkC a_k 0 rfl
  have g_a0 := blkC u_k 0 rfl
  have f_a1 := blkC a_k 1 rfl
  have g_a1 := blkC u_k 1 rfl
  have f_a2 := blkC a_k 2 rfl
  have g_a2 := blkC u_k 2 rfl
  clear u_k
  have u_k := (hbx.block _ (Array.getElem?_eq_some_iff.1 b_k).1).trans b_k
  have f_b0 := blkC b_k 0 rfl
  have g_b0 := blkC u_k 0 rfl
  have f_b1 := blkC b_k 1 rfl
  have g_b1 := blkC u_k 1 rfl
  have f_b2 := blkC b_k 2 rfl
  have g_b2 := blkC u_k 2 rfl
  clear u_k
  have u_k := (hbx.block _ (Array.getElem?_eq_some_iff.1 c_k).1).trans c_k
  have f_c0 := blkC c_k 0 rfl
  have g_c0 := blkC u_k 0 rfl
  have f_c1 := blkC c_k 1 rfl
  have g_c1 := blkC u_k 1 rfl
  have f_c2 := blkC c_k 2 rfl
  have g_c2 := blkC u_k 2 rfl
  clear u_k
  go_wp2_with fail
  clear h_a0 h_a1 h_a2 h_b0 h_b1 h_b2 h_c0 h_c1 h_c2 f_a0 g_a0 f_a1 g_a1 f_a2 g_a2 f_b0 g_b0 f_b1 g_b1 f_b2 g_b2 f_c0 g_c0 f_c1 g_c1 f_c2 g_c2
  generalize ((y24.alloc (.cells #[.bool false, .slice none 0 0, .int .i64 0] 24)).alloc (.cells #[.bool a_g, .slice a_o a_n a_c, .int .i64 a_e, .bool b_g, .slice b_o b_n b_c, .int .i64 b_e, .bool c_g, .slice c_o c_n c_c, .int .i64 c_e] 24)) = x25 at hbx u24_k q_k ⊢
  have one_k := (hbx.block _ (Array.getElem?_eq_some_iff.1 one_k).1).trans one_k
  have t_k := (hbx.block _ (Array.getElem?_eq_some_iff.1 t_k).1).trans t_k
  have t_D := t_D.keeps hbx
  have l_k := (hbx.block _ (Array.getElem?_eq_some_iff.1 l_k).1).trans l_k
  have l_D := l_D.keeps hbx
  have z_k := (hbx.block _ (Array.getElem?_eq_some_iff.1 z_k).1).trans z_k
  have z_D := z_D.keeps hbx
  have a_k := (hbx.block _ (Array.getElem?_eq_some_iff.1 a_k).1).trans a_k
  have a_D := a_D.keeps hbx
  have b_k := (hbx.block _ (Array.getElem?_eq_some_iff.1 b_k).1).trans b_k
  have b_D := b_D.keeps hbx
  have c_k := (hbx.block _ (Array.getElem?_eq_some_iff.1 c_k).1).trans c_k
  have c_D := c_D.keeps hbx
  have hb25 := bel_trans hb24 hbx
  clear hbx
  refine (sum_back q_k a_D b_D c_D oVA.out oVB.out (HT.out _ hb25)).mono ?_
  rintro _ y26 ⟨v, rfl, hA⟩
  obtain ⟨s_g, s_o, s_n, s_c, s_e, rfl⟩ := dans_shape hA
  have hw := hA.below
  have s_D := hA.num
  clear hA
  have one_k := (hw.block _ (Array.getElem?_eq_some_iff.1 one_k).1).trans one_k
  have t_k := (hw.block _ (Array.getElem?_eq_some_iff.1 t_k).1).trans t_k
  have t_D := t_D.keeps hw
  have l_k := (hw.block _ (Array.getElem?_eq_some_iff.1 l_k).1).trans l_k
  have l_D := l_D.keeps hw
  have z_k := (hw.block _ (Array.getElem?_eq_some_iff.1 z_k).1).trans z_k
  have z_D := z_D.keeps hw
  have a_k := (hw.block _ (Array.getElem?_eq_some_iff.1 a_k).1).trans a_k
  have a_D := a_D.keeps hw
  have b_k := (hw.block _ (Array.getElem?_eq_some_iff.1 b_k).1).trans b_k
  have b_D := b_D.keeps hw
  have c_k := (hw.block _ (Array.getElem?_eq_some_iff.1 c_k).1).trans c_k
  have c_D := c_D.keeps hw
  have q_k := (hw.block _ (Array.getElem?_eq_some_iff.1 q_k).1).trans q_k
  have hb26 := bel_trans hb25 hw
  clear hw
  have hbx : Below y26.heap.size y26 (y26.alloc (.cells #[.bool s_g, .slice s_o s_n s_c, .int .i64 s_e] 24)) := bel_alloc _ _
  have s_k : (y26.alloc (.cells #[.bool s_g, .slice s_o s_n s_c, .int .i64 s_e] 24)).heap[y26.heap.size]? = some (.cells #[.bool s_g, .slice s_o s_n s_c, .int .i64 s_e] 24 (0, 0)) := heap_a1 _ _
  have u_k := (hbx.block _ (Array.getElem?_eq_some_iff.1 a_k).1).trans a_k
  have f_a0 := blkC a_k 0 rfl
  have g_a0 := blkC u_k 0 rfl
  have f_a1 := blkC a_k 1 rfl
  have g_a1 := blkC u_k 1 rfl
  have f_a2 := blkC a_k 2 rfl
  have g_a2 := blkC u_k 2 rfl
  clear u_k
  have u_k := (hbx.block _ (Array.getElem?_eq_some_iff.1 b_k).1).trans b_k
  have f_b0 := blkC b_k 0 rfl
  have g_b0 := blkC u_k 0 rfl
  have f_b1 := blkC b_k 1 rfl
  have g_b1 := blkC u_k 1 rfl
  have f_b2 := blkC b_k 2 rfl
  have g_b2 := blkC u_k 2 rfl
  clear u_k
  go_wp2_with fail
  clear f_a0 g_a0 f_a1 g_a1 f_a2 g_a2 f_b0 g_b0 f_b1 g_b1 f_b2 g_b2
  generalize (y26.alloc (.cells #[.bool s_g, .slice s_o s_n s_c, .int .i64 s_e] 24)) = x27 at hbx s_k ⊢
  have s_D := s_D.keeps hbx
  have one_k := (hbx.block _ (Array.getElem?_eq_some_iff.1 one_k).1).trans one_k
  have t_k := (hbx.block _ (Array.getElem?_eq_some_iff.1 t_k).1).trans t_k
  have t_D := t_D.keeps hbx
  have l_k := (hbx.block _ (Array.getElem?_eq_some_iff.1 l_k).1).trans l_k
  have l_D := l_D.keeps hbx
  have z_k := (hbx.block _ (Array.getElem?_eq_some_iff.1 z_k).1).trans z_k
  have z_D := z_D.keeps hbx
  have a_k := (hbx.block _ (Array.getElem?_eq_some_iff.1 a_k).1).trans a_k
  have a_D := a_D.keeps hbx
  have b_k := (hbx.block _ (Array.getElem?_eq_some_iff.1 b_k).1).trans b_k
  have b_D := b_D.keeps hbx
  have c_k := (hbx.block _ (Array.getElem?_eq_some_iff.1 c_k).1).trans c_k
  have c_D := c_D.keeps hbx
  have hb27 := bel_trans hb26 hbx
  clear hbx
  refine (cmp_D a_D b_D oVA.out oVB.out).mono ?_
  rintro _ y28 ⟨rfl, hw⟩
  have one_k := (hw.block _ (Array.getElem?_eq_some_iff.1 one_k).1).trans one_k
  have t_k := (hw.block _ (Array.getElem?_eq_some_iff.1 t_k).1).trans t_k
  have t_D := t_D.keeps hw
  have l_k := (hw.block _ (Array.getElem?_eq_some_iff.1 l_k).1).trans l_k
  have l_D := l_D.keeps hw
  have z_k := (hw.block _ (Array.getElem?_eq_some_iff.1 z_k).1).trans z_k
  have z_D := z_D.keeps hw
  have a_k := (hw.block _ (Array.getElem?_eq_some_iff.1 a_k).1).trans a_k
  have a_D := a_D.keeps hw
  have b_k := (hw.block _ (Array.getElem?_eq_some_iff.1 b_k).1).trans b_k
  have b_D := b_D.keeps hw
  have c_k := (hw.block _ (Array.getElem?_eq_some_iff.1 c_k).1).trans c_k
  have c_D := c_D.keeps hw
  have s_k := (hw.block _ (Array.getElem?_eq_some_iff.1 s_k).1).trans s_k
  have s_D := s_D.keeps hw
  have hb28 := bel_trans hb27 hw
  clear hw
  rw [ord_gt (show VB < VA from hBA.out)]
  have hbx : Below y28.heap.size y28 (y28.alloc (.cells #[.int .i64 0] 3)) := bel_alloc _ _
  have nought_k : (y28.alloc (.cells #[.int .i64 0] 3)).heap[y28.heap.size]? = some (.cells #[.int .i64 0] 3 (0, 0)) := heap_a1 _ _
  go_wp2_with fail
  generalize (y28.alloc (.cells #[.int .i64 0] 3)) = x29 at hbx nought_k ⊢
  have one_k := (hbx.block _ (Array.getElem?_eq_some_iff.1 one_k).1).trans one_k
  have t_k := (hbx.block _ (Array.getElem?_eq_some_iff.1 t_k).1).trans t_k
  have t_D := t_D.keeps hbx
  have l_k := (hbx.block _ (Array.getElem?_eq_some_iff.1 l_k).1).trans l_k
  have l_D := l_D.keeps hbx
  have z_k := (hbx.block _ (Array.getElem?_eq_some_iff.1 z_k).1).trans z_k
  have z_D := z_D.keeps hbx
  have a_k := (hbx.block _ (Array.getElem?_eq_some_iff.1 a_k).1).trans a_k
  have a_D := a_D.keeps hbx
  have b_k := (hbx.block _ (Array.getElem?_eq_some_iff.1 b_k).1).trans b_k
  have b_D := b_D.keeps hbx
  have c_k := (hbx.block _ (Array.getElem?_eq_some_iff.1 c_k).1).trans c_k
  have c_D := c_D.keeps hbx
  have s_k := (hbx.block _ (Array.getElem?_eq_some_iff.1 s_k).1).trans s_k
  have s_D := s_D.keeps hbx
  have hb29 := bel_trans hb28 hbx
  clear hbx
  refine (make_nought nought_k).mono ?_
  rintro _ y30 ⟨rfl, hw⟩
  have one_k := (hw.block _ (Array.getElem?_eq_some_iff.1 one_k).1).trans one_k
  have t_k := (hw.block _ (Array.getElem?_eq_some_iff.1 t_k).1).trans t_k
  have t_D := t_D.keeps hw
  have l_k := (hw.block _ (Array.getElem?_eq_some_iff.1 l_k).1).trans l_k
  have l_D := l_D.keeps hw
  have z_k := (hw.block _ (Array.getElem?_eq_some_iff.1 z_k).1).trans z_k
  have z_D := z_D.keeps hw
  have a_k := (hw.block _ (Array.getElem?_eq_some_iff.1 a_k).1).trans a_k
  have a_D := a_D.keeps hw
  have b_k := (hw.block _ (Array.getElem?_eq_some_iff.1 b_k).1).trans b_k
  have b_D := b_D.keeps hw
  have c_k := (hw.block _ (Array.getElem?_eq_some_iff.1 c_k).1).trans c_k
  have c_D := c_D.keeps hw
  have s_k := (hw.block _ (Array.getElem?_eq_some_iff.1 s_k).1).trans s_k
  have s_D := s_D.keeps hw
  have nought_k := (hw.block _ (Array.getElem?_eq_some_iff.1 nought_k).1).trans nought_k
  have hb30 := bel_trans hb29 hw
  clear hw
  unfold zeroV
  have hbx : Below y30.heap.size y30 (y30.alloc (.cells #[.bool false, .slice none 0 0, .int .i64 0] 24)) := bel_alloc _ _
  have u30_k : (y30.alloc (.cells #[.bool false, .slice none 0 0, .int .i64 0] 24)).heap[y30.heap.size]? = some (.cells #[.bool false, .slice none 0 0, .int .i64 0] 24 (0, 0)) := heap_a1 _ _
  go_wp2_with fail
  generalize (y30.alloc (.cells #[.bool false, .slice none 0 0, .int .i64 0] 24)) = x31 at hbx u30_k ⊢
  have one_k := (hbx.block _ (Array.getElem?_eq_some_iff.1 one_k).1).trans one_k
  have t_k := (hbx.block _ (Array.getElem?_eq_some_iff.1 t_k).1).trans t_k
  have t_D := t_D.keeps hbx
  have l_k := (hbx.block _ (Array.getElem?_eq_some_iff.1 l_k).1).trans l_k
  have l_D := l_D.keeps hbx
  have z_k := (hbx.block _ (Array.getElem?_eq_some_iff.1 z_k).1).trans z_k
  have z_D := z_D.keeps hbx
  have a_k := (hbx.block _ (Array.getElem?_eq_some_iff.1 a_k).1).trans a_k
  have a_D := a_D.keeps hbx
  have b_k := (hbx.block _ (Array.getElem?_eq_some_iff.1 b_k).1).trans b_k
  have b_D := b_D.keeps hbx
  have c_k := (hbx.block _ (Array.getElem?_eq_some_iff.1 c_k).1).trans c_k
  have c_D := c_D.keeps hbx
  have s_k := (hbx.block _ (Array.getElem?_eq_some_iff.1 s_k).1).trans s_k
  have s_D := s_D.keeps hbx
  have hb31 := bel_trans hb30 hbx
  clear hbx
  refine (C16.out _ _ hb31 one_k).mono ?_
  rintro _ y32 ⟨rfl, hw⟩
  have one_k := (hw.block _ (Array.getElem?_eq_some_iff.1 one_k).1).trans one_k
  have t_k := (hw.block _ (Array.getElem?_eq_some_iff.1 t_k).1).trans t_k
  have t_D := t_D.keeps hw
  have l_k := (hw.block _ (Array.getElem?_eq_some_iff.1 l_k).1).trans l_k
  have l_D := l_D.keeps hw
  have z_k := (hw.block _ (Array.getElem?_eq_some_iff.1 z_k).1).trans z_k
  have z_D := z_D.keeps hw
  have a_k := (hw.block _ (Array.getElem?_eq_some_iff.1 a_k).1).trans a_k
  have a_D := a_D.keeps hw
  have b_k := (hw.block _ (Array.getElem?_eq_some_iff.1 b_k).1).trans b_k
  have b_D := b_D.keeps hw
  have c_k := (hw.block _ (Array.getElem?_eq_some_iff.1 c_k).1).trans c_k
  have c_D := c_D.keeps hw
  have s_k := (hw.block _ (Array.getElem?_eq_some_iff.1 s_k).1).trans s_k
  have s_D := s_D.keeps hw
  have hb32 := bel_trans hb31 hw
  clear hw
  unfold zeroV
  have hbx : Below y32.heap.size y32 (y32.alloc (.cells #[.bool false, .slice none 0 0, .int .i64 0] 24)) := bel_alloc _ _
  have u32_k : (y32.alloc (.cells #[.bool false, .slice none 0 0, .int .i64 0] 24)).heap[y32.heap.size]? = some (.cells #[.bool false, .slice none 0 0, .int .i64 0] 24 (0, 0)) := heap_a1 _ _
  have u_k := (hbx.block _ (Array.getElem?_eq_some_iff.1 l_k).1).trans l_k
  have f_l0 := blkC l_k 0 rfl
  have g_l0 := blkC u_k 0 rfl
  have f_l1 := blkC l_k 1 rfl
  have g_l1 := blkC u_k 1 rfl
  have f_l2 := blkC l_k 2 rfl
  have g_l2 := blkC u_k 2 rfl
  clear u_k
  go_wp2_with fail
  clear f_l0 g_l0 f_l1 g_l1 f_l2 g_l2
  generalize (y32.alloc (.cells #[.bool false, .slice none 0 0, .int .i64 0] 24)) = x33 at hbx u32_k ⊢
  have one_k := (hbx.block _ (Array.getElem?_eq_some_iff.1 one_k).1).trans one_k
  have t_k := (hbx.block _ (Array.getElem?_eq_some_iff.1 t_k).1).trans t_k
  have t_D := t_D.keeps hbx
  have l_k := (hbx.block _ (Array.getElem?_eq_some_iff.1 l_k).1).trans l_k
  have l_D := l_D.keeps hbx
  have z_k := (hbx.block _ (Array.getElem?_eq_some_iff.1 z_k).1).trans z_k
  have z_D := z_D.keeps hbx
  have a_k := (hbx.block _ (Array.getElem?_eq_some_iff.1 a_k).1).trans a_k
  have a_D := a_D.keeps hbx
  have b_k := (hbx.block _ (Array.getElem?_eq_some_iff.1 b_k).1).trans b_k
  have b_D := b_D.keeps hbx
  have c_k := (hbx.block _ (Array.getElem?_eq_some_iff.1 c_k).1).trans c_k
  have c_D := c_D.keeps hbx
  have s_k := (hbx.block _ (Array.getElem?_eq_some_iff.1 s_k).1).trans s_k
  have s_D := s_D.keeps hbx
  have hb33 := bel_trans hb32 hbx
  clear hbx
  refine (C17.out _ _ hb33 l_D).mono ?_
  rintro _ y34 ⟨rfl, hw⟩
  have one_k := (hw.block _ (Array.getElem?_eq_some_iff.1 one_k).1).trans one_k
  have t_k := (hw.block _ (Array.getElem?_eq_some_iff.1 t_k).1).trans t_k
  have t_D := t_D.keeps hw
  have l_k := (hw.block _ (Array.getElem?_eq_some_iff.1 l_k).1).trans l_k
  have l_D := l_D.keeps hw
  have z_k := (hw.block _ (Array.getElem?_eq_some_iff.1 z_k).1).trans z_k
  have z_D := z_D.keeps hw
  have a_k := (hw.block _ (Array.getElem?_eq_some_iff.1 a_k).1).trans a_k
  have a_D := a_D.keeps hw
  have b_k := (hw.block _ (Array.getElem?_eq_some_iff.1 b_k).1).trans b_k
  have b_D := b_D.keeps hw
  have c_k := (hw.block _ (Array.getElem?_eq_some_iff.1 c_k).1).trans c_k
  have c_D := c_D.keeps hw
  have s_k := (hw.block _ (Array.getElem?_eq_some_iff.1 s_k).1).trans s_k
  have s_D := s_D.keeps hw
  have hb34 := bel_trans hb33 hw
  clear hw
  unfold zeroV
  have hbx : Below y34.heap.size y34 (y34.alloc (.cells #[.bool false, .slice none 0 0, .int .i64 0] 24)) := bel_alloc _ _
  have u34_k : (y34.alloc (.cells #[.bool false, .slice none 0 0, .int .i64 0] 24)).heap[y34.heap.size]? = some (.cells #[.bool false, .slice none 0 0, .int .i64 0] 24 (0, 0)) := heap_a1 _ _
  have u_k := (hbx.block _ (Array.getElem?_eq_some_iff.1 t_k).1).trans t_k
  have f_t0 := blkC t_k 0 rfl
  have g_t0 := blkC u_k 0 rfl
  have f_t1 := blkC t_k 1 rfl
  have g_t1 := blkC u_k 1 rfl
  have f_t2 := blkC t_k 2 rfl
  have g_t2 := blkC u_k 2 rfl
  clear u_k
  have u_k := (hbx.block _ (Array.getElem?_eq_some_iff.1 l_k).1).trans l_k
  have f_l0 := blkC l_k 0 rfl
  have g_l0 := blkC u_k 0 rfl
  have f_l1 := blkC l_k 1 rfl
  have g_l1 := blkC u_k 1 rfl
  have f_l2 := blkC l_k 2 rfl
  have g_l2 := blkC u_k 2 rfl
  clear u_k
  have u_k := (hbx.block _ (Array.getElem?_eq_some_iff.1 b_k).1).trans b_k
  have f_b0 := blkC b_k 0 rfl
  have g_b0 := blkC u_k 0 rfl
  have f_b1 := blkC b_k 1 rfl
  have g_b1 := blkC u_k 1 rfl
  have f_b2 := blkC b_k 2 rfl
  have g_b2 := blkC u_k 2 rfl
  clear u_k
  go_wp2_with fail
  clear f_t0 g_t0 f_t1 g_t1 f_t2 g_t2 f_l0 g_l0 f_l1 g_l1 f_l2 g_l2 f_b0 g_b0 f_b1 g_b1 f_b2 g_b2
  generalize (y34.alloc (.cells #[.bool false, .slice none 0 0, .int .i64 0] 24)) = x35 at hbx u34_k ⊢
  have one_k := (hbx.block _ (Array.getElem?_eq_some_iff.1 one_k).1).trans one_k
  have t_k := (hbx.block _ (Array.getElem?_eq_some_iff.1 t_k).1).trans t_k
  have t_D := t_D.keeps hbx
  have l_k := (hbx.block _ (Array.getElem?_eq_some_iff.1 l_k).1).trans l_k
  have l_D := l_D.keeps hbx
  have z_k := (hbx.block _ (Array.getElem?_eq_some_iff.1 z_k).1).trans z_k
  have z_D := z_D.keeps hbx
  have a_k := (hbx.block _ (Array.getElem?_eq_some_iff.1 a_k).1).trans a_k
  have a_D := a_D.keeps hbx
  have b_k := (hbx.block _ (Array.getElem?_eq_some_iff.1 b_k).1).trans b_k
  have b_D := b_D.keeps hbx
  have c_k := (hbx.block _ (Array.getElem?_eq_some_iff.1 c_k).1).trans c_k
  have c_D := c_D.keeps hbx
  have s_k := (hbx.block _ (Array.getElem?_eq_some_iff.1 s_k).1).trans s_k
  have s_D := s_D.keeps hbx
  have hb35 := bel_trans hb34 hbx
  clear hbx
  refine (CFAR.out _ hb35 t_D l_D b_D).mono ?_
  rintro _ y36 ⟨rfl, hw⟩
  have one_k := (hw.block _ (Array.getElem?_eq_some_iff.1 one_k).1).trans one_k
  have t_k := (hw.block _ (Array.getElem?_eq_some_iff.1 t_k).1).trans t_k
  have t_D := t_D.keeps hw
  have l_k := (hw.block _ (Array.getElem?_eq_some_iff.1 l_k).1).trans l_k
  have l_D := l_D.keeps hw
  have z_k := (hw.block _ (Array.getElem?_eq_some_iff.1 z_k).1).trans z_k
  have z_D := z_D.keeps hw
  have a_k := (hw.block _ (Array.getElem?_eq_some_iff.1 a_k).1).trans a_k
  have a_D := a_D.keeps hw
  have b_k := (hw.block _ (Array.getElem?_eq_some_iff.1 b_k).1).trans b_k
  have b_D := b_D.keeps hw
  have c_k := (hw.block _ (Array.getElem?_eq_some_iff.1 c_k).1).trans c_k
  have c_D := c_D.keeps hw
  have s_k := (hw.block _ (Array.getElem?_eq_some_iff.1 s_k).1).trans s_k
  have s_D := s_D.keeps hw
  have hb36 := bel_trans hb35 hw
  clear hw
  go_wp2_with fail
  refine (CA.out _ hb36).mono ?_
  rintro _ y37 ⟨rfl, hw⟩
  have one_k := (hw.block _ (Array.getElem?_eq_some_iff.1 one_k).1).trans one_k
  have t_k := (hw.block _ (Array.getElem?_eq_some_iff.1 t_k).1).trans t_k
  have t_D := t_D.keeps hw
  have l_k := (hw.block _ (Array.getElem?_eq_some_iff.1 l_k).1).trans l_k
  have l_D := l_D.keeps hw
  have z_k := (hw.block _ (Array.getElem?_eq_some_iff.1 z_k).1).trans z_k
  have z_D := z_D.keeps hw
  have a_k := (hw.block _ (Array.getElem?_eq_some_iff.1 a_k).1).trans a_k
  have a_D := a_D.keeps hw
  have b_k := (hw.block _ (Array.getElem?_eq_some_iff.1 b_k).1).trans b_k
  have b_D := b_D.keeps hw
  have c_k := (hw.block _ (Array.getElem?_eq_some_iff.1 c_k).1).trans c_k
  have c_D := c_D.keeps hw
  have s_k := (hw.block _ (Array.getElem?_eq_some_iff.1 s_k).1).trans s_k
  have s_D := s_D.keeps hw
  have hb37 := bel_trans hb36 hw
  clear hw
  have f_z0 := blkC z_k 0 rfl
  have f_z1 := blkC z_k 1 rfl
  have f_z2 := blkC z_k 2 rfl
  go_wp2_with fail
  clear f_z0 f_z1 f_z2
  refine (sameD_yes z_D (DNum.zero _)).mono ?_
  rintro _ y38 ⟨rfl, hw⟩
  have one_k := (hw.block _ (Array.getElem?_eq_some_iff.1 one_k).1).trans one_k
  have t_k := (hw.block _ (Array.getElem?_eq_some_iff.1 t_k).1).trans t_k
  have t_D := t_D.keeps hw
  have l_k := (hw.block _ (Array.getElem?_eq_some_iff.1 l_k).1).trans l_k
  have l_D := l_D.keeps hw
  have z_k := (hw.block _ (Array.getElem?_eq_some_iff.1 z_k).1).trans z_k
  have z_D := z_D.keeps hw
  have a_k := (hw.block _ (Array.getElem?_eq_some_iff.1 a_k).1).trans a_k
  have a_D := a_D.keeps hw
  have b_k := (hw.block _ (Array.getElem?_eq_some_iff.1 b_k).1).trans b_k
  have b_D := b_D.keeps hw
  have c_k := (hw.block _ (Array.getElem?_eq_some_iff.1 c_k).1).trans c_k
  have c_D := c_D.keeps hw
  have s_k := (hw.block _ (Array.getElem?_eq_some_iff.1 s_k).1).trans s_k
  have s_D := s_D.keeps hw
  have hb38 := bel_trans hb37 hw
  clear hw
  have f_s0 := blkC s_k 0 rfl
  have f_s1 := blkC s_k 1 rfl
  have f_s2 := blkC s_k 2 rfl
  have f_b0 := blkC b_k 0 rfl
  have f_b1 := blkC b_k 1 rfl
  have f_b2 := blkC b_k 2 rfl
  go_wp2_with fail
  clear f_s0 f_s1 f_s2 f_b0 f_b1 f_b2
  refine (sameD_yes s_D b_D).mono ?_
  rintro _ y39 ⟨rfl, hw⟩
  have one_k := (hw.block _ (Array.getElem?_eq_some_iff.1 one_k).1).trans one_k
  have t_k := (hw.block _ (Array.getElem?_eq_some_iff.1 t_k).1).trans t_k
  have t_D := t_D.keeps hw
  have l_k := (hw.block _ (Array.getElem?_eq_some_iff.1 l_k).1).trans l_k
  have l_D := l_D.keeps hw
  have z_k := (hw.block _ (Array.getElem?_eq_some_iff.1 z_k).1).trans z_k
  have z_D := z_D.keeps hw
  have a_k := (hw.block _ (Array.getElem?_eq_some_iff.1 a_k).1).trans a_k
  have a_D := a_D.keeps hw
  have b_k := (hw.block _ (Array.getElem?_eq_some_iff.1 b_k).1).trans b_k
  have b_D := b_D.keeps hw
  have c_k := (hw.block _ (Array.getElem?_eq_some_iff.1 c_k).1).trans c_k
  have c_D := c_D.keeps hw
  have s_k := (hw.block _ (Array.getElem?_eq_some_iff.1 s_k).1).trans s_k
  have s_D := s_D.keeps hw
  have hb39 := bel_trans hb38 hw
  clear hw
  go_wp2
  go_ret
  exact ⟨rfl, hb39⟩
theorem own : ownKnob Tryd.prog.godebug = none := by kernel_rfl
theorem laidOut : laidOutB Tryd.prog = true := by kernel_rfl
theorem door_met (os : Os) (args : Array Value) : laidMetH Tryd.prog Rows.dyadicLimitsRow.laid ((World.doorLaid Tryd.prog 400 os).forCall (fun _ _ => 0) ⟨#[], args, []⟩).memory :=
  laidMetH_of_parts3 (fuel := 8) (laidMet_of_run' 8 (by kernel_rfl) (by kernel_rfl)) (by kernel_rfl) (by kernel_rfl)
set_option maxRecDepth 100000 in
theorem lifted (os : Os) (started : os.Started) (H : Type) (enc : TypeId × Value → H) :
    ReturnsInHanded {} Tryd.checked os 3 .any (fun w args => (Rows.dyadicLimitsSpec.pre enc Tryd.prog Tryd.f3 [] false w args ∧ laidMetH Tryd.prog Rows.dyadicLimitsRow.laid w) ∧ sizedMet enc Tryd.prog Tryd.f3 (OpenSpec.ofChange Rows.dyadicLimitsSpec) false w args)
      (Rows.dyadicLimitsSpec.post enc Tryd.prog Tryd.f3 false true false false) := by
  refine returnsInHanded_of_change_and (C := Tryd.checked) (X := fun w _ => laidMetH Tryd.prog Rows.dyadicLimitsRow.laid w) (fun _ _ _ hh h => h.of_heap hh) own started (by kernel_rfl) Tryd.func3
    (ChangeSpec.witness_shaped (enc := enc) (C := Tryd.checked) (os := os) (X := fun w _ => laidMetH Tryd.prog Rows.dyadicLimitsRow.laid w) false (World.doorLaid Tryd.prog 400 os) #[] 8 rfl (World.shaped_of_RefB (by kernel_rfl) (by kernel_rfl)) (by kernel_rfl) (by kernel_rfl) (by kernel_rfl) (door_met os _)) ?_
  intro W base args ds gs before hval0 hW _ _ hL _
  have hval : ∀ (j : Nat) t v, Tryd.f3.params[j]? = some t → args[j]? = some v → Value.okWide Tryd.prog W .any base t v := hval0
  have hW' := hW
  obtain ⟨p, q, hA0, hV, rfl, hfz, hnd⟩ := hW
  have hA : DataW.TrodAll enc Tryd.prog W 0 (fun _ => true) true Tryd.f3.params.toList args.toList ds p := hA0
  rw [Tryd.params3] at hA hval
  obtain ⟨hargs, rfl, rfl⟩ := trodAll_nil hA
  obtain rfl : args = #[] := by cases args; simp_all
  obtain ⟨rfl, rfl⟩ := trodVars_none hV
  clear hA0 hval0
  refine (walk  W  (hold_of hL)).mono fun e W' ⟨he, bel⟩ => ?_
  subst he
  exact ⟨_, rfl, _, _, _, [], _, [], hW', trodAll_mk1 (shut_bool Tryd.underlying4 _), trodAll_mk0, rfl, bel.frame _, fun h => by cases h⟩
theorem said : Rows.DyadicLimitsSaid :=
  OpenClaim.holds_of_wide 3 Tryd.f3 rfl rfl rfl rfl rfl rfl rfl ⟨rfl, rfl, rfl, rfl, rfl⟩ rfl rfl rfl rfl rfl (by kernel_rfl) Tryd.func3 (by kernel_rfl)
    (of_decide_eq_true (by kernel_rfl)) (by unfold Func.isWrapper; first | (rw [if_pos (by decide +kernel)]; kernel_rfl) | (rw [if_neg (by decide +kernel)]; exact ⟨rfl, rfl⟩))
    (fun os started H enc _ => lifted os started H enc)
theorem plain (f : FuncId) (fn : Func) (hf : Tryd.pinned.checked.prog.funcNamed Tryd.f3.name = some f) (hfn : Tryd.pinned.checked.prog.funcs[f]? = some fn) :
    true = Tryd.pinned.checked.prog.looks [] ∧ ∀ (j : Nat) t, fn.params[j]? = some t → Tryd.pinned.checked.prog.wantsStandIn t = false := by
  obtain rfl : f = 3 := Option.some.inj ((show Tryd.prog.funcNamed Tryd.f3.name = some 3 by kernel_rfl).symm.trans hf) |>.symm
  obtain rfl : fn = Tryd.f3 := (Option.some.inj (Tryd.func3.symm.trans hfn)).symm
  refine ⟨by kernel_rfl, fun j t ht => ?_⟩
  rw [Tryd.params3] at ht
  simp at ht
/-- THE CARD. -/
theorem card : Rows.DyadicLimitsCardSaid :=
  Claim7.holds_tied_plain_at .later [] _ _ _ _ said (fun _ h => by cases h) (by kernel_rfl) (fun _ h => by cases h) dyadicLimits_row_tie rfl ⟨rfl, rfl⟩ (by kernel_rfl) rfl plain (by kernel_rfl)
end Go.Proofs.YtkieaijmjpckdabDoor.dyadicLimits
namespace Go.Proofs.YtkieaijmjpckdabDoor
/-- DyadicLimits: the statement as it is given. -/
theorem dyadicLimits_holds : Rows.DyadicLimitsCardSaid := dyadicLimits.card
end Go.Proofs.YtkieaijmjpckdabDoor
