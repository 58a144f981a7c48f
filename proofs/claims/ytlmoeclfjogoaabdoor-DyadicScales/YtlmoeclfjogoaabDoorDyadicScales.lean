/-
  DyadicScales: for every number and every int the law returns true: to scale is to multiply with a power of 2; there and back. As a card: the library's tables and the layout start as the program's text lays them.
-/
import Derived.Test.YtlmoeclfjogoaabDoorPart9
import Derived.Test.YtlmoeclfjogoaabDoorCards
import Derived.Test.YtlmoeclfjogoaabDoorTie
namespace Go.Proofs.YtlmoeclfjogoaabDoor.dyadicScales
open Go Go.ChangeShapes Go.WideShapes Go.ChangeAt Go.RowKit Go.Proofs.YtlmoeclfjogoaabDoor Go.Proofs.YtlmoeclfjogoaabDoor.M
set_option linter.unusedSimpArgs false
set_option linter.unusedVariables false

set_option maxRecDepth 100000 in
set_option maxHeartbeats 8000000 in
theorem walk (l : NumR) (k : Int) (w : World) (hl : Row w l.ao l.n l.cap l.d) (el : rng l.e) (hk : rng k) (H : Hold w) :
    Calls Tryd.prog 4 #[l.v, .int .i64 k] w fun e w' => e = .returned (.bool true) ∧ Below w.heap.size w w' := by
  have l_N := fun W hb => num_B l W (hl.keeps hb) el
  unfold NumR.v at *
  obtain ⟨l_g, l_o, l_n, l_c, l_d, l_e⟩ := l
  simp only at *
  clear hl el
  unfold rng at hk
  have hmod : -5000 < k.tmod 5000 ∧ k.tmod 5000 < 5000 := by
    have h1 := Int.tmod_lt_of_pos k (show (0 : Int) < 5000 by decide)
    have h2 := Int.tmod_lt_of_pos (-k) (show (0 : Int) < 5000 by decide)
    rw [Int.neg_tmod] at h2
    omega
  have HD : Hid (-5000 < k.tmod 5000 ∧ k.tmod 5000 < 5000) := hmod
  clear hmod
  go_enter Tryd.func4, Tryd.ntmps4
  have l_k : (w.alloc (.cells #[.bool l_g, .slice l_o l_n l_c, .int .i64 l_e] 24)).heap[w.heap.size]? = some (.cells #[.bool l_g, .slice l_o l_n l_c, .int .i64 l_e] 24 (0, 0)) := heap_a1 _ _
  have hb0 : Below w.heap.size w (w.alloc (.cells #[.bool l_g, .slice l_o l_n l_c, .int .i64 l_e] 24)) := bel_alloc _ _
  go_wp2_with fail
  generalize (w.alloc (.cells #[.bool l_g, .slice l_o l_n l_c, .int .i64 l_e] 24)) = x0 at l_k hb0 ⊢
  refine (l_N _ hb0).mono ?_
  rintro _ y1 ⟨v, a_V, rfl, h1 , a_B⟩
  obtain ⟨a_g, a_o, a_n, a_c, a_e, rfl⟩ := dans_shape h1
  have hw1 := h1.below
  have a_D := h1.num
  have l_k := (hw1.block _ (Array.getElem?_eq_some_iff.1 l_k).1).trans l_k
  have hb1 := bel_trans hb0 hw1
  have l_k := heap_past (.cells #[.bool a_g, .slice a_o a_n a_c, .int .i64 a_e] 24) l_k
  have a_k := heap_a1 y1 (.cells #[.bool a_g, .slice a_o a_n a_c, .int .i64 a_e] 24)
  have a_D := a_D.keeps (bel_alloc y1 (.cells #[.bool a_g, .slice a_o a_n a_c, .int .i64 a_e] 24))
  have hb2' := bel_trans hb1 (bel_alloc y1 (.cells #[.bool a_g, .slice a_o a_n a_c, .int .i64 a_e] 24))
  go_wp2_with fail
  generalize y1.alloc (.cells #[.bool a_g, .slice a_o a_n a_c, .int .i64 a_e] 24) = x2 at l_k a_k a_D hb2' ⊢
  have hm := HD.out
  generalize k.tmod 5000 = kk at hm HD ⊢
  obtain ⟨hm0, hm1⟩ := hm
  have a_B1 := a_B.up (show 4000 ≤ 5001 by omega) (by omega)
  refine (scale_B a_D a_B1 (by omega) (by omega) kk hm0 hm1 (H.tab.keeps hb2')).mono ?_
  rintro _ y2 ⟨v, s_V, rfl, h2, s_E, s_B⟩
  obtain ⟨s_g, s_o, s_n, s_c, s_e, rfl⟩ := dans_shape h2
  have hw2 := h2.below
  have s_D := h2.num
  have l_k := (hw2.block _ (Array.getElem?_eq_some_iff.1 l_k).1).trans l_k
  have a_k := (hw2.block _ (Array.getElem?_eq_some_iff.1 a_k).1).trans a_k
  have a_D := a_D.keeps hw2
  have hb2 := bel_trans hb2' hw2
  have hneg : wrap64 (-kk) = -kk := IntWalk.wrap64_in _ ⟨by omega, by omega⟩
  have l_k := heap_past (.cells #[.bool s_g, .slice s_o s_n s_c, .int .i64 s_e] 24) l_k
  have a_k := heap_past (.cells #[.bool s_g, .slice s_o s_n s_c, .int .i64 s_e] 24) a_k
  have s_k := heap_a1 y2 (.cells #[.bool s_g, .slice s_o s_n s_c, .int .i64 s_e] 24)
  have a_D := a_D.keeps (bel_alloc y2 (.cells #[.bool s_g, .slice s_o s_n s_c, .int .i64 s_e] 24))
  have s_D := s_D.keeps (bel_alloc y2 (.cells #[.bool s_g, .slice s_o s_n s_c, .int .i64 s_e] 24))
  have hb3' := bel_trans hb2 (bel_alloc y2 (.cells #[.bool s_g, .slice s_o s_n s_c, .int .i64 s_e] 24))
  go_wp2_with fail
  generalize y2.alloc (.cells #[.bool s_g, .slice s_o s_n s_c, .int .i64 s_e] 24) = x3 at l_k a_k s_k a_D s_D hb3' ⊢
  refine (scale_B (K := 2 * 5001) s_D s_B (by omega) (by omega) (-kk) (by omega) (by omega) (H.tab.keeps hb3')).mono ?_
  rintro _ y3 ⟨v, t_V, rfl, h3, t_E, t_B⟩
  obtain ⟨t_g, t_o, t_n, t_c, t_e, rfl⟩ := dans_shape h3
  have hw3 := h3.below
  have t_D := h3.num
  have l_k := (hw3.block _ (Array.getElem?_eq_some_iff.1 l_k).1).trans l_k
  have a_k := (hw3.block _ (Array.getElem?_eq_some_iff.1 a_k).1).trans a_k
  have a_D := a_D.keeps hw3
  have s_k := (hw3.block _ (Array.getElem?_eq_some_iff.1 s_k).1).trans s_k
  have s_D := s_D.keeps hw3
  have hb3 := bel_trans hb3' hw3
  have hsz := size1 y3 (.cells #[.bool t_g, .slice t_o t_n t_c, .int .i64 t_e] 24)
  have l_k := heap_past (.cells #[.bool t_g, .slice t_o t_n t_c, .int .i64 t_e] 24) l_k
  have a_k := heap_past (.cells #[.bool t_g, .slice t_o t_n t_c, .int .i64 t_e] 24) a_k
  have s_k := heap_past (.cells #[.bool t_g, .slice t_o t_n t_c, .int .i64 t_e] 24) s_k
  have t_k := heap_a1 y3 (.cells #[.bool t_g, .slice t_o t_n t_c, .int .i64 t_e] 24)
  have a_D := a_D.keeps (bel_alloc y3 (.cells #[.bool t_g, .slice t_o t_n t_c, .int .i64 t_e] 24))
  have s_D := s_D.keeps (bel_alloc y3 (.cells #[.bool t_g, .slice t_o t_n t_c, .int .i64 t_e] 24))
  have t_D := t_D.keeps (bel_alloc y3 (.cells #[.bool t_g, .slice t_o t_n t_c, .int .i64 t_e] 24))
  have hb4' := bel_trans hb3 (bel_alloc y3 (.cells #[.bool t_g, .slice t_o t_n t_c, .int .i64 t_e] 24))
  go_wp2_with fail
  generalize y3.alloc (.cells #[.bool t_g, .slice t_o t_n t_c, .int .i64 t_e] 24) = x4 at l_k a_k s_k t_k a_D s_D t_D hb4' hsz ⊢
  have lN := num1 x4 1 (by decide) (by decide) hsz.symm
  have l_k := heap_past (.cells #[.int .i64 1] 3) l_k
  have a_k := heap_past (.cells #[.int .i64 1] 3) a_k
  have a_D := a_D.keeps (bel_alloc x4 (.cells #[.int .i64 1] 3))
  have s_k := heap_past (.cells #[.int .i64 1] 3) s_k
  have s_D := s_D.keeps (bel_alloc x4 (.cells #[.int .i64 1] 3))
  have t_k := heap_past (.cells #[.int .i64 1] 3) t_k
  have t_D := t_D.keeps (bel_alloc x4 (.cells #[.int .i64 1] 3))
  have hbL := bel_trans hb4' (bel_alloc x4 (.cells #[.int .i64 1] 3))
  generalize x4.alloc (.cells #[.int .i64 1] 3) = xL at lN l_k a_k a_D s_k s_D t_k t_D hbL ⊢
  refine (make_B lN kk hm0 hm1 (H.tab.keeps hbL)).mono ?_
  rintro _ y4 ⟨v, rfl, h4⟩
  obtain ⟨p_g, p_o, p_n, p_c, p_e, rfl⟩ := dans_shape h4
  have hw4 := h4.below
  have p_D := h4.num
  have l_k := (hw4.block _ (Array.getElem?_eq_some_iff.1 l_k).1).trans l_k
  have a_k := (hw4.block _ (Array.getElem?_eq_some_iff.1 a_k).1).trans a_k
  have a_D := a_D.keeps hw4
  have s_k := (hw4.block _ (Array.getElem?_eq_some_iff.1 s_k).1).trans s_k
  have s_D := s_D.keeps hw4
  have t_k := (hw4.block _ (Array.getElem?_eq_some_iff.1 t_k).1).trans t_k
  have t_D := t_D.keeps hw4
  have hb4 := bel_trans hbL hw4
  have p_B := bd_pw hm0 hm1
  have l_k := heap_past (.cells #[.bool p_g, .slice p_o p_n p_c, .int .i64 p_e] 24) l_k
  have a_k := heap_past (.cells #[.bool p_g, .slice p_o p_n p_c, .int .i64 p_e] 24) a_k
  have s_k := heap_past (.cells #[.bool p_g, .slice p_o p_n p_c, .int .i64 p_e] 24) s_k
  have t_k := heap_past (.cells #[.bool p_g, .slice p_o p_n p_c, .int .i64 p_e] 24) t_k
  have p_k := heap_a1 y4 (.cells #[.bool p_g, .slice p_o p_n p_c, .int .i64 p_e] 24)
  have a_D := a_D.keeps (bel_alloc y4 (.cells #[.bool p_g, .slice p_o p_n p_c, .int .i64 p_e] 24))
  have s_D := s_D.keeps (bel_alloc y4 (.cells #[.bool p_g, .slice p_o p_n p_c, .int .i64 p_e] 24))
  have t_D := t_D.keeps (bel_alloc y4 (.cells #[.bool p_g, .slice p_o p_n p_c, .int .i64 p_e] 24))
  have p_D := p_D.keeps (bel_alloc y4 (.cells #[.bool p_g, .slice p_o p_n p_c, .int .i64 p_e] 24))
  have hb5' := bel_trans hb4 (bel_alloc y4 (.cells #[.bool p_g, .slice p_o p_n p_c, .int .i64 p_e] 24))
  have f_a0 := blkC a_k 0 rfl
  have f_a1 := blkC a_k 1 rfl
  have f_a2 := blkC a_k 2 rfl
  go_wp2_with fail
  clear f_a0 f_a1 f_a2
  generalize y4.alloc (.cells #[.bool p_g, .slice p_o p_n p_c, .int .i64 p_e] 24) = x5 at l_k a_k s_k t_k p_k a_D s_D t_D p_D hb5' ⊢
  refine (mul_B a_D p_D a_B1 p_B (by omega) (H.tab.keeps hb5')).mono ?_
  rintro _ y5 ⟨v, q_V, rfl, h5, q_E, q_B⟩
  obtain ⟨q_g, q_o, q_n, q_c, q_e, rfl⟩ := dans_shape h5
  have hw5 := h5.below
  have q_D := h5.num
  have l_k := (hw5.block _ (Array.getElem?_eq_some_iff.1 l_k).1).trans l_k
  have a_k := (hw5.block _ (Array.getElem?_eq_some_iff.1 a_k).1).trans a_k
  have a_D := a_D.keeps hw5
  have s_k := (hw5.block _ (Array.getElem?_eq_some_iff.1 s_k).1).trans s_k
  have s_D := s_D.keeps hw5
  have t_k := (hw5.block _ (Array.getElem?_eq_some_iff.1 t_k).1).trans t_k
  have t_D := t_D.keeps hw5
  have p_k := (hw5.block _ (Array.getElem?_eq_some_iff.1 p_k).1).trans p_k
  have p_D := p_D.keeps hw5
  have hb5 := bel_trans hb5' hw5
  have e1 : t_V = a_V := scale_back hm0 hm1 s_E t_E
  have e2 : s_V = q_V := scale_inj (by rw [s_E, q_E])
  have he1 : Hid (t_V = a_V) := e1
  have he2 : Hid (s_V = q_V) := e2
  clear e1 e2
  have l_k := heap_past (.cells #[.bool q_g, .slice q_o q_n q_c, .int .i64 q_e] 24) l_k
  have a_k := heap_past (.cells #[.bool q_g, .slice q_o q_n q_c, .int .i64 q_e] 24) a_k
  have s_k := heap_past (.cells #[.bool q_g, .slice q_o q_n q_c, .int .i64 q_e] 24) s_k
  have t_k := heap_past (.cells #[.bool q_g, .slice q_o q_n q_c, .int .i64 q_e] 24) t_k
  have p_k := heap_past (.cells #[.bool q_g, .slice q_o q_n q_c, .int .i64 q_e] 24) p_k
  have q_k := heap_a1 y5 (.cells #[.bool q_g, .slice q_o q_n q_c, .int .i64 q_e] 24)
  have a_D := a_D.keeps (bel_alloc y5 (.cells #[.bool q_g, .slice q_o q_n q_c, .int .i64 q_e] 24))
  have s_D := s_D.keeps (bel_alloc y5 (.cells #[.bool q_g, .slice q_o q_n q_c, .int .i64 q_e] 24))
  have t_D := t_D.keeps (bel_alloc y5 (.cells #[.bool q_g, .slice q_o q_n q_c, .int .i64 q_e] 24))
  have p_D := p_D.keeps (bel_alloc y5 (.cells #[.bool q_g, .slice q_o q_n q_c, .int .i64 q_e] 24))
  have q_D := q_D.keeps (bel_alloc y5 (.cells #[.bool q_g, .slice q_o q_n q_c, .int .i64 q_e] 24))
  have hb6' := bel_trans hb5 (bel_alloc y5 (.cells #[.bool q_g, .slice q_o q_n q_c, .int .i64 q_e] 24))
  go_wp2_with fail
  generalize y5.alloc (.cells #[.bool q_g, .slice q_o q_n q_c, .int .i64 q_e] 24) = x6 at l_k a_k s_k t_k p_k q_k a_D s_D t_D p_D q_D hb6' ⊢
  refine (dalive_any _ (H.lay.keeps hb6') (H.tab.keeps hb6')).mono ?_
  rintro _ y6 ⟨rfl, hw6⟩
  have l_k := (hw6.block _ (Array.getElem?_eq_some_iff.1 l_k).1).trans l_k
  have a_k := (hw6.block _ (Array.getElem?_eq_some_iff.1 a_k).1).trans a_k
  have a_D := a_D.keeps hw6
  have s_k := (hw6.block _ (Array.getElem?_eq_some_iff.1 s_k).1).trans s_k
  have s_D := s_D.keeps hw6
  have t_k := (hw6.block _ (Array.getElem?_eq_some_iff.1 t_k).1).trans t_k
  have t_D := t_D.keeps hw6
  have p_k := (hw6.block _ (Array.getElem?_eq_some_iff.1 p_k).1).trans p_k
  have p_D := p_D.keeps hw6
  have q_k := (hw6.block _ (Array.getElem?_eq_some_iff.1 q_k).1).trans q_k
  have q_D := q_D.keeps hw6
  have hb6 := bel_trans hb6' hw6
  have f_t0 := blkC t_k 0 rfl
  have f_t1 := blkC t_k 1 rfl
  have f_t2 := blkC t_k 2 rfl
  have f_a0 := blkC a_k 0 rfl
  have f_a1 := blkC a_k 1 rfl
  have f_a2 := blkC a_k 2 rfl
  go_wp2_with fail
  clear f_t0 f_t1 f_t2 f_a0 f_a1 f_a2
  refine (sameD_yes (t_D.cast he1.out) a_D).mono ?_
  rintro _ y7 ⟨rfl, hw7⟩
  have l_k := (hw7.block _ (Array.getElem?_eq_some_iff.1 l_k).1).trans l_k
  have a_k := (hw7.block _ (Array.getElem?_eq_some_iff.1 a_k).1).trans a_k
  have a_D := a_D.keeps hw7
  have s_k := (hw7.block _ (Array.getElem?_eq_some_iff.1 s_k).1).trans s_k
  have s_D := s_D.keeps hw7
  have t_k := (hw7.block _ (Array.getElem?_eq_some_iff.1 t_k).1).trans t_k
  have t_D := t_D.keeps hw7
  have p_k := (hw7.block _ (Array.getElem?_eq_some_iff.1 p_k).1).trans p_k
  have p_D := p_D.keeps hw7
  have q_k := (hw7.block _ (Array.getElem?_eq_some_iff.1 q_k).1).trans q_k
  have q_D := q_D.keeps hw7
  have hb7 := bel_trans hb6 hw7
  have f_s0 := blkC s_k 0 rfl
  have f_s1 := blkC s_k 1 rfl
  have f_s2 := blkC s_k 2 rfl
  have f_q0 := blkC q_k 0 rfl
  have f_q1 := blkC q_k 1 rfl
  have f_q2 := blkC q_k 2 rfl
  go_wp2_with fail
  clear f_s0 f_s1 f_s2 f_q0 f_q1 f_q2
  refine (sameD_yes (s_D.cast he2.out) q_D).mono ?_
  rintro _ y8 ⟨rfl, hw8⟩
  have l_k := (hw8.block _ (Array.getElem?_eq_some_iff.1 l_k).1).trans l_k
  have a_k := (hw8.block _ (Array.getElem?_eq_some_iff.1 a_k).1).trans a_k
  have a_D := a_D.keeps hw8
  have s_k := (hw8.block _ (Array.getElem?_eq_some_iff.1 s_k).1).trans s_k
  have s_D := s_D.keeps hw8
  have t_k := (hw8.block _ (Array.getElem?_eq_some_iff.1 t_k).1).trans t_k
  have t_D := t_D.keeps hw8
  have p_k := (hw8.block _ (Array.getElem?_eq_some_iff.1 p_k).1).trans p_k
  have p_D := p_D.keeps hw8
  have q_k := (hw8.block _ (Array.getElem?_eq_some_iff.1 q_k).1).trans q_k
  have q_D := q_D.keeps hw8
  have hb8 := bel_trans hb7 hw8
  go_wp2
  go_ret
  exact ⟨rfl, hb8⟩
theorem own : ownKnob Tryd.prog.godebug = none := by kernel_rfl
theorem laidOut : laidOutB Tryd.prog = true := by kernel_rfl
theorem door_met (os : Os) (args : Array Value) : laidMetH Tryd.prog Rows.dyadicScalesRow.laid ((World.doorLaid Tryd.prog 400 os).forCall (fun _ _ => 0) ⟨#[], args, []⟩).memory :=
  laidMetH_of_parts3 (fuel := 8) (laidMet_of_run' 8 (by kernel_rfl) (by kernel_rfl)) (by kernel_rfl) (by kernel_rfl)
set_option maxRecDepth 100000 in
theorem lifted (os : Os) (started : os.Started) (H : Type) (enc : TypeId × Value → H) :
    ReturnsInHanded {} Tryd.checked os 4 .any (fun w args => (Rows.dyadicScalesSpec.pre enc Tryd.prog Tryd.f4 [] false w args ∧ laidMetH Tryd.prog Rows.dyadicScalesRow.laid w) ∧ sizedMet enc Tryd.prog Tryd.f4 (OpenSpec.ofChange Rows.dyadicScalesSpec) false w args)
      (Rows.dyadicScalesSpec.post enc Tryd.prog Tryd.f4 false true false false) := by
  refine returnsInHanded_of_change_and (C := Tryd.checked) (X := fun w _ => laidMetH Tryd.prog Rows.dyadicScalesRow.laid w) (fun _ _ _ hh h => h.of_heap hh) own started (by kernel_rfl) Tryd.func4
    (ChangeSpec.witness_shaped (enc := enc) (C := Tryd.checked) (os := os) (X := fun w _ => laidMetH Tryd.prog Rows.dyadicScalesRow.laid w) false (World.doorLaid Tryd.prog 400 os) #[.agg #[.bool false, .slice none 0 0, .int .i64 0], .int .i64 0] 8 rfl (World.shaped_of_RefB (by kernel_rfl) (by kernel_rfl)) (by kernel_rfl) (by kernel_rfl) (by kernel_rfl) (door_met os _)) ?_
  intro W base args ds gs before hval0 hW _ _ hL _
  have hval : ∀ (j : Nat) t v, Tryd.f4.params[j]? = some t → args[j]? = some v → Value.okWide Tryd.prog W .any base t v := hval0
  have hW' := hW
  obtain ⟨p, q, hA0, hV, rfl, hfz, hnd⟩ := hW
  have hA : DataW.TrodAll enc Tryd.prog W 0 (fun _ => true) true Tryd.f4.params.toList args.toList ds p := hA0
  rw [Tryd.params4] at hA hval
  obtain ⟨v0, vs0, d0, ds0, p0, q0, hargs, rfl, rfl, h0, r0⟩ := trodAll_cons hA
  obtain ⟨v1, vs1, d1, ds1, p1, q1, rfl, rfl, rfl, h1, r1⟩ := trodAll_cons r0
  obtain ⟨rfl, rfl, rfl⟩ := trodAll_nil r1
  obtain rfl : args = #[v0, v1] := by cases args; simp_all
  obtain ⟨rfl, rfl⟩ := trodVars_none hV
  have k0 := h0
  have lt0 : ∀ x ∈ p0, x.block < W.heap.size := by obtain ⟨m, hm⟩ := k0; exact DataW.trod_lt m _ _ _ hm
  obtain ⟨x0, rfl, w0, g0⟩ := num_of (hval 0 24 v0 rfl rfl) h0
  obtain ⟨a1, rfl, rfl, rfl, w1⟩ := open_int Tryd.underlying3 (hval 1 3 v1 rfl rfl) h1
  clear hA0 hval0
  refine (walk x0 a1 W w0 g0 (rng_of w1) (hold_of hL)).mono fun e W' ⟨he, bel⟩ => ?_
  subst he
  exact ⟨_, rfl, _, _, _, [], _, [], hW', trodAll_mk1 (shut_bool Tryd.underlying4 _), (trodAll_cons_mk (Below.trod laidOut (by kernel_rfl) (of_decide_eq_true (by kernel_rfl)) k0 bel lt0) (trodAll_cons_mk (shut_int Tryd.underlying3 w1) trodAll_mk0)), rfl, bel.frame _, fun h => by cases h⟩
theorem said : Rows.DyadicScalesSaid :=
  OpenClaim.holds_of_wide 4 Tryd.f4 rfl rfl rfl rfl rfl rfl rfl ⟨rfl, rfl, rfl, rfl, rfl⟩ rfl rfl rfl rfl rfl (by kernel_rfl) Tryd.func4 (by kernel_rfl)
    (of_decide_eq_true (by kernel_rfl)) (by unfold Func.isWrapper; first | (rw [if_pos (by decide +kernel)]; kernel_rfl) | (rw [if_neg (by decide +kernel)]; exact ⟨rfl, rfl⟩))
    (fun os started H enc _ => lifted os started H enc)
theorem plain (f : FuncId) (fn : Func) (hf : Tryd.pinned.checked.prog.funcNamed Tryd.f4.name = some f) (hfn : Tryd.pinned.checked.prog.funcs[f]? = some fn) :
    true = Tryd.pinned.checked.prog.looks [] ∧ ∀ (j : Nat) t, fn.params[j]? = some t → Tryd.pinned.checked.prog.wantsStandIn t = false := by
  obtain rfl : f = 4 := Option.some.inj ((show Tryd.prog.funcNamed Tryd.f4.name = some 4 by kernel_rfl).symm.trans hf) |>.symm
  obtain rfl : fn = Tryd.f4 := (Option.some.inj (Tryd.func4.symm.trans hfn)).symm
  refine ⟨by kernel_rfl, fun j t ht => ?_⟩
  rw [Tryd.params4] at ht
  have ht2 : t = 24 ∨ t = 3 := by simpa using Array.mem_of_getElem? ht
  rcases ht2 with rfl | rfl
  · exact (show Tryd.prog.wantsStandIn 24 = false by kernel_rfl)
  · exact (show Tryd.prog.wantsStandIn 3 = false by kernel_rfl)
/-- THE CARD. -/
theorem card : Rows.DyadicScalesCardSaid :=
  Claim7.holds_tied_plain_at .later [] _ _ _ _ said (fun _ h => by cases h) (by kernel_rfl) (fun _ h => by cases h) dyadicScales_row_tie rfl ⟨rfl, rfl⟩ (by kernel_rfl) rfl plain (by kernel_rfl)
end Go.Proofs.YtlmoeclfjogoaabDoor.dyadicScales
namespace Go.Proofs.YtlmoeclfjogoaabDoor
/-- DyadicScales: the statement as it is given. -/
theorem dyadicScales_holds : Rows.DyadicScalesCardSaid := dyadicScales.card
end Go.Proofs.YtlmoeclfjogoaabDoor
