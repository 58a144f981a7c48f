/-
  SpanTight: for every two patterns the law returns true: of single floats an interval is no wider than to the next float, and where the exact number is a float it is just that. As a card: the library's tables and the layouts start as the program's text lays them.
-/
import Derived.Test.YtmpioejllfedoaaGreatDoorPart14
import Derived.Test.YtmpioejllfedoaaGreatDoorPart16
import Derived.Test.YtmpioejllfedoaaGreatDoorPart17
import Derived.Test.YtmpioejllfedoaaGreatDoorPart13
import Derived.Test.YtmpioejllfedoaaGreatDoorCards
import Derived.Test.YtmpioejllfedoaaGreatDoorTie
namespace Go.Proofs.YtmpioejllfedoaaGreatDoor.spanTight
open Go Go.ChangeShapes Go.WideShapes Go.ChangeAt Go.RowKit Go.Proofs.YtmpioejllfedoaaGreatDoor Go.Proofs.YtmpioejllfedoaaGreatDoor.M
set_option linter.unusedSimpArgs false
set_option linter.unusedVariables false

theorem hold9_of {W : World} (h : laidMetH Tryz.prog [("math/bits.deBruijn32tab", Rows.laid_math_bits_deBruijn32tab), ("math/bits.deBruijn64tab", Rows.laid_math_bits_deBruijn64tab), ("plumb/bits.binary64", Rows.laid_plumb_bits_binary64)] W) : Hold4 W := by
  have k := hold_of h
  exact ⟨k.lay, k.tab, ⟨⟨k.lay.a0, k.lay.a1, k.lay.a2, trivial, trivial, trivial⟩, k.tab⟩⟩
set_option maxRecDepth 100000 in
set_option maxHeartbeats 8000000 in
theorem walk (a b : Int) (w : World) (ra : rng a) (rb : rng b) (H : Hold4 w) :
    Calls Tryz.prog 4 #[.int .i64 a, .int .i64 b] w fun e w' => e = .returned (.bool true) ∧ Below w.heap.size w w' := by
  have CL : Hid (∀ W, Hold4 W → Calls Tryz.prog 6 #[] W fun e w' => e = .returned (.bool true) ∧ Below W.heap.size W w') := fun W h => alive8 W h.env.lays
  rcases pa : pok a with _ | _ <;> rcases pb : pok b with _ | _
  · have Ca : Hid (∀ W, Hold4 W → _) := fun W h => around_no pa W h
    have Cb : Hid (∀ W, Hold4 W → _) := fun W h => around_no pb W h
    have hb := bel_refl w
    go_enter Tryz.func4, Tryz.ntmps4
    go_wp2_with fail
    refine (Ca.out _ H).mono ?_
    rintro _ y1 ⟨rfl, hw⟩
    have H := H.keeps hw
    have hb := bel_trans hb hw
    have s_k := heap_a1 y1 (.cells #[.int .i64 a, .int .i64 a] 23)
    have H := H.keeps (bel_alloc y1 (.cells #[.int .i64 a, .int .i64 a] 23))
    have hb := bel_trans hb (bel_alloc y1 (.cells #[.int .i64 a, .int .i64 a] 23))
    have s_k := heap_past (.cells #[.bool false, .slice none 0 0, .int .i64 0] 26) s_k
    have x_k := heap_b2 y1 (.cells #[.int .i64 a, .int .i64 a] 23) (.cells #[.bool false, .slice none 0 0, .int .i64 0] 26)
    have H := H.keeps (bel_alloc (y1.alloc (.cells #[.int .i64 a, .int .i64 a] 23)) (.cells #[.bool false, .slice none 0 0, .int .i64 0] 26))
    have hb := bel_trans hb (bel_alloc (y1.alloc (.cells #[.int .i64 a, .int .i64 a] 23)) (.cells #[.bool false, .slice none 0 0, .int .i64 0] 26))
    go_wp2_with fail
    generalize ((y1.alloc (.cells #[.int .i64 a, .int .i64 a] 23)).alloc (.cells #[.bool false, .slice none 0 0, .int .i64 0] 26)) = x2 at s_k x_k H hb ⊢
    refine (Cb.out _ H).mono ?_
    rintro _ y3 ⟨rfl, hw⟩
    have s_k := blk_up hw s_k
    have x_k := blk_up hw x_k
    have H := H.keeps hw
    have hb := bel_trans hb hw
    have s_k := heap_past (.cells #[.int .i64 b, .int .i64 b] 23) s_k
    have x_k := heap_past (.cells #[.int .i64 b, .int .i64 b] 23) x_k
    have t_k := heap_a1 y3 (.cells #[.int .i64 b, .int .i64 b] 23)
    have H := H.keeps (bel_alloc y3 (.cells #[.int .i64 b, .int .i64 b] 23))
    have hb := bel_trans hb (bel_alloc y3 (.cells #[.int .i64 b, .int .i64 b] 23))
    have s_k := heap_past (.cells #[.bool false, .slice none 0 0, .int .i64 0] 26) s_k
    have x_k := heap_past (.cells #[.bool false, .slice none 0 0, .int .i64 0] 26) x_k
    have t_k := heap_past (.cells #[.bool false, .slice none 0 0, .int .i64 0] 26) t_k
    have y_k := heap_b2 y3 (.cells #[.int .i64 b, .int .i64 b] 23) (.cells #[.bool false, .slice none 0 0, .int .i64 0] 26)
    have H := H.keeps (bel_alloc (y3.alloc (.cells #[.int .i64 b, .int .i64 b] 23)) (.cells #[.bool false, .slice none 0 0, .int .i64 0] 26))
    have hb := bel_trans hb (bel_alloc (y3.alloc (.cells #[.int .i64 b, .int .i64 b] 23)) (.cells #[.bool false, .slice none 0 0, .int .i64 0] 26))
    go_wp2_with fail
    generalize ((y3.alloc (.cells #[.int .i64 b, .int .i64 b] 23)).alloc (.cells #[.bool false, .slice none 0 0, .int .i64 0] 26)) = x4 at s_k x_k t_k y_k H hb ⊢
    refine (CL.out _ H).mono ?_
    rintro _ y5 ⟨rfl, hw⟩
    have s_k := blk_up hw s_k
    have x_k := blk_up hw x_k
    have t_k := blk_up hw t_k
    have y_k := blk_up hw y_k
    have H := H.keeps hw
    have hb := bel_trans hb hw
    go_wp2_with fail
    refine (CL.out _ H).mono ?_
    rintro _ y6 ⟨rfl, hw⟩
    have s_k := blk_up hw s_k
    have x_k := blk_up hw x_k
    have t_k := blk_up hw t_k
    have y_k := blk_up hw y_k
    have H := H.keeps hw
    have hb := bel_trans hb hw
    go_wp2
    all_goals go_ret
    all_goals exact ⟨rfl, hb⟩
  · have Ca : Hid (∀ W, Hold4 W → _) := fun W h => around_no pa W h
    have Cb : Hid (∀ W, Hold4 W → _) := fun W h => around_yes pb W h
    have hb := bel_refl w
    go_enter Tryz.func4, Tryz.ntmps4
    go_wp2_with fail
    refine (Ca.out _ H).mono ?_
    rintro _ y1 ⟨rfl, hw⟩
    have H := H.keeps hw
    have hb := bel_trans hb hw
    have s_k := heap_a1 y1 (.cells #[.int .i64 a, .int .i64 a] 23)
    have H := H.keeps (bel_alloc y1 (.cells #[.int .i64 a, .int .i64 a] 23))
    have hb := bel_trans hb (bel_alloc y1 (.cells #[.int .i64 a, .int .i64 a] 23))
    have s_k := heap_past (.cells #[.bool false, .slice none 0 0, .int .i64 0] 26) s_k
    have x_k := heap_b2 y1 (.cells #[.int .i64 a, .int .i64 a] 23) (.cells #[.bool false, .slice none 0 0, .int .i64 0] 26)
    have H := H.keeps (bel_alloc (y1.alloc (.cells #[.int .i64 a, .int .i64 a] 23)) (.cells #[.bool false, .slice none 0 0, .int .i64 0] 26))
    have hb := bel_trans hb (bel_alloc (y1.alloc (.cells #[.int .i64 a, .int .i64 a] 23)) (.cells #[.bool false, .slice none 0 0, .int .i64 0] 26))
    go_wp2_with fail
    generalize ((y1.alloc (.cells #[.int .i64 a, .int .i64 a] 23)).alloc (.cells #[.bool false, .slice none 0 0, .int .i64 0] 26)) = x2 at s_k x_k H hb ⊢
    refine (Cb.out _ H).mono ?_
    rintro _ y3 ⟨v, rfl, y_D', ⟨y_g, y_o, y_n, y_c, y_e, rfl⟩, hw⟩
    have s_k := blk_up hw s_k
    have x_k := blk_up hw x_k
    have H := H.keeps hw
    have hb := bel_trans hb hw
    have y_D := y_D'
    have s_k := heap_past (.cells #[.int .i64 b, .int .i64 b] 23) s_k
    have x_k := heap_past (.cells #[.int .i64 b, .int .i64 b] 23) x_k
    have t_k := heap_a1 y3 (.cells #[.int .i64 b, .int .i64 b] 23)
    have y_D := y_D.keeps (bel_alloc y3 (.cells #[.int .i64 b, .int .i64 b] 23))
    have H := H.keeps (bel_alloc y3 (.cells #[.int .i64 b, .int .i64 b] 23))
    have hb := bel_trans hb (bel_alloc y3 (.cells #[.int .i64 b, .int .i64 b] 23))
    have s_k := heap_past (.cells #[.bool y_g, .slice y_o y_n y_c, .int .i64 y_e] 26) s_k
    have x_k := heap_past (.cells #[.bool y_g, .slice y_o y_n y_c, .int .i64 y_e] 26) x_k
    have t_k := heap_past (.cells #[.bool y_g, .slice y_o y_n y_c, .int .i64 y_e] 26) t_k
    have y_k := heap_b2 y3 (.cells #[.int .i64 b, .int .i64 b] 23) (.cells #[.bool y_g, .slice y_o y_n y_c, .int .i64 y_e] 26)
    have y_D := y_D.keeps (bel_alloc (y3.alloc (.cells #[.int .i64 b, .int .i64 b] 23)) (.cells #[.bool y_g, .slice y_o y_n y_c, .int .i64 y_e] 26))
    have H := H.keeps (bel_alloc (y3.alloc (.cells #[.int .i64 b, .int .i64 b] 23)) (.cells #[.bool y_g, .slice y_o y_n y_c, .int .i64 y_e] 26))
    have hb := bel_trans hb (bel_alloc (y3.alloc (.cells #[.int .i64 b, .int .i64 b] 23)) (.cells #[.bool y_g, .slice y_o y_n y_c, .int .i64 y_e] 26))
    go_wp2_with fail
    generalize ((y3.alloc (.cells #[.int .i64 b, .int .i64 b] 23)).alloc (.cells #[.bool y_g, .slice y_o y_n y_c, .int .i64 y_e] 26)) = x4 at s_k x_k t_k y_k y_D H hb ⊢
    refine (CL.out _ H).mono ?_
    rintro _ y5 ⟨rfl, hw⟩
    have s_k := blk_up hw s_k
    have x_k := blk_up hw x_k
    have t_k := blk_up hw t_k
    have y_k := blk_up hw y_k
    have y_D := y_D.keeps hw
    have H := H.keeps hw
    have hb := bel_trans hb hw
    go_wp2_with fail
    refine (CL.out _ H).mono ?_
    rintro _ y6 ⟨rfl, hw⟩
    have s_k := blk_up hw s_k
    have x_k := blk_up hw x_k
    have t_k := blk_up hw t_k
    have y_k := blk_up hw y_k
    have y_D := y_D.keeps hw
    have H := H.keeps hw
    have hb := bel_trans hb hw
    go_wp2
    all_goals go_ret
    all_goals exact ⟨rfl, hb⟩
  · have Ca : Hid (∀ W, Hold4 W → _) := fun W h => around_yes pa W h
    have Cb : Hid (∀ W, Hold4 W → _) := fun W h => around_no pb W h
    have hb := bel_refl w
    go_enter Tryz.func4, Tryz.ntmps4
    go_wp2_with fail
    refine (Ca.out _ H).mono ?_
    rintro _ y1 ⟨v, rfl, x_D', ⟨x_g, x_o, x_n, x_c, x_e, rfl⟩, hw⟩
    have H := H.keeps hw
    have hb := bel_trans hb hw
    have x_D := x_D'
    have s_k := heap_a1 y1 (.cells #[.int .i64 a, .int .i64 a] 23)
    have x_D := x_D.keeps (bel_alloc y1 (.cells #[.int .i64 a, .int .i64 a] 23))
    have H := H.keeps (bel_alloc y1 (.cells #[.int .i64 a, .int .i64 a] 23))
    have hb := bel_trans hb (bel_alloc y1 (.cells #[.int .i64 a, .int .i64 a] 23))
    have s_k := heap_past (.cells #[.bool x_g, .slice x_o x_n x_c, .int .i64 x_e] 26) s_k
    have x_k := heap_b2 y1 (.cells #[.int .i64 a, .int .i64 a] 23) (.cells #[.bool x_g, .slice x_o x_n x_c, .int .i64 x_e] 26)
    have x_D := x_D.keeps (bel_alloc (y1.alloc (.cells #[.int .i64 a, .int .i64 a] 23)) (.cells #[.bool x_g, .slice x_o x_n x_c, .int .i64 x_e] 26))
    have H := H.keeps (bel_alloc (y1.alloc (.cells #[.int .i64 a, .int .i64 a] 23)) (.cells #[.bool x_g, .slice x_o x_n x_c, .int .i64 x_e] 26))
    have hb := bel_trans hb (bel_alloc (y1.alloc (.cells #[.int .i64 a, .int .i64 a] 23)) (.cells #[.bool x_g, .slice x_o x_n x_c, .int .i64 x_e] 26))
    go_wp2_with fail
    generalize ((y1.alloc (.cells #[.int .i64 a, .int .i64 a] 23)).alloc (.cells #[.bool x_g, .slice x_o x_n x_c, .int .i64 x_e] 26)) = x2 at s_k x_k x_D H hb ⊢
    refine (Cb.out _ H).mono ?_
    rintro _ y3 ⟨rfl, hw⟩
    have s_k := blk_up hw s_k
    have x_k := blk_up hw x_k
    have x_D := x_D.keeps hw
    have H := H.keeps hw
    have hb := bel_trans hb hw
    have s_k := heap_past (.cells #[.int .i64 b, .int .i64 b] 23) s_k
    have x_k := heap_past (.cells #[.int .i64 b, .int .i64 b] 23) x_k
    have t_k := heap_a1 y3 (.cells #[.int .i64 b, .int .i64 b] 23)
    have x_D := x_D.keeps (bel_alloc y3 (.cells #[.int .i64 b, .int .i64 b] 23))
    have H := H.keeps (bel_alloc y3 (.cells #[.int .i64 b, .int .i64 b] 23))
    have hb := bel_trans hb (bel_alloc y3 (.cells #[.int .i64 b, .int .i64 b] 23))
    have s_k := heap_past (.cells #[.bool false, .slice none 0 0, .int .i64 0] 26) s_k
    have x_k := heap_past (.cells #[.bool false, .slice none 0 0, .int .i64 0] 26) x_k
    have t_k := heap_past (.cells #[.bool false, .slice none 0 0, .int .i64 0] 26) t_k
    have y_k := heap_b2 y3 (.cells #[.int .i64 b, .int .i64 b] 23) (.cells #[.bool false, .slice none 0 0, .int .i64 0] 26)
    have x_D := x_D.keeps (bel_alloc (y3.alloc (.cells #[.int .i64 b, .int .i64 b] 23)) (.cells #[.bool false, .slice none 0 0, .int .i64 0] 26))
    have H := H.keeps (bel_alloc (y3.alloc (.cells #[.int .i64 b, .int .i64 b] 23)) (.cells #[.bool false, .slice none 0 0, .int .i64 0] 26))
    have hb := bel_trans hb (bel_alloc (y3.alloc (.cells #[.int .i64 b, .int .i64 b] 23)) (.cells #[.bool false, .slice none 0 0, .int .i64 0] 26))
    go_wp2_with fail
    generalize ((y3.alloc (.cells #[.int .i64 b, .int .i64 b] 23)).alloc (.cells #[.bool false, .slice none 0 0, .int .i64 0] 26)) = x4 at s_k x_k t_k y_k x_D H hb ⊢
    refine (CL.out _ H).mono ?_
    rintro _ y5 ⟨rfl, hw⟩
    have s_k := blk_up hw s_k
    have x_k := blk_up hw x_k
    have t_k := blk_up hw t_k
    have y_k := blk_up hw y_k
    have x_D := x_D.keeps hw
    have H := H.keeps hw
    have hb := bel_trans hb hw
    go_wp2_with fail
    refine (CL.out _ H).mono ?_
    rintro _ y6 ⟨rfl, hw⟩
    have s_k := blk_up hw s_k
    have x_k := blk_up hw x_k
    have t_k := blk_up hw t_k
    have y_k := blk_up hw y_k
    have x_D := x_D.keeps hw
    have H := H.keeps hw
    have hb := bel_trans hb hw
    go_wp2
    all_goals go_ret
    all_goals exact ⟨rfl, hb⟩
  · have a_B := patV_bd pa
    have b_B := patV_bd pb
    obtain ⟨_, _, _, _, hab⟩ := prV_parts ra rb pa pb
    obtain ⟨_, _, _, _, haa⟩ := prV_parts ra ra pa pa
    have va := vld_self ra pa
    have vb := vld_self rb pb
    obtain ⟨_, sc1, sc2⟩ := sum_c ra rb pa pb
    obtain ⟨pc1, pc2⟩ := prod_c ra rb pa pb
    obtain ⟨qc1, qc2⟩ := prod_c ra ra pa pa
    have okp : Dok (patV a + patV b) := (a_B.add b_B (by omega)).ok (by omega)
    have okr : Dok (prV a b) := (a_B.mul b_B hab (by omega)).ok (by omega)
    have oku : Dok (prV a a) := (a_B.mul a_B haa (by omega)).ok (by omega)
    have SA : Hid (∀ W, Hold4 W → Calls Tryz.prog 11 #[.agg #[.int .i64 a, .int .i64 a], .agg #[.int .i64 b, .int .i64 b]] W fun e w' => e = .returned (.tuple #[.agg #[.int .i64 (cLo (patV a + patV b)), .int .i64 (cHi (patV a + patV b))], .int .i64 0]) ∧ Below W.heap.size W w') := fun W h => by
      have := spanAdd1 ra rb pa pb W h
      rw [va, vb, sc1, sc2] at this
      exact this
    have SM : Hid (∀ W, Hold4 W → Calls Tryz.prog 13 #[.agg #[.int .i64 a, .int .i64 a], .agg #[.int .i64 b, .int .i64 b]] W fun e w' => e = .returned (.tuple #[.agg #[.int .i64 (cLo (prV a b)), .int .i64 (cHi (prV a b))], .int .i64 0]) ∧ Below W.heap.size W w') := fun W h => by
      have := spanMulH ra ra rb rb W h
      rw [va, vb, show tmLo a a b b = prLo a b by unfold tmLo; rw [minP_self, minP_self, minP_self], show tmHi a a b b = prHi a b by unfold tmHi; rw [maxP_self, maxP_self, maxP_self], pc1, pc2] at this
      exact this
    have SS : Hid (∀ W, Hold4 W → Calls Tryz.prog 14 #[.agg #[.int .i64 a, .int .i64 a]] W fun e w' => e = .returned (.tuple #[.agg #[.int .i64 (cLo (prV a a)), .int .i64 (cHi (prV a a))], .int .i64 0]) ∧ Below W.heap.size W w') := fun W h => by
      have := spanSq1 ra pa W h
      rw [qc1, qc2] at this
      exact this
    have T0 : Hid (∀ (W : World) (ng : Bool) (so : Option Addr) (sn sc : Nat) (e : Int), DNum W (.agg #[.bool ng, .slice so sn sc, .int .i64 e]) (patV a + patV b) → Hold4 W → _) := fun W ng so sn sc e hD h => tight_any hD okp h
    have T1 : Hid (∀ (W : World) (ng : Bool) (so : Option Addr) (sn sc : Nat) (e : Int), DNum W (.agg #[.bool ng, .slice so sn sc, .int .i64 e]) (prV a b) → Hold4 W → _) := fun W ng so sn sc e hD h => tight_any hD okr h
    have T2 : Hid (∀ (W : World) (ng : Bool) (so : Option Addr) (sn sc : Nat) (e : Int), DNum W (.agg #[.bool ng, .slice so sn sc, .int .i64 e]) (prV a a) → Hold4 W → _) := fun W ng so sn sc e hD h => tight_any hD oku h
    generalize cLo (patV a + patV b) = c0 at SA T0
    generalize cHi (patV a + patV b) = c1 at SA T0
    generalize cLo (prV a b) = m0 at SM T1
    generalize cHi (prV a b) = m1 at SM T1
    generalize cLo (prV a a) = q0 at SS T2
    generalize cHi (prV a a) = q1 at SS T2
    clear va vb sc1 sc2 pc1 pc2 qc1 qc2
    have Ca : Hid (∀ W, Hold4 W → _) := fun W h => around_yes pa W h
    have Cb : Hid (∀ W, Hold4 W → _) := fun W h => around_yes pb W h
    have hb := bel_refl w
    go_enter Tryz.func4, Tryz.ntmps4
    go_wp2_with fail
    refine (Ca.out _ H).mono ?_
    rintro _ y1 ⟨v, rfl, x_D', ⟨x_g, x_o, x_n, x_c, x_e, rfl⟩, hw⟩
    have H := H.keeps hw
    have hb := bel_trans hb hw
    have x_D := x_D'
    have s_k := heap_a1 y1 (.cells #[.int .i64 a, .int .i64 a] 23)
    have x_D := x_D.keeps (bel_alloc y1 (.cells #[.int .i64 a, .int .i64 a] 23))
    have H := H.keeps (bel_alloc y1 (.cells #[.int .i64 a, .int .i64 a] 23))
    have hb := bel_trans hb (bel_alloc y1 (.cells #[.int .i64 a, .int .i64 a] 23))
    have s_k := heap_past (.cells #[.bool x_g, .slice x_o x_n x_c, .int .i64 x_e] 26) s_k
    have x_k := heap_b2 y1 (.cells #[.int .i64 a, .int .i64 a] 23) (.cells #[.bool x_g, .slice x_o x_n x_c, .int .i64 x_e] 26)
    have x_D := x_D.keeps (bel_alloc (y1.alloc (.cells #[.int .i64 a, .int .i64 a] 23)) (.cells #[.bool x_g, .slice x_o x_n x_c, .int .i64 x_e] 26))
    have H := H.keeps (bel_alloc (y1.alloc (.cells #[.int .i64 a, .int .i64 a] 23)) (.cells #[.bool x_g, .slice x_o x_n x_c, .int .i64 x_e] 26))
    have hb := bel_trans hb (bel_alloc (y1.alloc (.cells #[.int .i64 a, .int .i64 a] 23)) (.cells #[.bool x_g, .slice x_o x_n x_c, .int .i64 x_e] 26))
    go_wp2_with fail
    generalize ((y1.alloc (.cells #[.int .i64 a, .int .i64 a] 23)).alloc (.cells #[.bool x_g, .slice x_o x_n x_c, .int .i64 x_e] 26)) = x2 at s_k x_k x_D H hb ⊢
    refine (Cb.out _ H).mono ?_
    rintro _ y3 ⟨v, rfl, y_D', ⟨y_g, y_o, y_n, y_c, y_e, rfl⟩, hw⟩
    have s_k := blk_up hw s_k
    have x_k := blk_up hw x_k
    have x_D := x_D.keeps hw
    have H := H.keeps hw
    have hb := bel_trans hb hw
    have y_D := y_D'
    have s_k := heap_past (.cells #[.int .i64 b, .int .i64 b] 23) s_k
    have x_k := heap_past (.cells #[.int .i64 b, .int .i64 b] 23) x_k
    have t_k := heap_a1 y3 (.cells #[.int .i64 b, .int .i64 b] 23)
    have x_D := x_D.keeps (bel_alloc y3 (.cells #[.int .i64 b, .int .i64 b] 23))
    have y_D := y_D.keeps (bel_alloc y3 (.cells #[.int .i64 b, .int .i64 b] 23))
    have H := H.keeps (bel_alloc y3 (.cells #[.int .i64 b, .int .i64 b] 23))
    have hb := bel_trans hb (bel_alloc y3 (.cells #[.int .i64 b, .int .i64 b] 23))
    have s_k := heap_past (.cells #[.bool y_g, .slice y_o y_n y_c, .int .i64 y_e] 26) s_k
    have x_k := heap_past (.cells #[.bool y_g, .slice y_o y_n y_c, .int .i64 y_e] 26) x_k
    have t_k := heap_past (.cells #[.bool y_g, .slice y_o y_n y_c, .int .i64 y_e] 26) t_k
    have y_k := heap_b2 y3 (.cells #[.int .i64 b, .int .i64 b] 23) (.cells #[.bool y_g, .slice y_o y_n y_c, .int .i64 y_e] 26)
    have x_D := x_D.keeps (bel_alloc (y3.alloc (.cells #[.int .i64 b, .int .i64 b] 23)) (.cells #[.bool y_g, .slice y_o y_n y_c, .int .i64 y_e] 26))
    have y_D := y_D.keeps (bel_alloc (y3.alloc (.cells #[.int .i64 b, .int .i64 b] 23)) (.cells #[.bool y_g, .slice y_o y_n y_c, .int .i64 y_e] 26))
    have H := H.keeps (bel_alloc (y3.alloc (.cells #[.int .i64 b, .int .i64 b] 23)) (.cells #[.bool y_g, .slice y_o y_n y_c, .int .i64 y_e] 26))
    have hb := bel_trans hb (bel_alloc (y3.alloc (.cells #[.int .i64 b, .int .i64 b] 23)) (.cells #[.bool y_g, .slice y_o y_n y_c, .int .i64 y_e] 26))
    go_wp2_with fail
    generalize ((y3.alloc (.cells #[.int .i64 b, .int .i64 b] 23)).alloc (.cells #[.bool y_g, .slice y_o y_n y_c, .int .i64 y_e] 26)) = x4 at s_k x_k t_k y_k x_D y_D H hb ⊢
    refine (CL.out _ H).mono ?_
    rintro _ y5 ⟨rfl, hw⟩
    have s_k := blk_up hw s_k
    have x_k := blk_up hw x_k
    have t_k := blk_up hw t_k
    have y_k := blk_up hw y_k
    have x_D := x_D.keeps hw
    have y_D := y_D.keeps hw
    have H := H.keeps hw
    have hb := bel_trans hb hw
    have f_x0 := blkC x_k 0 rfl
    have f_x1 := blkC x_k 1 rfl
    have f_x2 := blkC x_k 2 rfl
    have f_y0 := blkC y_k 0 rfl
    have f_y1 := blkC y_k 1 rfl
    have f_y2 := blkC y_k 2 rfl
    go_wp2_with fail
    clear f_x0 f_x1 f_x2 f_y0 f_y1 f_y2
    refine (add_B x_D y_D a_B b_B (by omega) H.tab).mono ?_
    rintro _ y6 ⟨v, rfl, hD⟩
    obtain ⟨p_g, p_o, p_n, p_c, p_e, rfl⟩ := dans_shape hD
    have hw := hD.below
    have p_D := hD.num
    have s_k := blk_up hw s_k
    have x_k := blk_up hw x_k
    have t_k := blk_up hw t_k
    have y_k := blk_up hw y_k
    have x_D := x_D.keeps hw
    have y_D := y_D.keeps hw
    have H := H.keeps hw
    have hb := bel_trans hb hw
    have s_k := heap_past (.cells #[.bool p_g, .slice p_o p_n p_c, .int .i64 p_e] 26) s_k
    have x_k := heap_past (.cells #[.bool p_g, .slice p_o p_n p_c, .int .i64 p_e] 26) x_k
    have t_k := heap_past (.cells #[.bool p_g, .slice p_o p_n p_c, .int .i64 p_e] 26) t_k
    have y_k := heap_past (.cells #[.bool p_g, .slice p_o p_n p_c, .int .i64 p_e] 26) y_k
    have p_k := heap_a1 y6 (.cells #[.bool p_g, .slice p_o p_n p_c, .int .i64 p_e] 26)
    have x_D := x_D.keeps (bel_alloc y6 (.cells #[.bool p_g, .slice p_o p_n p_c, .int .i64 p_e] 26))
    have y_D := y_D.keeps (bel_alloc y6 (.cells #[.bool p_g, .slice p_o p_n p_c, .int .i64 p_e] 26))
    have p_D := p_D.keeps (bel_alloc y6 (.cells #[.bool p_g, .slice p_o p_n p_c, .int .i64 p_e] 26))
    have H := H.keeps (bel_alloc y6 (.cells #[.bool p_g, .slice p_o p_n p_c, .int .i64 p_e] 26))
    have hb := bel_trans hb (bel_alloc y6 (.cells #[.bool p_g, .slice p_o p_n p_c, .int .i64 p_e] 26))
    have f_x0 := blkC x_k 0 rfl
    have f_x1 := blkC x_k 1 rfl
    have f_x2 := blkC x_k 2 rfl
    have f_y0 := blkC y_k 0 rfl
    have f_y1 := blkC y_k 1 rfl
    have f_y2 := blkC y_k 2 rfl
    go_wp2_with fail
    clear f_x0 f_x1 f_x2 f_y0 f_y1 f_y2
    generalize (y6.alloc (.cells #[.bool p_g, .slice p_o p_n p_c, .int .i64 p_e] 26)) = x7 at s_k x_k t_k y_k p_k x_D y_D p_D H hb ⊢
    refine (mul_B x_D y_D a_B b_B (by omega) H.tab).mono ?_
    rintro _ y8 ⟨v, r_V, rfl, hD, r_E, r_B⟩
    obtain ⟨r_g, r_o, r_n, r_c, r_e, rfl⟩ := dans_shape hD
    have hw := hD.below
    have r_D := hD.num
    obtain rfl := scale_injF r_E hab
    clear r_E
    have s_k := blk_up hw s_k
    have x_k := blk_up hw x_k
    have t_k := blk_up hw t_k
    have y_k := blk_up hw y_k
    have p_k := blk_up hw p_k
    have x_D := x_D.keeps hw
    have y_D := y_D.keeps hw
    have p_D := p_D.keeps hw
    have H := H.keeps hw
    have hb := bel_trans hb hw
    have s_k := heap_past (.cells #[.bool r_g, .slice r_o r_n r_c, .int .i64 r_e] 26) s_k
    have x_k := heap_past (.cells #[.bool r_g, .slice r_o r_n r_c, .int .i64 r_e] 26) x_k
    have t_k := heap_past (.cells #[.bool r_g, .slice r_o r_n r_c, .int .i64 r_e] 26) t_k
    have y_k := heap_past (.cells #[.bool r_g, .slice r_o r_n r_c, .int .i64 r_e] 26) y_k
    have p_k := heap_past (.cells #[.bool r_g, .slice r_o r_n r_c, .int .i64 r_e] 26) p_k
    have r_k := heap_a1 y8 (.cells #[.bool r_g, .slice r_o r_n r_c, .int .i64 r_e] 26)
    have x_D := x_D.keeps (bel_alloc y8 (.cells #[.bool r_g, .slice r_o r_n r_c, .int .i64 r_e] 26))
    have y_D := y_D.keeps (bel_alloc y8 (.cells #[.bool r_g, .slice r_o r_n r_c, .int .i64 r_e] 26))
    have p_D := p_D.keeps (bel_alloc y8 (.cells #[.bool r_g, .slice r_o r_n r_c, .int .i64 r_e] 26))
    have r_D := r_D.keeps (bel_alloc y8 (.cells #[.bool r_g, .slice r_o r_n r_c, .int .i64 r_e] 26))
    have H := H.keeps (bel_alloc y8 (.cells #[.bool r_g, .slice r_o r_n r_c, .int .i64 r_e] 26))
    have hb := bel_trans hb (bel_alloc y8 (.cells #[.bool r_g, .slice r_o r_n r_c, .int .i64 r_e] 26))
    have f_s0 := blkC s_k 0 rfl
    have f_s1 := blkC s_k 1 rfl
    have f_t0 := blkC t_k 0 rfl
    have f_t1 := blkC t_k 1 rfl
    go_wp2_with fail
    clear f_s0 f_s1 f_t0 f_t1
    generalize (y8.alloc (.cells #[.bool r_g, .slice r_o r_n r_c, .int .i64 r_e] 26)) = x9 at s_k x_k t_k y_k p_k r_k x_D y_D p_D r_D H hb ⊢
    refine (SA.out _ H).mono ?_
    rintro _ y10 ⟨rfl, hw⟩
    have s_k := blk_up hw s_k
    have x_k := blk_up hw x_k
    have t_k := blk_up hw t_k
    have y_k := blk_up hw y_k
    have p_k := blk_up hw p_k
    have r_k := blk_up hw r_k
    have x_D := x_D.keeps hw
    have y_D := y_D.keeps hw
    have p_D := p_D.keeps hw
    have r_D := r_D.keeps hw
    have H := H.keeps hw
    have hb := bel_trans hb hw
    have s_k := heap_past (.cells #[.int .i64 c0, .int .i64 c1] 23) s_k
    have x_k := heap_past (.cells #[.int .i64 c0, .int .i64 c1] 23) x_k
    have t_k := heap_past (.cells #[.int .i64 c0, .int .i64 c1] 23) t_k
    have y_k := heap_past (.cells #[.int .i64 c0, .int .i64 c1] 23) y_k
    have p_k := heap_past (.cells #[.int .i64 c0, .int .i64 c1] 23) p_k
    have r_k := heap_past (.cells #[.int .i64 c0, .int .i64 c1] 23) r_k
    have c_k := heap_a1 y10 (.cells #[.int .i64 c0, .int .i64 c1] 23)
    have x_D := x_D.keeps (bel_alloc y10 (.cells #[.int .i64 c0, .int .i64 c1] 23))
    have y_D := y_D.keeps (bel_alloc y10 (.cells #[.int .i64 c0, .int .i64 c1] 23))
    have p_D := p_D.keeps (bel_alloc y10 (.cells #[.int .i64 c0, .int .i64 c1] 23))
    have r_D := r_D.keeps (bel_alloc y10 (.cells #[.int .i64 c0, .int .i64 c1] 23))
    have H := H.keeps (bel_alloc y10 (.cells #[.int .i64 c0, .int .i64 c1] 23))
    have hb := bel_trans hb (bel_alloc y10 (.cells #[.int .i64 c0, .int .i64 c1] 23))
    have f_s0 := blkC s_k 0 rfl
    have f_s1 := blkC s_k 1 rfl
    have f_t0 := blkC t_k 0 rfl
    have f_t1 := blkC t_k 1 rfl
    go_wp2_with fail
    clear f_s0 f_s1 f_t0 f_t1
    generalize (y10.alloc (.cells #[.int .i64 c0, .int .i64 c1] 23)) = x11 at s_k x_k t_k y_k p_k r_k c_k x_D y_D p_D r_D H hb ⊢
    refine (SM.out _ H).mono ?_
    rintro _ y12 ⟨rfl, hw⟩
    have s_k := blk_up hw s_k
    have x_k := blk_up hw x_k
    have t_k := blk_up hw t_k
    have y_k := blk_up hw y_k
    have p_k := blk_up hw p_k
    have r_k := blk_up hw r_k
    have c_k := blk_up hw c_k
    have x_D := x_D.keeps hw
    have y_D := y_D.keeps hw
    have p_D := p_D.keeps hw
    have r_D := r_D.keeps hw
    have H := H.keeps hw
    have hb := bel_trans hb hw
    have s_k := heap_past (.cells #[.int .i64 m0, .int .i64 m1] 23) s_k
    have x_k := heap_past (.cells #[.int .i64 m0, .int .i64 m1] 23) x_k
    have t_k := heap_past (.cells #[.int .i64 m0, .int .i64 m1] 23) t_k
    have y_k := heap_past (.cells #[.int .i64 m0, .int .i64 m1] 23) y_k
    have p_k := heap_past (.cells #[.int .i64 m0, .int .i64 m1] 23) p_k
    have r_k := heap_past (.cells #[.int .i64 m0, .int .i64 m1] 23) r_k
    have c_k := heap_past (.cells #[.int .i64 m0, .int .i64 m1] 23) c_k
    have m_k := heap_a1 y12 (.cells #[.int .i64 m0, .int .i64 m1] 23)
    have x_D := x_D.keeps (bel_alloc y12 (.cells #[.int .i64 m0, .int .i64 m1] 23))
    have y_D := y_D.keeps (bel_alloc y12 (.cells #[.int .i64 m0, .int .i64 m1] 23))
    have p_D := p_D.keeps (bel_alloc y12 (.cells #[.int .i64 m0, .int .i64 m1] 23))
    have r_D := r_D.keeps (bel_alloc y12 (.cells #[.int .i64 m0, .int .i64 m1] 23))
    have H := H.keeps (bel_alloc y12 (.cells #[.int .i64 m0, .int .i64 m1] 23))
    have hb := bel_trans hb (bel_alloc y12 (.cells #[.int .i64 m0, .int .i64 m1] 23))
    have f_s0 := blkC s_k 0 rfl
    have f_s1 := blkC s_k 1 rfl
    go_wp2_with fail
    clear f_s0 f_s1
    generalize (y12.alloc (.cells #[.int .i64 m0, .int .i64 m1] 23)) = x13 at s_k x_k t_k y_k p_k r_k c_k m_k x_D y_D p_D r_D H hb ⊢
    refine (SS.out _ H).mono ?_
    rintro _ y14 ⟨rfl, hw⟩
    have s_k := blk_up hw s_k
    have x_k := blk_up hw x_k
    have t_k := blk_up hw t_k
    have y_k := blk_up hw y_k
    have p_k := blk_up hw p_k
    have r_k := blk_up hw r_k
    have c_k := blk_up hw c_k
    have m_k := blk_up hw m_k
    have x_D := x_D.keeps hw
    have y_D := y_D.keeps hw
    have p_D := p_D.keeps hw
    have r_D := r_D.keeps hw
    have H := H.keeps hw
    have hb := bel_trans hb hw
    have s_k := heap_past (.cells #[.int .i64 q0, .int .i64 q1] 23) s_k
    have x_k := heap_past (.cells #[.int .i64 q0, .int .i64 q1] 23) x_k
    have t_k := heap_past (.cells #[.int .i64 q0, .int .i64 q1] 23) t_k
    have y_k := heap_past (.cells #[.int .i64 q0, .int .i64 q1] 23) y_k
    have p_k := heap_past (.cells #[.int .i64 q0, .int .i64 q1] 23) p_k
    have r_k := heap_past (.cells #[.int .i64 q0, .int .i64 q1] 23) r_k
    have c_k := heap_past (.cells #[.int .i64 q0, .int .i64 q1] 23) c_k
    have m_k := heap_past (.cells #[.int .i64 q0, .int .i64 q1] 23) m_k
    have q_k := heap_a1 y14 (.cells #[.int .i64 q0, .int .i64 q1] 23)
    have x_D := x_D.keeps (bel_alloc y14 (.cells #[.int .i64 q0, .int .i64 q1] 23))
    have y_D := y_D.keeps (bel_alloc y14 (.cells #[.int .i64 q0, .int .i64 q1] 23))
    have p_D := p_D.keeps (bel_alloc y14 (.cells #[.int .i64 q0, .int .i64 q1] 23))
    have r_D := r_D.keeps (bel_alloc y14 (.cells #[.int .i64 q0, .int .i64 q1] 23))
    have H := H.keeps (bel_alloc y14 (.cells #[.int .i64 q0, .int .i64 q1] 23))
    have hb := bel_trans hb (bel_alloc y14 (.cells #[.int .i64 q0, .int .i64 q1] 23))
    have f_x0 := blkC x_k 0 rfl
    have f_x1 := blkC x_k 1 rfl
    have f_x2 := blkC x_k 2 rfl
    go_wp2_with fail
    clear f_x0 f_x1 f_x2
    generalize (y14.alloc (.cells #[.int .i64 q0, .int .i64 q1] 23)) = x15 at s_k x_k t_k y_k p_k r_k c_k m_k q_k x_D y_D p_D r_D H hb ⊢
    refine (mul_B x_D x_D a_B a_B (by omega) H.tab).mono ?_
    rintro _ y16 ⟨v, u_V, rfl, hD, u_E, u_B⟩
    obtain ⟨u_g, u_o, u_n, u_c, u_e, rfl⟩ := dans_shape hD
    have hw := hD.below
    have u_D := hD.num
    obtain rfl := scale_injF u_E haa
    clear u_E
    have s_k := blk_up hw s_k
    have x_k := blk_up hw x_k
    have t_k := blk_up hw t_k
    have y_k := blk_up hw y_k
    have p_k := blk_up hw p_k
    have r_k := blk_up hw r_k
    have c_k := blk_up hw c_k
    have m_k := blk_up hw m_k
    have q_k := blk_up hw q_k
    have x_D := x_D.keeps hw
    have y_D := y_D.keeps hw
    have p_D := p_D.keeps hw
    have r_D := r_D.keeps hw
    have H := H.keeps hw
    have hb := bel_trans hb hw
    have s_k := heap_past (.cells #[.bool u_g, .slice u_o u_n u_c, .int .i64 u_e] 26) s_k
    have x_k := heap_past (.cells #[.bool u_g, .slice u_o u_n u_c, .int .i64 u_e] 26) x_k
    have t_k := heap_past (.cells #[.bool u_g, .slice u_o u_n u_c, .int .i64 u_e] 26) t_k
    have y_k := heap_past (.cells #[.bool u_g, .slice u_o u_n u_c, .int .i64 u_e] 26) y_k
    have p_k := heap_past (.cells #[.bool u_g, .slice u_o u_n u_c, .int .i64 u_e] 26) p_k
    have r_k := heap_past (.cells #[.bool u_g, .slice u_o u_n u_c, .int .i64 u_e] 26) r_k
    have c_k := heap_past (.cells #[.bool u_g, .slice u_o u_n u_c, .int .i64 u_e] 26) c_k
    have m_k := heap_past (.cells #[.bool u_g, .slice u_o u_n u_c, .int .i64 u_e] 26) m_k
    have q_k := heap_past (.cells #[.bool u_g, .slice u_o u_n u_c, .int .i64 u_e] 26) q_k
    have u_k := heap_a1 y16 (.cells #[.bool u_g, .slice u_o u_n u_c, .int .i64 u_e] 26)
    have x_D := x_D.keeps (bel_alloc y16 (.cells #[.bool u_g, .slice u_o u_n u_c, .int .i64 u_e] 26))
    have y_D := y_D.keeps (bel_alloc y16 (.cells #[.bool u_g, .slice u_o u_n u_c, .int .i64 u_e] 26))
    have p_D := p_D.keeps (bel_alloc y16 (.cells #[.bool u_g, .slice u_o u_n u_c, .int .i64 u_e] 26))
    have r_D := r_D.keeps (bel_alloc y16 (.cells #[.bool u_g, .slice u_o u_n u_c, .int .i64 u_e] 26))
    have u_D := u_D.keeps (bel_alloc y16 (.cells #[.bool u_g, .slice u_o u_n u_c, .int .i64 u_e] 26))
    have H := H.keeps (bel_alloc y16 (.cells #[.bool u_g, .slice u_o u_n u_c, .int .i64 u_e] 26))
    have hb := bel_trans hb (bel_alloc y16 (.cells #[.bool u_g, .slice u_o u_n u_c, .int .i64 u_e] 26))
    have f_c0 := blkC c_k 0 rfl
    have f_c1 := blkC c_k 1 rfl
    have f_p0 := blkC p_k 0 rfl
    have f_p1 := blkC p_k 1 rfl
    have f_p2 := blkC p_k 2 rfl
    go_wp2_with fail
    clear f_c0 f_c1 f_p0 f_p1 f_p2
    generalize (y16.alloc (.cells #[.bool u_g, .slice u_o u_n u_c, .int .i64 u_e] 26)) = x17 at s_k x_k t_k y_k p_k r_k c_k m_k q_k u_k x_D y_D p_D r_D u_D H hb ⊢
    refine (T0.out _ _ _ _ _ _ p_D H).mono ?_
    rintro _ y18 ⟨rfl, hw⟩
    have s_k := blk_up hw s_k
    have x_k := blk_up hw x_k
    have t_k := blk_up hw t_k
    have y_k := blk_up hw y_k
    have p_k := blk_up hw p_k
    have r_k := blk_up hw r_k
    have c_k := blk_up hw c_k
    have m_k := blk_up hw m_k
    have q_k := blk_up hw q_k
    have u_k := blk_up hw u_k
    have x_D := x_D.keeps hw
    have y_D := y_D.keeps hw
    have p_D := p_D.keeps hw
    have r_D := r_D.keeps hw
    have u_D := u_D.keeps hw
    have H := H.keeps hw
    have hb := bel_trans hb hw
    have f_m0 := blkC m_k 0 rfl
    have f_m1 := blkC m_k 1 rfl
    have f_r0 := blkC r_k 0 rfl
    have f_r1 := blkC r_k 1 rfl
    have f_r2 := blkC r_k 2 rfl
    go_wp2_with fail
    clear f_m0 f_m1 f_r0 f_r1 f_r2
    refine (T1.out _ _ _ _ _ _ r_D H).mono ?_
    rintro _ y19 ⟨rfl, hw⟩
    have s_k := blk_up hw s_k
    have x_k := blk_up hw x_k
    have t_k := blk_up hw t_k
    have y_k := blk_up hw y_k
    have p_k := blk_up hw p_k
    have r_k := blk_up hw r_k
    have c_k := blk_up hw c_k
    have m_k := blk_up hw m_k
    have q_k := blk_up hw q_k
    have u_k := blk_up hw u_k
    have x_D := x_D.keeps hw
    have y_D := y_D.keeps hw
    have p_D := p_D.keeps hw
    have r_D := r_D.keeps hw
    have u_D := u_D.keeps hw
    have H := H.keeps hw
    have hb := bel_trans hb hw
    have f_q0 := blkC q_k 0 rfl
    have f_q1 := blkC q_k 1 rfl
    have f_u0 := blkC u_k 0 rfl
    have f_u1 := blkC u_k 1 rfl
    have f_u2 := blkC u_k 2 rfl
    go_wp2_with fail
    clear f_q0 f_q1 f_u0 f_u1 f_u2
    refine (T2.out _ _ _ _ _ _ u_D H).mono ?_
    rintro _ y20 ⟨rfl, hw⟩
    have s_k := blk_up hw s_k
    have x_k := blk_up hw x_k
    have t_k := blk_up hw t_k
    have y_k := blk_up hw y_k
    have p_k := blk_up hw p_k
    have r_k := blk_up hw r_k
    have c_k := blk_up hw c_k
    have m_k := blk_up hw m_k
    have q_k := blk_up hw q_k
    have u_k := blk_up hw u_k
    have x_D := x_D.keeps hw
    have y_D := y_D.keeps hw
    have p_D := p_D.keeps hw
    have r_D := r_D.keeps hw
    have u_D := u_D.keeps hw
    have H := H.keeps hw
    have hb := bel_trans hb hw
    go_wp2
    all_goals go_ret
    all_goals exact ⟨rfl, hb⟩
theorem own : ownKnob Tryz.prog.godebug = none := by kernel_rfl
theorem laidOut : laidOutB Tryz.prog = true := by kernel_rfl
theorem door_met (os : Os) (args : Array Value) : laidMetH Tryz.prog Rows.spanTightRow.laid ((World.doorLaid Tryz.prog 400 os).forCall (fun _ _ => 0) ⟨#[], args, []⟩).memory :=
  laidMetH_of_parts3 (fuel := 8) (laidMet_of_run' 8 (by kernel_rfl) (by kernel_rfl)) (by kernel_rfl) (by kernel_rfl)
set_option maxRecDepth 100000 in
theorem lifted (os : Os) (started : os.Started) (H : Type) (enc : TypeId × Value → H) :
    ReturnsInHanded {} Tryz.checked os 4 .any (fun w args => (Rows.spanTightSpec.pre enc Tryz.prog Tryz.f4 [] false w args ∧ laidMetH Tryz.prog Rows.spanTightRow.laid w) ∧ sizedMet enc Tryz.prog Tryz.f4 (OpenSpec.ofChange Rows.spanTightSpec) false w args)
      (Rows.spanTightSpec.post enc Tryz.prog Tryz.f4 false true false false) := by
  refine returnsInHanded_of_change_and (C := Tryz.checked) (X := fun w _ => laidMetH Tryz.prog Rows.spanTightRow.laid w) (fun _ _ _ hh h => h.of_heap hh) own started (by kernel_rfl) Tryz.func4
    (ChangeSpec.witness_shaped (enc := enc) (C := Tryz.checked) (os := os) (X := fun w _ => laidMetH Tryz.prog Rows.spanTightRow.laid w) false (World.doorLaid Tryz.prog 400 os) #[.int .i64 0, .int .i64 0] 8 rfl (World.shaped_of_RefB (by kernel_rfl) (by kernel_rfl)) (by kernel_rfl) (by kernel_rfl) (by kernel_rfl) (door_met os _)) ?_
  intro W base args ds gs before hval0 hW _ _ hL _
  have hval : ∀ (j : Nat) t v, Tryz.f4.params[j]? = some t → args[j]? = some v → Value.okWide Tryz.prog W .any base t v := hval0
  have hW' := hW
  obtain ⟨p, q, hA0, hV, rfl, hfz, hnd⟩ := hW
  have hA : DataW.TrodAll enc Tryz.prog W 0 (fun _ => true) true Tryz.f4.params.toList args.toList ds p := hA0
  rw [Tryz.params4] at hA hval
  obtain ⟨v0, vs0, d0, ds0, p0, q0, hargs, rfl, rfl, h0, r0⟩ := trodAll_cons hA
  obtain ⟨v1, vs1, d1, ds1, p1, q1, rfl, rfl, rfl, h1, r1⟩ := trodAll_cons r0
  obtain ⟨rfl, rfl, rfl⟩ := trodAll_nil r1
  obtain rfl : args = #[v0, v1] := by cases args; simp_all
  obtain ⟨rfl, rfl⟩ := trodVars_none hV
  obtain ⟨a0, rfl, rfl, rfl, w0⟩ := open_int Tryz.underlying3 (hval 0 3 v0 rfl rfl) h0
  obtain ⟨a1, rfl, rfl, rfl, w1⟩ := open_int Tryz.underlying3 (hval 1 3 v1 rfl rfl) h1
  clear hA0 hval0
  refine (walk a0 a1 W (rng_of w0) (rng_of w1) (hold9_of hL)).mono fun e W' ⟨he, bel⟩ => ?_
  subst he
  exact ⟨_, rfl, _, _, _, [], _, [], hW', trodAll_mk1 (shut_bool Tryz.underlying4 _), (trodAll_cons_mk (shut_int Tryz.underlying3 w0) (trodAll_cons_mk (shut_int Tryz.underlying3 w1) trodAll_mk0)), rfl, bel.frame _, fun h => by cases h⟩
theorem said : Rows.SpanTightSaid :=
  OpenClaim.holds_of_wide 4 Tryz.f4 rfl rfl rfl rfl rfl rfl rfl ⟨rfl, rfl, rfl, rfl, rfl⟩ rfl rfl rfl rfl rfl (by kernel_rfl) Tryz.func4 (by kernel_rfl)
    (of_decide_eq_true (by kernel_rfl)) (by unfold Func.isWrapper; first | (rw [if_pos (by decide +kernel)]; kernel_rfl) | (rw [if_neg (by decide +kernel)]; exact ⟨rfl, rfl⟩))
    (fun os started H enc _ => lifted os started H enc)
theorem plain (f : FuncId) (fn : Func) (hf : Tryz.pinned.checked.prog.funcNamed Tryz.f4.name = some f) (hfn : Tryz.pinned.checked.prog.funcs[f]? = some fn) :
    true = Tryz.pinned.checked.prog.looks [] ∧ ∀ (j : Nat) t, fn.params[j]? = some t → Tryz.pinned.checked.prog.wantsStandIn t = false := by
  obtain rfl : f = 4 := Option.some.inj ((show Tryz.prog.funcNamed Tryz.f4.name = some 4 by kernel_rfl).symm.trans hf) |>.symm
  obtain rfl : fn = Tryz.f4 := (Option.some.inj (Tryz.func4.symm.trans hfn)).symm
  refine ⟨by kernel_rfl, fun j t ht => ?_⟩
  rw [Tryz.params4] at ht
  obtain rfl : t = 3 := by simpa using Array.mem_of_getElem? ht
  exact (show Tryz.prog.wantsStandIn 3 = false by kernel_rfl)
/-- THE CARD. -/
theorem card : Rows.SpanTightCardSaid :=
  Claim7.holds_tied_plain_at .later [] _ _ _ _ said (fun _ h => by cases h) (by kernel_rfl) (fun _ h => by cases h) spanTight_row_tie rfl ⟨rfl, rfl⟩ (by kernel_rfl) rfl plain (by kernel_rfl)
end Go.Proofs.YtmpioejllfedoaaGreatDoor.spanTight
namespace Go.Proofs.YtmpioejllfedoaaGreatDoor
/-- SpanTight: the statement as it is given. -/
theorem spanTight_holds : Rows.SpanTightCardSaid := spanTight.card
end Go.Proofs.YtmpioejllfedoaaGreatDoor
