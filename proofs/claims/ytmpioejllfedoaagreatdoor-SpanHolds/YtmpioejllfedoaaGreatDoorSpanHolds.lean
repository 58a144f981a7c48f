/-
  SpanHolds: for every two patterns and steps the law returns true: of two numbers, and intervals around them, sum, difference, product, square and both signs lie in what is told; where a sign is known it is theirs. As a card: the library's tables and the layouts start as the program's text lays them.
-/
import Derived.Test.YtmpioejllfedoaaGreatDoorPart17
import Derived.Test.YtmpioejllfedoaaGreatDoorPart18
import Derived.Test.YtmpioejllfedoaaGreatDoorPart19
import Derived.Test.YtmpioejllfedoaaGreatDoorCards
import Derived.Test.YtmpioejllfedoaaGreatDoorTie
namespace Go.Proofs.YtmpioejllfedoaaGreatDoor.spanHolds
open Go Go.ChangeShapes Go.WideShapes Go.ChangeAt Go.RowKit Go.Proofs.YtmpioejllfedoaaGreatDoor Go.Proofs.YtmpioejllfedoaaGreatDoor.M
set_option linter.unusedSimpArgs false
set_option linter.unusedVariables false

theorem hold9_of {W : World} (h : laidMetH Tryz.prog [("math/bits.deBruijn32tab", Rows.laid_math_bits_deBruijn32tab), ("math/bits.deBruijn64tab", Rows.laid_math_bits_deBruijn64tab), ("plumb/bits.binary64", Rows.laid_plumb_bits_binary64)] W) : Hold4 W := by
  have k := hold_of h
  exact ⟨k.lay, k.tab, ⟨⟨k.lay.a0, k.lay.a1, k.lay.a2, trivial, trivial, trivial⟩, k.tab⟩⟩
theorem shr_rng {x : Int} (h : rng x) : rng (x / 8) := by
  unfold rng at *
  omega
set_option maxRecDepth 100000 in
set_option maxHeartbeats 4000000 in
theorem walk (a b x y : Int) (w : World) (ra : rng a) (rb : rng b) (rx : rng x) (ry : rng y) (H : Hold4 w) :
    Calls Tryz.prog 3 #[.int .i64 a, .int .i64 b, .int .i64 x, .int .i64 y] w fun e w' => e = .returned (.bool true) ∧ Below w.heap.size w w' := by
  have CL : Hid (∀ W, Hold4 W → Calls Tryz.prog 6 #[] W fun e w' => e = .returned (.bool true) ∧ Below W.heap.size W w') := fun W h => alive8 W h.env.lays
  rcases pa : pok a with _ | _ <;> rcases pb : pok b with _ | _
  · have Ca : Hid (∀ W, Hold4 W → _) := fun W h => around_none ra pa rx ry W h
    have Cb : Hid (∀ W, Hold4 W → _) := fun W h => around_none rb pb ry (shr_rng rx) W h
    have hb := bel_refl w
    go_enter Tryz.func3, Tryz.ntmps3
    go_wp2_with fail
    refine (Ca.out _ H).mono ?_
    rintro _ y1 ⟨s0, s1, rfl, hw⟩
    have H := H.keeps hw
    have hb := bel_trans hb hw
    have s_k := heap_a1 y1 (.cells #[.int .i64 s0, .int .i64 s1] 23)
    have H := H.keeps (bel_alloc y1 (.cells #[.int .i64 s0, .int .i64 s1] 23))
    have hb := bel_trans hb (bel_alloc y1 (.cells #[.int .i64 s0, .int .i64 s1] 23))
    have s_k := heap_past (.cells #[.bool false, .slice none 0 0, .int .i64 0] 26) s_k
    have nx_k := heap_b2 y1 (.cells #[.int .i64 s0, .int .i64 s1] 23) (.cells #[.bool false, .slice none 0 0, .int .i64 0] 26)
    have H := H.keeps (bel_alloc (y1.alloc (.cells #[.int .i64 s0, .int .i64 s1] 23)) (.cells #[.bool false, .slice none 0 0, .int .i64 0] 26))
    have hb := bel_trans hb (bel_alloc (y1.alloc (.cells #[.int .i64 s0, .int .i64 s1] 23)) (.cells #[.bool false, .slice none 0 0, .int .i64 0] 26))
    go_wp2_with fail
    generalize ((y1.alloc (.cells #[.int .i64 s0, .int .i64 s1] 23)).alloc (.cells #[.bool false, .slice none 0 0, .int .i64 0] 26)) = x2 at s_k nx_k H hb ⊢
    refine (Cb.out _ H).mono ?_
    rintro _ y3 ⟨t0, t1, rfl, hw⟩
    have s_k := blk_up hw s_k
    have nx_k := blk_up hw nx_k
    have H := H.keeps hw
    have hb := bel_trans hb hw
    have s_k := heap_past (.cells #[.int .i64 t0, .int .i64 t1] 23) s_k
    have nx_k := heap_past (.cells #[.int .i64 t0, .int .i64 t1] 23) nx_k
    have t_k := heap_a1 y3 (.cells #[.int .i64 t0, .int .i64 t1] 23)
    have H := H.keeps (bel_alloc y3 (.cells #[.int .i64 t0, .int .i64 t1] 23))
    have hb := bel_trans hb (bel_alloc y3 (.cells #[.int .i64 t0, .int .i64 t1] 23))
    have s_k := heap_past (.cells #[.bool false, .slice none 0 0, .int .i64 0] 26) s_k
    have nx_k := heap_past (.cells #[.bool false, .slice none 0 0, .int .i64 0] 26) nx_k
    have t_k := heap_past (.cells #[.bool false, .slice none 0 0, .int .i64 0] 26) t_k
    have ny_k := heap_b2 y3 (.cells #[.int .i64 t0, .int .i64 t1] 23) (.cells #[.bool false, .slice none 0 0, .int .i64 0] 26)
    have H := H.keeps (bel_alloc (y3.alloc (.cells #[.int .i64 t0, .int .i64 t1] 23)) (.cells #[.bool false, .slice none 0 0, .int .i64 0] 26))
    have hb := bel_trans hb (bel_alloc (y3.alloc (.cells #[.int .i64 t0, .int .i64 t1] 23)) (.cells #[.bool false, .slice none 0 0, .int .i64 0] 26))
    go_wp2_with fail
    generalize ((y3.alloc (.cells #[.int .i64 t0, .int .i64 t1] 23)).alloc (.cells #[.bool false, .slice none 0 0, .int .i64 0] 26)) = x4 at s_k nx_k t_k ny_k H hb ⊢
    refine (CL.out _ H).mono ?_
    rintro _ y5 ⟨rfl, hw⟩
    have s_k := blk_up hw s_k
    have nx_k := blk_up hw nx_k
    have t_k := blk_up hw t_k
    have ny_k := blk_up hw ny_k
    have H := H.keeps hw
    have hb := bel_trans hb hw
    go_wp2_with fail
    refine (CL.out _ H).mono ?_
    rintro _ y6 ⟨rfl, hw⟩
    have s_k := blk_up hw s_k
    have nx_k := blk_up hw nx_k
    have t_k := blk_up hw t_k
    have ny_k := blk_up hw ny_k
    have H := H.keeps hw
    have hb := bel_trans hb hw
    go_wp2
    all_goals go_ret
    all_goals exact ⟨rfl, hb⟩
  · have Ca : Hid (∀ W, Hold4 W → _) := fun W h => around_none ra pa rx ry W h
    have Cb : Hid (∀ W, Hold4 W → _) := fun W h => around_steps rb pb ry (shr_rng rx) W h
    have hb := bel_refl w
    go_enter Tryz.func3, Tryz.ntmps3
    go_wp2_with fail
    refine (Ca.out _ H).mono ?_
    rintro _ y1 ⟨s0, s1, rfl, hw⟩
    have H := H.keeps hw
    have hb := bel_trans hb hw
    have s_k := heap_a1 y1 (.cells #[.int .i64 s0, .int .i64 s1] 23)
    have H := H.keeps (bel_alloc y1 (.cells #[.int .i64 s0, .int .i64 s1] 23))
    have hb := bel_trans hb (bel_alloc y1 (.cells #[.int .i64 s0, .int .i64 s1] 23))
    have s_k := heap_past (.cells #[.bool false, .slice none 0 0, .int .i64 0] 26) s_k
    have nx_k := heap_b2 y1 (.cells #[.int .i64 s0, .int .i64 s1] 23) (.cells #[.bool false, .slice none 0 0, .int .i64 0] 26)
    have H := H.keeps (bel_alloc (y1.alloc (.cells #[.int .i64 s0, .int .i64 s1] 23)) (.cells #[.bool false, .slice none 0 0, .int .i64 0] 26))
    have hb := bel_trans hb (bel_alloc (y1.alloc (.cells #[.int .i64 s0, .int .i64 s1] 23)) (.cells #[.bool false, .slice none 0 0, .int .i64 0] 26))
    go_wp2_with fail
    generalize ((y1.alloc (.cells #[.int .i64 s0, .int .i64 s1] 23)).alloc (.cells #[.bool false, .slice none 0 0, .int .i64 0] 26)) = x2 at s_k nx_k H hb ⊢
    refine (Cb.out _ H).mono ?_
    rintro _ y3 ⟨t0, t1, v, rfl, ht0, ht1, ny_D', ⟨ny_g, ny_o, ny_n, ny_c, ny_e, rfl⟩, hw⟩
    have s_k := blk_up hw s_k
    have nx_k := blk_up hw nx_k
    have H := H.keeps hw
    have hb := bel_trans hb hw
    have ny_D := ny_D'
    have s_k := heap_past (.cells #[.int .i64 t0, .int .i64 t1] 23) s_k
    have nx_k := heap_past (.cells #[.int .i64 t0, .int .i64 t1] 23) nx_k
    have t_k := heap_a1 y3 (.cells #[.int .i64 t0, .int .i64 t1] 23)
    have ny_D := ny_D.keeps (bel_alloc y3 (.cells #[.int .i64 t0, .int .i64 t1] 23))
    have H := H.keeps (bel_alloc y3 (.cells #[.int .i64 t0, .int .i64 t1] 23))
    have hb := bel_trans hb (bel_alloc y3 (.cells #[.int .i64 t0, .int .i64 t1] 23))
    have s_k := heap_past (.cells #[.bool ny_g, .slice ny_o ny_n ny_c, .int .i64 ny_e] 26) s_k
    have nx_k := heap_past (.cells #[.bool ny_g, .slice ny_o ny_n ny_c, .int .i64 ny_e] 26) nx_k
    have t_k := heap_past (.cells #[.bool ny_g, .slice ny_o ny_n ny_c, .int .i64 ny_e] 26) t_k
    have ny_k := heap_b2 y3 (.cells #[.int .i64 t0, .int .i64 t1] 23) (.cells #[.bool ny_g, .slice ny_o ny_n ny_c, .int .i64 ny_e] 26)
    have ny_D := ny_D.keeps (bel_alloc (y3.alloc (.cells #[.int .i64 t0, .int .i64 t1] 23)) (.cells #[.bool ny_g, .slice ny_o ny_n ny_c, .int .i64 ny_e] 26))
    have H := H.keeps (bel_alloc (y3.alloc (.cells #[.int .i64 t0, .int .i64 t1] 23)) (.cells #[.bool ny_g, .slice ny_o ny_n ny_c, .int .i64 ny_e] 26))
    have hb := bel_trans hb (bel_alloc (y3.alloc (.cells #[.int .i64 t0, .int .i64 t1] 23)) (.cells #[.bool ny_g, .slice ny_o ny_n ny_c, .int .i64 ny_e] 26))
    go_wp2_with fail
    generalize ((y3.alloc (.cells #[.int .i64 t0, .int .i64 t1] 23)).alloc (.cells #[.bool ny_g, .slice ny_o ny_n ny_c, .int .i64 ny_e] 26)) = x4 at s_k nx_k t_k ny_k ny_D H hb ⊢
    refine (CL.out _ H).mono ?_
    rintro _ y5 ⟨rfl, hw⟩
    have s_k := blk_up hw s_k
    have nx_k := blk_up hw nx_k
    have t_k := blk_up hw t_k
    have ny_k := blk_up hw ny_k
    have ny_D := ny_D.keeps hw
    have H := H.keeps hw
    have hb := bel_trans hb hw
    go_wp2_with fail
    refine (CL.out _ H).mono ?_
    rintro _ y6 ⟨rfl, hw⟩
    have s_k := blk_up hw s_k
    have nx_k := blk_up hw nx_k
    have t_k := blk_up hw t_k
    have ny_k := blk_up hw ny_k
    have ny_D := ny_D.keeps hw
    have H := H.keeps hw
    have hb := bel_trans hb hw
    go_wp2
    all_goals go_ret
    all_goals exact ⟨rfl, hb⟩
  · have Ca : Hid (∀ W, Hold4 W → _) := fun W h => around_steps ra pa rx ry W h
    have Cb : Hid (∀ W, Hold4 W → _) := fun W h => around_none rb pb ry (shr_rng rx) W h
    have hb := bel_refl w
    go_enter Tryz.func3, Tryz.ntmps3
    go_wp2_with fail
    refine (Ca.out _ H).mono ?_
    rintro _ y1 ⟨s0, s1, v, rfl, hs0, hs1, nx_D', ⟨nx_g, nx_o, nx_n, nx_c, nx_e, rfl⟩, hw⟩
    have H := H.keeps hw
    have hb := bel_trans hb hw
    have nx_D := nx_D'
    have s_k := heap_a1 y1 (.cells #[.int .i64 s0, .int .i64 s1] 23)
    have nx_D := nx_D.keeps (bel_alloc y1 (.cells #[.int .i64 s0, .int .i64 s1] 23))
    have H := H.keeps (bel_alloc y1 (.cells #[.int .i64 s0, .int .i64 s1] 23))
    have hb := bel_trans hb (bel_alloc y1 (.cells #[.int .i64 s0, .int .i64 s1] 23))
    have s_k := heap_past (.cells #[.bool nx_g, .slice nx_o nx_n nx_c, .int .i64 nx_e] 26) s_k
    have nx_k := heap_b2 y1 (.cells #[.int .i64 s0, .int .i64 s1] 23) (.cells #[.bool nx_g, .slice nx_o nx_n nx_c, .int .i64 nx_e] 26)
    have nx_D := nx_D.keeps (bel_alloc (y1.alloc (.cells #[.int .i64 s0, .int .i64 s1] 23)) (.cells #[.bool nx_g, .slice nx_o nx_n nx_c, .int .i64 nx_e] 26))
    have H := H.keeps (bel_alloc (y1.alloc (.cells #[.int .i64 s0, .int .i64 s1] 23)) (.cells #[.bool nx_g, .slice nx_o nx_n nx_c, .int .i64 nx_e] 26))
    have hb := bel_trans hb (bel_alloc (y1.alloc (.cells #[.int .i64 s0, .int .i64 s1] 23)) (.cells #[.bool nx_g, .slice nx_o nx_n nx_c, .int .i64 nx_e] 26))
    go_wp2_with fail
    generalize ((y1.alloc (.cells #[.int .i64 s0, .int .i64 s1] 23)).alloc (.cells #[.bool nx_g, .slice nx_o nx_n nx_c, .int .i64 nx_e] 26)) = x2 at s_k nx_k nx_D H hb ⊢
    refine (Cb.out _ H).mono ?_
    rintro _ y3 ⟨t0, t1, rfl, hw⟩
    have s_k := blk_up hw s_k
    have nx_k := blk_up hw nx_k
    have nx_D := nx_D.keeps hw
    have H := H.keeps hw
    have hb := bel_trans hb hw
    have s_k := heap_past (.cells #[.int .i64 t0, .int .i64 t1] 23) s_k
    have nx_k := heap_past (.cells #[.int .i64 t0, .int .i64 t1] 23) nx_k
    have t_k := heap_a1 y3 (.cells #[.int .i64 t0, .int .i64 t1] 23)
    have nx_D := nx_D.keeps (bel_alloc y3 (.cells #[.int .i64 t0, .int .i64 t1] 23))
    have H := H.keeps (bel_alloc y3 (.cells #[.int .i64 t0, .int .i64 t1] 23))
    have hb := bel_trans hb (bel_alloc y3 (.cells #[.int .i64 t0, .int .i64 t1] 23))
    have s_k := heap_past (.cells #[.bool false, .slice none 0 0, .int .i64 0] 26) s_k
    have nx_k := heap_past (.cells #[.bool false, .slice none 0 0, .int .i64 0] 26) nx_k
    have t_k := heap_past (.cells #[.bool false, .slice none 0 0, .int .i64 0] 26) t_k
    have ny_k := heap_b2 y3 (.cells #[.int .i64 t0, .int .i64 t1] 23) (.cells #[.bool false, .slice none 0 0, .int .i64 0] 26)
    have nx_D := nx_D.keeps (bel_alloc (y3.alloc (.cells #[.int .i64 t0, .int .i64 t1] 23)) (.cells #[.bool false, .slice none 0 0, .int .i64 0] 26))
    have H := H.keeps (bel_alloc (y3.alloc (.cells #[.int .i64 t0, .int .i64 t1] 23)) (.cells #[.bool false, .slice none 0 0, .int .i64 0] 26))
    have hb := bel_trans hb (bel_alloc (y3.alloc (.cells #[.int .i64 t0, .int .i64 t1] 23)) (.cells #[.bool false, .slice none 0 0, .int .i64 0] 26))
    go_wp2_with fail
    generalize ((y3.alloc (.cells #[.int .i64 t0, .int .i64 t1] 23)).alloc (.cells #[.bool false, .slice none 0 0, .int .i64 0] 26)) = x4 at s_k nx_k t_k ny_k nx_D H hb ⊢
    refine (CL.out _ H).mono ?_
    rintro _ y5 ⟨rfl, hw⟩
    have s_k := blk_up hw s_k
    have nx_k := blk_up hw nx_k
    have t_k := blk_up hw t_k
    have ny_k := blk_up hw ny_k
    have nx_D := nx_D.keeps hw
    have H := H.keeps hw
    have hb := bel_trans hb hw
    go_wp2_with fail
    refine (CL.out _ H).mono ?_
    rintro _ y6 ⟨rfl, hw⟩
    have s_k := blk_up hw s_k
    have nx_k := blk_up hw nx_k
    have t_k := blk_up hw t_k
    have ny_k := blk_up hw ny_k
    have nx_D := nx_D.keeps hw
    have H := H.keeps hw
    have hb := bel_trans hb hw
    go_wp2
    all_goals go_ret
    all_goals exact ⟨rfl, hb⟩
  · have Ca : Hid (∀ W, Hold4 W → _) := fun W h => around_steps ra pa rx ry W h
    have Cb : Hid (∀ W, Hold4 W → _) := fun W h => around_steps rb pb ry (shr_rng rx) W h
    have hb := bel_refl w
    go_enter Tryz.func3, Tryz.ntmps3
    go_wp2_with fail
    refine (Ca.out _ H).mono ?_
    rintro _ y1 ⟨s0, s1, v, rfl, hs0, hs1, nx_D', ⟨nx_g, nx_o, nx_n, nx_c, nx_e, rfl⟩, hw⟩
    have H := H.keeps hw
    have hb := bel_trans hb hw
    have nx_D := nx_D'
    have s_k := heap_a1 y1 (.cells #[.int .i64 s0, .int .i64 s1] 23)
    have nx_D := nx_D.keeps (bel_alloc y1 (.cells #[.int .i64 s0, .int .i64 s1] 23))
    have H := H.keeps (bel_alloc y1 (.cells #[.int .i64 s0, .int .i64 s1] 23))
    have hb := bel_trans hb (bel_alloc y1 (.cells #[.int .i64 s0, .int .i64 s1] 23))
    have s_k := heap_past (.cells #[.bool nx_g, .slice nx_o nx_n nx_c, .int .i64 nx_e] 26) s_k
    have nx_k := heap_b2 y1 (.cells #[.int .i64 s0, .int .i64 s1] 23) (.cells #[.bool nx_g, .slice nx_o nx_n nx_c, .int .i64 nx_e] 26)
    have nx_D := nx_D.keeps (bel_alloc (y1.alloc (.cells #[.int .i64 s0, .int .i64 s1] 23)) (.cells #[.bool nx_g, .slice nx_o nx_n nx_c, .int .i64 nx_e] 26))
    have H := H.keeps (bel_alloc (y1.alloc (.cells #[.int .i64 s0, .int .i64 s1] 23)) (.cells #[.bool nx_g, .slice nx_o nx_n nx_c, .int .i64 nx_e] 26))
    have hb := bel_trans hb (bel_alloc (y1.alloc (.cells #[.int .i64 s0, .int .i64 s1] 23)) (.cells #[.bool nx_g, .slice nx_o nx_n nx_c, .int .i64 nx_e] 26))
    go_wp2_with fail
    generalize ((y1.alloc (.cells #[.int .i64 s0, .int .i64 s1] 23)).alloc (.cells #[.bool nx_g, .slice nx_o nx_n nx_c, .int .i64 nx_e] 26)) = x2 at s_k nx_k nx_D H hb ⊢
    refine (Cb.out _ H).mono ?_
    rintro _ y3 ⟨t0, t1, v, rfl, ht0, ht1, ny_D', ⟨ny_g, ny_o, ny_n, ny_c, ny_e, rfl⟩, hw⟩
    have s_k := blk_up hw s_k
    have nx_k := blk_up hw nx_k
    have nx_D := nx_D.keeps hw
    have H := H.keeps hw
    have hb := bel_trans hb hw
    have ny_D := ny_D'
    have s_k := heap_past (.cells #[.int .i64 t0, .int .i64 t1] 23) s_k
    have nx_k := heap_past (.cells #[.int .i64 t0, .int .i64 t1] 23) nx_k
    have t_k := heap_a1 y3 (.cells #[.int .i64 t0, .int .i64 t1] 23)
    have nx_D := nx_D.keeps (bel_alloc y3 (.cells #[.int .i64 t0, .int .i64 t1] 23))
    have ny_D := ny_D.keeps (bel_alloc y3 (.cells #[.int .i64 t0, .int .i64 t1] 23))
    have H := H.keeps (bel_alloc y3 (.cells #[.int .i64 t0, .int .i64 t1] 23))
    have hb := bel_trans hb (bel_alloc y3 (.cells #[.int .i64 t0, .int .i64 t1] 23))
    have s_k := heap_past (.cells #[.bool ny_g, .slice ny_o ny_n ny_c, .int .i64 ny_e] 26) s_k
    have nx_k := heap_past (.cells #[.bool ny_g, .slice ny_o ny_n ny_c, .int .i64 ny_e] 26) nx_k
    have t_k := heap_past (.cells #[.bool ny_g, .slice ny_o ny_n ny_c, .int .i64 ny_e] 26) t_k
    have ny_k := heap_b2 y3 (.cells #[.int .i64 t0, .int .i64 t1] 23) (.cells #[.bool ny_g, .slice ny_o ny_n ny_c, .int .i64 ny_e] 26)
    have nx_D := nx_D.keeps (bel_alloc (y3.alloc (.cells #[.int .i64 t0, .int .i64 t1] 23)) (.cells #[.bool ny_g, .slice ny_o ny_n ny_c, .int .i64 ny_e] 26))
    have ny_D := ny_D.keeps (bel_alloc (y3.alloc (.cells #[.int .i64 t0, .int .i64 t1] 23)) (.cells #[.bool ny_g, .slice ny_o ny_n ny_c, .int .i64 ny_e] 26))
    have H := H.keeps (bel_alloc (y3.alloc (.cells #[.int .i64 t0, .int .i64 t1] 23)) (.cells #[.bool ny_g, .slice ny_o ny_n ny_c, .int .i64 ny_e] 26))
    have hb := bel_trans hb (bel_alloc (y3.alloc (.cells #[.int .i64 t0, .int .i64 t1] 23)) (.cells #[.bool ny_g, .slice ny_o ny_n ny_c, .int .i64 ny_e] 26))
    go_wp2_with fail
    generalize ((y3.alloc (.cells #[.int .i64 t0, .int .i64 t1] 23)).alloc (.cells #[.bool ny_g, .slice ny_o ny_n ny_c, .int .i64 ny_e] 26)) = x4 at s_k nx_k t_k ny_k nx_D ny_D H hb ⊢
    refine (CL.out _ H).mono ?_
    rintro _ y5 ⟨rfl, hw⟩
    have s_k := blk_up hw s_k
    have nx_k := blk_up hw nx_k
    have t_k := blk_up hw t_k
    have ny_k := blk_up hw ny_k
    have nx_D := nx_D.keeps hw
    have ny_D := ny_D.keeps hw
    have H := H.keeps hw
    have hb := bel_trans hb hw
    have S := Pin2.of ra pa hs0 hs1
    have T := Pin2.of rb pb ht0 ht1
    have a_B := patV_bd pa
    have b_B := patV_bd pb
    obtain ⟨c0, c1, Cc, Oc⟩ := add_has S T
    obtain ⟨d0, d1, Cd, Od⟩ := sub_has S T
    obtain ⟨m0, m1, Cm, Om⟩ := mul_has S T
    obtain ⟨q0, q1, Cq, Oq⟩ := sq_has S
    obtain ⟨n0, n1, Cn, On⟩ := neg_has S
    obtain ⟨j0, j1, Cj, Ox, Oy⟩ := join_has S T
    have SX := S.h.keysP S.lo S.hi
    have f_nx0 := blkC nx_k 0 rfl
    have f_nx1 := blkC nx_k 1 rfl
    have f_nx2 := blkC nx_k 2 rfl
    have f_ny0 := blkC ny_k 0 rfl
    have f_ny1 := blkC ny_k 1 rfl
    have f_ny2 := blkC ny_k 2 rfl
    go_wp2_with fail
    clear f_nx0 f_nx1 f_nx2 f_ny0 f_ny1 f_ny2
    refine (add_B nx_D ny_D a_B b_B (by omega) H.tab).mono ?_
    rintro _ y6 ⟨v, rfl, hD⟩
    obtain ⟨ep_g, ep_o, ep_n, ep_c, ep_e, rfl⟩ := dans_shape hD
    have hw := hD.below
    have ep_D := hD.num
    have s_k := blk_up hw s_k
    have nx_k := blk_up hw nx_k
    have t_k := blk_up hw t_k
    have ny_k := blk_up hw ny_k
    have nx_D := nx_D.keeps hw
    have ny_D := ny_D.keeps hw
    have H := H.keeps hw
    have hb := bel_trans hb hw
    have s_k := heap_past (.cells #[.bool ep_g, .slice ep_o ep_n ep_c, .int .i64 ep_e] 26) s_k
    have nx_k := heap_past (.cells #[.bool ep_g, .slice ep_o ep_n ep_c, .int .i64 ep_e] 26) nx_k
    have t_k := heap_past (.cells #[.bool ep_g, .slice ep_o ep_n ep_c, .int .i64 ep_e] 26) t_k
    have ny_k := heap_past (.cells #[.bool ep_g, .slice ep_o ep_n ep_c, .int .i64 ep_e] 26) ny_k
    have ep_k := heap_a1 y6 (.cells #[.bool ep_g, .slice ep_o ep_n ep_c, .int .i64 ep_e] 26)
    have nx_D := nx_D.keeps (bel_alloc y6 (.cells #[.bool ep_g, .slice ep_o ep_n ep_c, .int .i64 ep_e] 26))
    have ny_D := ny_D.keeps (bel_alloc y6 (.cells #[.bool ep_g, .slice ep_o ep_n ep_c, .int .i64 ep_e] 26))
    have ep_D := ep_D.keeps (bel_alloc y6 (.cells #[.bool ep_g, .slice ep_o ep_n ep_c, .int .i64 ep_e] 26))
    have H := H.keeps (bel_alloc y6 (.cells #[.bool ep_g, .slice ep_o ep_n ep_c, .int .i64 ep_e] 26))
    have hb := bel_trans hb (bel_alloc y6 (.cells #[.bool ep_g, .slice ep_o ep_n ep_c, .int .i64 ep_e] 26))
    have f_nx0 := blkC nx_k 0 rfl
    have f_nx1 := blkC nx_k 1 rfl
    have f_nx2 := blkC nx_k 2 rfl
    have f_ny0 := blkC ny_k 0 rfl
    have f_ny1 := blkC ny_k 1 rfl
    have f_ny2 := blkC ny_k 2 rfl
    go_wp2_with fail
    clear f_nx0 f_nx1 f_nx2 f_ny0 f_ny1 f_ny2
    generalize (y6.alloc (.cells #[.bool ep_g, .slice ep_o ep_n ep_c, .int .i64 ep_e] 26)) = x7 at s_k nx_k t_k ny_k ep_k nx_D ny_D ep_D H hb ⊢
    refine (sub_B nx_D ny_D a_B b_B (by omega) H.tab).mono ?_
    rintro _ y8 ⟨v, rfl, hD⟩
    obtain ⟨eq_g, eq_o, eq_n, eq_c, eq_e, rfl⟩ := dans_shape hD
    have hw := hD.below
    have eq_D := hD.num
    have s_k := blk_up hw s_k
    have nx_k := blk_up hw nx_k
    have t_k := blk_up hw t_k
    have ny_k := blk_up hw ny_k
    have ep_k := blk_up hw ep_k
    have nx_D := nx_D.keeps hw
    have ny_D := ny_D.keeps hw
    have ep_D := ep_D.keeps hw
    have H := H.keeps hw
    have hb := bel_trans hb hw
    have s_k := heap_past (.cells #[.bool eq_g, .slice eq_o eq_n eq_c, .int .i64 eq_e] 26) s_k
    have nx_k := heap_past (.cells #[.bool eq_g, .slice eq_o eq_n eq_c, .int .i64 eq_e] 26) nx_k
    have t_k := heap_past (.cells #[.bool eq_g, .slice eq_o eq_n eq_c, .int .i64 eq_e] 26) t_k
    have ny_k := heap_past (.cells #[.bool eq_g, .slice eq_o eq_n eq_c, .int .i64 eq_e] 26) ny_k
    have ep_k := heap_past (.cells #[.bool eq_g, .slice eq_o eq_n eq_c, .int .i64 eq_e] 26) ep_k
    have eq_k := heap_a1 y8 (.cells #[.bool eq_g, .slice eq_o eq_n eq_c, .int .i64 eq_e] 26)
    have nx_D := nx_D.keeps (bel_alloc y8 (.cells #[.bool eq_g, .slice eq_o eq_n eq_c, .int .i64 eq_e] 26))
    have ny_D := ny_D.keeps (bel_alloc y8 (.cells #[.bool eq_g, .slice eq_o eq_n eq_c, .int .i64 eq_e] 26))
    have ep_D := ep_D.keeps (bel_alloc y8 (.cells #[.bool eq_g, .slice eq_o eq_n eq_c, .int .i64 eq_e] 26))
    have eq_D := eq_D.keeps (bel_alloc y8 (.cells #[.bool eq_g, .slice eq_o eq_n eq_c, .int .i64 eq_e] 26))
    have H := H.keeps (bel_alloc y8 (.cells #[.bool eq_g, .slice eq_o eq_n eq_c, .int .i64 eq_e] 26))
    have hb := bel_trans hb (bel_alloc y8 (.cells #[.bool eq_g, .slice eq_o eq_n eq_c, .int .i64 eq_e] 26))
    have f_nx0 := blkC nx_k 0 rfl
    have f_nx1 := blkC nx_k 1 rfl
    have f_nx2 := blkC nx_k 2 rfl
    have f_ny0 := blkC ny_k 0 rfl
    have f_ny1 := blkC ny_k 1 rfl
    have f_ny2 := blkC ny_k 2 rfl
    go_wp2_with fail
    clear f_nx0 f_nx1 f_nx2 f_ny0 f_ny1 f_ny2
    generalize (y8.alloc (.cells #[.bool eq_g, .slice eq_o eq_n eq_c, .int .i64 eq_e] 26)) = x9 at s_k nx_k t_k ny_k ep_k eq_k nx_D ny_D ep_D eq_D H hb ⊢
    refine (mul_B nx_D ny_D a_B b_B (by omega) H.tab).mono ?_
    rintro _ y10 ⟨v, r_V, rfl, hD, r_E, r_B⟩
    obtain ⟨er_g, er_o, er_n, er_c, er_e, rfl⟩ := dans_shape hD
    have hw := hD.below
    have er_D := hD.num
    obtain rfl := mulS_of r_E
    clear r_E
    have s_k := blk_up hw s_k
    have nx_k := blk_up hw nx_k
    have t_k := blk_up hw t_k
    have ny_k := blk_up hw ny_k
    have ep_k := blk_up hw ep_k
    have eq_k := blk_up hw eq_k
    have nx_D := nx_D.keeps hw
    have ny_D := ny_D.keeps hw
    have ep_D := ep_D.keeps hw
    have eq_D := eq_D.keeps hw
    have H := H.keeps hw
    have hb := bel_trans hb hw
    have s_k := heap_past (.cells #[.bool er_g, .slice er_o er_n er_c, .int .i64 er_e] 26) s_k
    have nx_k := heap_past (.cells #[.bool er_g, .slice er_o er_n er_c, .int .i64 er_e] 26) nx_k
    have t_k := heap_past (.cells #[.bool er_g, .slice er_o er_n er_c, .int .i64 er_e] 26) t_k
    have ny_k := heap_past (.cells #[.bool er_g, .slice er_o er_n er_c, .int .i64 er_e] 26) ny_k
    have ep_k := heap_past (.cells #[.bool er_g, .slice er_o er_n er_c, .int .i64 er_e] 26) ep_k
    have eq_k := heap_past (.cells #[.bool er_g, .slice er_o er_n er_c, .int .i64 er_e] 26) eq_k
    have er_k := heap_a1 y10 (.cells #[.bool er_g, .slice er_o er_n er_c, .int .i64 er_e] 26)
    have nx_D := nx_D.keeps (bel_alloc y10 (.cells #[.bool er_g, .slice er_o er_n er_c, .int .i64 er_e] 26))
    have ny_D := ny_D.keeps (bel_alloc y10 (.cells #[.bool er_g, .slice er_o er_n er_c, .int .i64 er_e] 26))
    have ep_D := ep_D.keeps (bel_alloc y10 (.cells #[.bool er_g, .slice er_o er_n er_c, .int .i64 er_e] 26))
    have eq_D := eq_D.keeps (bel_alloc y10 (.cells #[.bool er_g, .slice er_o er_n er_c, .int .i64 er_e] 26))
    have er_D := er_D.keeps (bel_alloc y10 (.cells #[.bool er_g, .slice er_o er_n er_c, .int .i64 er_e] 26))
    have H := H.keeps (bel_alloc y10 (.cells #[.bool er_g, .slice er_o er_n er_c, .int .i64 er_e] 26))
    have hb := bel_trans hb (bel_alloc y10 (.cells #[.bool er_g, .slice er_o er_n er_c, .int .i64 er_e] 26))
    have f_nx0 := blkC nx_k 0 rfl
    have f_nx1 := blkC nx_k 1 rfl
    have f_nx2 := blkC nx_k 2 rfl
    go_wp2_with fail
    clear f_nx0 f_nx1 f_nx2
    generalize (y10.alloc (.cells #[.bool er_g, .slice er_o er_n er_c, .int .i64 er_e] 26)) = x11 at s_k nx_k t_k ny_k ep_k eq_k er_k nx_D ny_D ep_D eq_D er_D H hb ⊢
    refine (mul_B nx_D nx_D a_B a_B (by omega) H.tab).mono ?_
    rintro _ y12 ⟨v, u_V, rfl, hD, u_E, u_B⟩
    obtain ⟨eu_g, eu_o, eu_n, eu_c, eu_e, rfl⟩ := dans_shape hD
    have hw := hD.below
    have eu_D := hD.num
    obtain rfl := mulS_of u_E
    clear u_E
    have s_k := blk_up hw s_k
    have nx_k := blk_up hw nx_k
    have t_k := blk_up hw t_k
    have ny_k := blk_up hw ny_k
    have ep_k := blk_up hw ep_k
    have eq_k := blk_up hw eq_k
    have er_k := blk_up hw er_k
    have nx_D := nx_D.keeps hw
    have ny_D := ny_D.keeps hw
    have ep_D := ep_D.keeps hw
    have eq_D := eq_D.keeps hw
    have er_D := er_D.keeps hw
    have H := H.keeps hw
    have hb := bel_trans hb hw
    have s_k := heap_past (.cells #[.bool eu_g, .slice eu_o eu_n eu_c, .int .i64 eu_e] 26) s_k
    have nx_k := heap_past (.cells #[.bool eu_g, .slice eu_o eu_n eu_c, .int .i64 eu_e] 26) nx_k
    have t_k := heap_past (.cells #[.bool eu_g, .slice eu_o eu_n eu_c, .int .i64 eu_e] 26) t_k
    have ny_k := heap_past (.cells #[.bool eu_g, .slice eu_o eu_n eu_c, .int .i64 eu_e] 26) ny_k
    have ep_k := heap_past (.cells #[.bool eu_g, .slice eu_o eu_n eu_c, .int .i64 eu_e] 26) ep_k
    have eq_k := heap_past (.cells #[.bool eu_g, .slice eu_o eu_n eu_c, .int .i64 eu_e] 26) eq_k
    have er_k := heap_past (.cells #[.bool eu_g, .slice eu_o eu_n eu_c, .int .i64 eu_e] 26) er_k
    have eu_k := heap_a1 y12 (.cells #[.bool eu_g, .slice eu_o eu_n eu_c, .int .i64 eu_e] 26)
    have nx_D := nx_D.keeps (bel_alloc y12 (.cells #[.bool eu_g, .slice eu_o eu_n eu_c, .int .i64 eu_e] 26))
    have ny_D := ny_D.keeps (bel_alloc y12 (.cells #[.bool eu_g, .slice eu_o eu_n eu_c, .int .i64 eu_e] 26))
    have ep_D := ep_D.keeps (bel_alloc y12 (.cells #[.bool eu_g, .slice eu_o eu_n eu_c, .int .i64 eu_e] 26))
    have eq_D := eq_D.keeps (bel_alloc y12 (.cells #[.bool eu_g, .slice eu_o eu_n eu_c, .int .i64 eu_e] 26))
    have er_D := er_D.keeps (bel_alloc y12 (.cells #[.bool eu_g, .slice eu_o eu_n eu_c, .int .i64 eu_e] 26))
    have eu_D := eu_D.keeps (bel_alloc y12 (.cells #[.bool eu_g, .slice eu_o eu_n eu_c, .int .i64 eu_e] 26))
    have H := H.keeps (bel_alloc y12 (.cells #[.bool eu_g, .slice eu_o eu_n eu_c, .int .i64 eu_e] 26))
    have hb := bel_trans hb (bel_alloc y12 (.cells #[.bool eu_g, .slice eu_o eu_n eu_c, .int .i64 eu_e] 26))
    have f_nx0 := blkC nx_k 0 rfl
    have f_nx1 := blkC nx_k 1 rfl
    have f_nx2 := blkC nx_k 2 rfl
    go_wp2_with fail
    clear f_nx0 f_nx1 f_nx2
    generalize (y12.alloc (.cells #[.bool eu_g, .slice eu_o eu_n eu_c, .int .i64 eu_e] 26)) = x13 at s_k nx_k t_k ny_k ep_k eq_k er_k eu_k nx_D ny_D ep_D eq_D er_D eu_D H hb ⊢
    refine (neg_D nx_D (a_B.ok (by omega))).mono ?_
    rintro _ y14 ⟨v, rfl, hD⟩
    obtain ⟨ev_g, ev_o, ev_n, ev_c, ev_e, rfl⟩ := dans_shape hD
    have hw := hD.below
    have ev_D := hD.num
    have s_k := blk_up hw s_k
    have nx_k := blk_up hw nx_k
    have t_k := blk_up hw t_k
    have ny_k := blk_up hw ny_k
    have ep_k := blk_up hw ep_k
    have eq_k := blk_up hw eq_k
    have er_k := blk_up hw er_k
    have eu_k := blk_up hw eu_k
    have nx_D := nx_D.keeps hw
    have ny_D := ny_D.keeps hw
    have ep_D := ep_D.keeps hw
    have eq_D := eq_D.keeps hw
    have er_D := er_D.keeps hw
    have eu_D := eu_D.keeps hw
    have H := H.keeps hw
    have hb := bel_trans hb hw
    have s_k := heap_past (.cells #[.bool ev_g, .slice ev_o ev_n ev_c, .int .i64 ev_e] 26) s_k
    have nx_k := heap_past (.cells #[.bool ev_g, .slice ev_o ev_n ev_c, .int .i64 ev_e] 26) nx_k
    have t_k := heap_past (.cells #[.bool ev_g, .slice ev_o ev_n ev_c, .int .i64 ev_e] 26) t_k
    have ny_k := heap_past (.cells #[.bool ev_g, .slice ev_o ev_n ev_c, .int .i64 ev_e] 26) ny_k
    have ep_k := heap_past (.cells #[.bool ev_g, .slice ev_o ev_n ev_c, .int .i64 ev_e] 26) ep_k
    have eq_k := heap_past (.cells #[.bool ev_g, .slice ev_o ev_n ev_c, .int .i64 ev_e] 26) eq_k
    have er_k := heap_past (.cells #[.bool ev_g, .slice ev_o ev_n ev_c, .int .i64 ev_e] 26) er_k
    have eu_k := heap_past (.cells #[.bool ev_g, .slice ev_o ev_n ev_c, .int .i64 ev_e] 26) eu_k
    have ev_k := heap_a1 y14 (.cells #[.bool ev_g, .slice ev_o ev_n ev_c, .int .i64 ev_e] 26)
    have nx_D := nx_D.keeps (bel_alloc y14 (.cells #[.bool ev_g, .slice ev_o ev_n ev_c, .int .i64 ev_e] 26))
    have ny_D := ny_D.keeps (bel_alloc y14 (.cells #[.bool ev_g, .slice ev_o ev_n ev_c, .int .i64 ev_e] 26))
    have ep_D := ep_D.keeps (bel_alloc y14 (.cells #[.bool ev_g, .slice ev_o ev_n ev_c, .int .i64 ev_e] 26))
    have eq_D := eq_D.keeps (bel_alloc y14 (.cells #[.bool ev_g, .slice ev_o ev_n ev_c, .int .i64 ev_e] 26))
    have er_D := er_D.keeps (bel_alloc y14 (.cells #[.bool ev_g, .slice ev_o ev_n ev_c, .int .i64 ev_e] 26))
    have eu_D := eu_D.keeps (bel_alloc y14 (.cells #[.bool ev_g, .slice ev_o ev_n ev_c, .int .i64 ev_e] 26))
    have ev_D := ev_D.keeps (bel_alloc y14 (.cells #[.bool ev_g, .slice ev_o ev_n ev_c, .int .i64 ev_e] 26))
    have H := H.keeps (bel_alloc y14 (.cells #[.bool ev_g, .slice ev_o ev_n ev_c, .int .i64 ev_e] 26))
    have hb := bel_trans hb (bel_alloc y14 (.cells #[.bool ev_g, .slice ev_o ev_n ev_c, .int .i64 ev_e] 26))
    have f_s0 := blkC s_k 0 rfl
    have f_s1 := blkC s_k 1 rfl
    have f_t0 := blkC t_k 0 rfl
    have f_t1 := blkC t_k 1 rfl
    go_wp2_with fail
    clear f_s0 f_s1 f_t0 f_t1
    generalize (y14.alloc (.cells #[.bool ev_g, .slice ev_o ev_n ev_c, .int .i64 ev_e] 26)) = x15 at s_k nx_k t_k ny_k ep_k eq_k er_k eu_k ev_k nx_D ny_D ep_D eq_D er_D eu_D ev_D H hb ⊢
    refine (Cc.out _ H).mono ?_
    rintro _ y16 ⟨rfl, hw⟩
    have s_k := blk_up hw s_k
    have nx_k := blk_up hw nx_k
    have t_k := blk_up hw t_k
    have ny_k := blk_up hw ny_k
    have ep_k := blk_up hw ep_k
    have eq_k := blk_up hw eq_k
    have er_k := blk_up hw er_k
    have eu_k := blk_up hw eu_k
    have ev_k := blk_up hw ev_k
    have nx_D := nx_D.keeps hw
    have ny_D := ny_D.keeps hw
    have ep_D := ep_D.keeps hw
    have eq_D := eq_D.keeps hw
    have er_D := er_D.keeps hw
    have eu_D := eu_D.keeps hw
    have ev_D := ev_D.keeps hw
    have H := H.keeps hw
    have hb := bel_trans hb hw
    have s_k := heap_past (.cells #[.int .i64 c0, .int .i64 c1] 23) s_k
    have nx_k := heap_past (.cells #[.int .i64 c0, .int .i64 c1] 23) nx_k
    have t_k := heap_past (.cells #[.int .i64 c0, .int .i64 c1] 23) t_k
    have ny_k := heap_past (.cells #[.int .i64 c0, .int .i64 c1] 23) ny_k
    have ep_k := heap_past (.cells #[.int .i64 c0, .int .i64 c1] 23) ep_k
    have eq_k := heap_past (.cells #[.int .i64 c0, .int .i64 c1] 23) eq_k
    have er_k := heap_past (.cells #[.int .i64 c0, .int .i64 c1] 23) er_k
    have eu_k := heap_past (.cells #[.int .i64 c0, .int .i64 c1] 23) eu_k
    have ev_k := heap_past (.cells #[.int .i64 c0, .int .i64 c1] 23) ev_k
    have c_k := heap_a1 y16 (.cells #[.int .i64 c0, .int .i64 c1] 23)
    have nx_D := nx_D.keeps (bel_alloc y16 (.cells #[.int .i64 c0, .int .i64 c1] 23))
    have ny_D := ny_D.keeps (bel_alloc y16 (.cells #[.int .i64 c0, .int .i64 c1] 23))
    have ep_D := ep_D.keeps (bel_alloc y16 (.cells #[.int .i64 c0, .int .i64 c1] 23))
    have eq_D := eq_D.keeps (bel_alloc y16 (.cells #[.int .i64 c0, .int .i64 c1] 23))
    have er_D := er_D.keeps (bel_alloc y16 (.cells #[.int .i64 c0, .int .i64 c1] 23))
    have eu_D := eu_D.keeps (bel_alloc y16 (.cells #[.int .i64 c0, .int .i64 c1] 23))
    have ev_D := ev_D.keeps (bel_alloc y16 (.cells #[.int .i64 c0, .int .i64 c1] 23))
    have H := H.keeps (bel_alloc y16 (.cells #[.int .i64 c0, .int .i64 c1] 23))
    have hb := bel_trans hb (bel_alloc y16 (.cells #[.int .i64 c0, .int .i64 c1] 23))
    have f_s0 := blkC s_k 0 rfl
    have f_s1 := blkC s_k 1 rfl
    have f_t0 := blkC t_k 0 rfl
    have f_t1 := blkC t_k 1 rfl
    go_wp2_with fail
    clear f_s0 f_s1 f_t0 f_t1
    generalize (y16.alloc (.cells #[.int .i64 c0, .int .i64 c1] 23)) = x17 at s_k nx_k t_k ny_k ep_k eq_k er_k eu_k ev_k c_k nx_D ny_D ep_D eq_D er_D eu_D ev_D H hb ⊢
    refine (Cd.out _ H).mono ?_
    rintro _ y18 ⟨rfl, hw⟩
    have s_k := blk_up hw s_k
    have nx_k := blk_up hw nx_k
    have t_k := blk_up hw t_k
    have ny_k := blk_up hw ny_k
    have ep_k := blk_up hw ep_k
    have eq_k := blk_up hw eq_k
    have er_k := blk_up hw er_k
    have eu_k := blk_up hw eu_k
    have ev_k := blk_up hw ev_k
    have c_k := blk_up hw c_k
    have nx_D := nx_D.keeps hw
    have ny_D := ny_D.keeps hw
    have ep_D := ep_D.keeps hw
    have eq_D := eq_D.keeps hw
    have er_D := er_D.keeps hw
    have eu_D := eu_D.keeps hw
    have ev_D := ev_D.keeps hw
    have H := H.keeps hw
    have hb := bel_trans hb hw
    have s_k := heap_past (.cells #[.int .i64 d0, .int .i64 d1] 23) s_k
    have nx_k := heap_past (.cells #[.int .i64 d0, .int .i64 d1] 23) nx_k
    have t_k := heap_past (.cells #[.int .i64 d0, .int .i64 d1] 23) t_k
    have ny_k := heap_past (.cells #[.int .i64 d0, .int .i64 d1] 23) ny_k
    have ep_k := heap_past (.cells #[.int .i64 d0, .int .i64 d1] 23) ep_k
    have eq_k := heap_past (.cells #[.int .i64 d0, .int .i64 d1] 23) eq_k
    have er_k := heap_past (.cells #[.int .i64 d0, .int .i64 d1] 23) er_k
    have eu_k := heap_past (.cells #[.int .i64 d0, .int .i64 d1] 23) eu_k
    have ev_k := heap_past (.cells #[.int .i64 d0, .int .i64 d1] 23) ev_k
    have c_k := heap_past (.cells #[.int .i64 d0, .int .i64 d1] 23) c_k
    have d_k := heap_a1 y18 (.cells #[.int .i64 d0, .int .i64 d1] 23)
    have nx_D := nx_D.keeps (bel_alloc y18 (.cells #[.int .i64 d0, .int .i64 d1] 23))
    have ny_D := ny_D.keeps (bel_alloc y18 (.cells #[.int .i64 d0, .int .i64 d1] 23))
    have ep_D := ep_D.keeps (bel_alloc y18 (.cells #[.int .i64 d0, .int .i64 d1] 23))
    have eq_D := eq_D.keeps (bel_alloc y18 (.cells #[.int .i64 d0, .int .i64 d1] 23))
    have er_D := er_D.keeps (bel_alloc y18 (.cells #[.int .i64 d0, .int .i64 d1] 23))
    have eu_D := eu_D.keeps (bel_alloc y18 (.cells #[.int .i64 d0, .int .i64 d1] 23))
    have ev_D := ev_D.keeps (bel_alloc y18 (.cells #[.int .i64 d0, .int .i64 d1] 23))
    have H := H.keeps (bel_alloc y18 (.cells #[.int .i64 d0, .int .i64 d1] 23))
    have hb := bel_trans hb (bel_alloc y18 (.cells #[.int .i64 d0, .int .i64 d1] 23))
    have f_s0 := blkC s_k 0 rfl
    have f_s1 := blkC s_k 1 rfl
    have f_t0 := blkC t_k 0 rfl
    have f_t1 := blkC t_k 1 rfl
    go_wp2_with fail
    clear f_s0 f_s1 f_t0 f_t1
    generalize (y18.alloc (.cells #[.int .i64 d0, .int .i64 d1] 23)) = x19 at s_k nx_k t_k ny_k ep_k eq_k er_k eu_k ev_k c_k d_k nx_D ny_D ep_D eq_D er_D eu_D ev_D H hb ⊢
    refine (Cm.out _ H).mono ?_
    rintro _ y20 ⟨rfl, hw⟩
    have s_k := blk_up hw s_k
    have nx_k := blk_up hw nx_k
    have t_k := blk_up hw t_k
    have ny_k := blk_up hw ny_k
    have ep_k := blk_up hw ep_k
    have eq_k := blk_up hw eq_k
    have er_k := blk_up hw er_k
    have eu_k := blk_up hw eu_k
    have ev_k := blk_up hw ev_k
    have c_k := blk_up hw c_k
    have d_k := blk_up hw d_k
    have nx_D := nx_D.keeps hw
    have ny_D := ny_D.keeps hw
    have ep_D := ep_D.keeps hw
    have eq_D := eq_D.keeps hw
    have er_D := er_D.keeps hw
    have eu_D := eu_D.keeps hw
    have ev_D := ev_D.keeps hw
    have H := H.keeps hw
    have hb := bel_trans hb hw
    have s_k := heap_past (.cells #[.int .i64 m0, .int .i64 m1] 23) s_k
    have nx_k := heap_past (.cells #[.int .i64 m0, .int .i64 m1] 23) nx_k
    have t_k := heap_past (.cells #[.int .i64 m0, .int .i64 m1] 23) t_k
    have ny_k := heap_past (.cells #[.int .i64 m0, .int .i64 m1] 23) ny_k
    have ep_k := heap_past (.cells #[.int .i64 m0, .int .i64 m1] 23) ep_k
    have eq_k := heap_past (.cells #[.int .i64 m0, .int .i64 m1] 23) eq_k
    have er_k := heap_past (.cells #[.int .i64 m0, .int .i64 m1] 23) er_k
    have eu_k := heap_past (.cells #[.int .i64 m0, .int .i64 m1] 23) eu_k
    have ev_k := heap_past (.cells #[.int .i64 m0, .int .i64 m1] 23) ev_k
    have c_k := heap_past (.cells #[.int .i64 m0, .int .i64 m1] 23) c_k
    have d_k := heap_past (.cells #[.int .i64 m0, .int .i64 m1] 23) d_k
    have m_k := heap_a1 y20 (.cells #[.int .i64 m0, .int .i64 m1] 23)
    have nx_D := nx_D.keeps (bel_alloc y20 (.cells #[.int .i64 m0, .int .i64 m1] 23))
    have ny_D := ny_D.keeps (bel_alloc y20 (.cells #[.int .i64 m0, .int .i64 m1] 23))
    have ep_D := ep_D.keeps (bel_alloc y20 (.cells #[.int .i64 m0, .int .i64 m1] 23))
    have eq_D := eq_D.keeps (bel_alloc y20 (.cells #[.int .i64 m0, .int .i64 m1] 23))
    have er_D := er_D.keeps (bel_alloc y20 (.cells #[.int .i64 m0, .int .i64 m1] 23))
    have eu_D := eu_D.keeps (bel_alloc y20 (.cells #[.int .i64 m0, .int .i64 m1] 23))
    have ev_D := ev_D.keeps (bel_alloc y20 (.cells #[.int .i64 m0, .int .i64 m1] 23))
    have H := H.keeps (bel_alloc y20 (.cells #[.int .i64 m0, .int .i64 m1] 23))
    have hb := bel_trans hb (bel_alloc y20 (.cells #[.int .i64 m0, .int .i64 m1] 23))
    have f_s0 := blkC s_k 0 rfl
    have f_s1 := blkC s_k 1 rfl
    go_wp2_with fail
    clear f_s0 f_s1
    generalize (y20.alloc (.cells #[.int .i64 m0, .int .i64 m1] 23)) = x21 at s_k nx_k t_k ny_k ep_k eq_k er_k eu_k ev_k c_k d_k m_k nx_D ny_D ep_D eq_D er_D eu_D ev_D H hb ⊢
    refine (Cq.out _ H).mono ?_
    rintro _ y22 ⟨rfl, hw⟩
    have s_k := blk_up hw s_k
    have nx_k := blk_up hw nx_k
    have t_k := blk_up hw t_k
    have ny_k := blk_up hw ny_k
    have ep_k := blk_up hw ep_k
    have eq_k := blk_up hw eq_k
    have er_k := blk_up hw er_k
    have eu_k := blk_up hw eu_k
    have ev_k := blk_up hw ev_k
    have c_k := blk_up hw c_k
    have d_k := blk_up hw d_k
    have m_k := blk_up hw m_k
    have nx_D := nx_D.keeps hw
    have ny_D := ny_D.keeps hw
    have ep_D := ep_D.keeps hw
    have eq_D := eq_D.keeps hw
    have er_D := er_D.keeps hw
    have eu_D := eu_D.keeps hw
    have ev_D := ev_D.keeps hw
    have H := H.keeps hw
    have hb := bel_trans hb hw
    have s_k := heap_past (.cells #[.int .i64 q0, .int .i64 q1] 23) s_k
    have nx_k := heap_past (.cells #[.int .i64 q0, .int .i64 q1] 23) nx_k
    have t_k := heap_past (.cells #[.int .i64 q0, .int .i64 q1] 23) t_k
    have ny_k := heap_past (.cells #[.int .i64 q0, .int .i64 q1] 23) ny_k
    have ep_k := heap_past (.cells #[.int .i64 q0, .int .i64 q1] 23) ep_k
    have eq_k := heap_past (.cells #[.int .i64 q0, .int .i64 q1] 23) eq_k
    have er_k := heap_past (.cells #[.int .i64 q0, .int .i64 q1] 23) er_k
    have eu_k := heap_past (.cells #[.int .i64 q0, .int .i64 q1] 23) eu_k
    have ev_k := heap_past (.cells #[.int .i64 q0, .int .i64 q1] 23) ev_k
    have c_k := heap_past (.cells #[.int .i64 q0, .int .i64 q1] 23) c_k
    have d_k := heap_past (.cells #[.int .i64 q0, .int .i64 q1] 23) d_k
    have m_k := heap_past (.cells #[.int .i64 q0, .int .i64 q1] 23) m_k
    have q_k := heap_a1 y22 (.cells #[.int .i64 q0, .int .i64 q1] 23)
    have nx_D := nx_D.keeps (bel_alloc y22 (.cells #[.int .i64 q0, .int .i64 q1] 23))
    have ny_D := ny_D.keeps (bel_alloc y22 (.cells #[.int .i64 q0, .int .i64 q1] 23))
    have ep_D := ep_D.keeps (bel_alloc y22 (.cells #[.int .i64 q0, .int .i64 q1] 23))
    have eq_D := eq_D.keeps (bel_alloc y22 (.cells #[.int .i64 q0, .int .i64 q1] 23))
    have er_D := er_D.keeps (bel_alloc y22 (.cells #[.int .i64 q0, .int .i64 q1] 23))
    have eu_D := eu_D.keeps (bel_alloc y22 (.cells #[.int .i64 q0, .int .i64 q1] 23))
    have ev_D := ev_D.keeps (bel_alloc y22 (.cells #[.int .i64 q0, .int .i64 q1] 23))
    have H := H.keeps (bel_alloc y22 (.cells #[.int .i64 q0, .int .i64 q1] 23))
    have hb := bel_trans hb (bel_alloc y22 (.cells #[.int .i64 q0, .int .i64 q1] 23))
    have f_s0 := blkC s_k 0 rfl
    have f_s1 := blkC s_k 1 rfl
    go_wp2_with fail
    clear f_s0 f_s1
    generalize (y22.alloc (.cells #[.int .i64 q0, .int .i64 q1] 23)) = x23 at s_k nx_k t_k ny_k ep_k eq_k er_k eu_k ev_k c_k d_k m_k q_k nx_D ny_D ep_D eq_D er_D eu_D ev_D H hb ⊢
    refine (Cn.out _ H).mono ?_
    rintro _ y24 ⟨rfl, hw⟩
    have s_k := blk_up hw s_k
    have nx_k := blk_up hw nx_k
    have t_k := blk_up hw t_k
    have ny_k := blk_up hw ny_k
    have ep_k := blk_up hw ep_k
    have eq_k := blk_up hw eq_k
    have er_k := blk_up hw er_k
    have eu_k := blk_up hw eu_k
    have ev_k := blk_up hw ev_k
    have c_k := blk_up hw c_k
    have d_k := blk_up hw d_k
    have m_k := blk_up hw m_k
    have q_k := blk_up hw q_k
    have nx_D := nx_D.keeps hw
    have ny_D := ny_D.keeps hw
    have ep_D := ep_D.keeps hw
    have eq_D := eq_D.keeps hw
    have er_D := er_D.keeps hw
    have eu_D := eu_D.keeps hw
    have ev_D := ev_D.keeps hw
    have H := H.keeps hw
    have hb := bel_trans hb hw
    have s_k := heap_past (.cells #[.int .i64 n0, .int .i64 n1] 23) s_k
    have nx_k := heap_past (.cells #[.int .i64 n0, .int .i64 n1] 23) nx_k
    have t_k := heap_past (.cells #[.int .i64 n0, .int .i64 n1] 23) t_k
    have ny_k := heap_past (.cells #[.int .i64 n0, .int .i64 n1] 23) ny_k
    have ep_k := heap_past (.cells #[.int .i64 n0, .int .i64 n1] 23) ep_k
    have eq_k := heap_past (.cells #[.int .i64 n0, .int .i64 n1] 23) eq_k
    have er_k := heap_past (.cells #[.int .i64 n0, .int .i64 n1] 23) er_k
    have eu_k := heap_past (.cells #[.int .i64 n0, .int .i64 n1] 23) eu_k
    have ev_k := heap_past (.cells #[.int .i64 n0, .int .i64 n1] 23) ev_k
    have c_k := heap_past (.cells #[.int .i64 n0, .int .i64 n1] 23) c_k
    have d_k := heap_past (.cells #[.int .i64 n0, .int .i64 n1] 23) d_k
    have m_k := heap_past (.cells #[.int .i64 n0, .int .i64 n1] 23) m_k
    have q_k := heap_past (.cells #[.int .i64 n0, .int .i64 n1] 23) q_k
    have n_k := heap_a1 y24 (.cells #[.int .i64 n0, .int .i64 n1] 23)
    have nx_D := nx_D.keeps (bel_alloc y24 (.cells #[.int .i64 n0, .int .i64 n1] 23))
    have ny_D := ny_D.keeps (bel_alloc y24 (.cells #[.int .i64 n0, .int .i64 n1] 23))
    have ep_D := ep_D.keeps (bel_alloc y24 (.cells #[.int .i64 n0, .int .i64 n1] 23))
    have eq_D := eq_D.keeps (bel_alloc y24 (.cells #[.int .i64 n0, .int .i64 n1] 23))
    have er_D := er_D.keeps (bel_alloc y24 (.cells #[.int .i64 n0, .int .i64 n1] 23))
    have eu_D := eu_D.keeps (bel_alloc y24 (.cells #[.int .i64 n0, .int .i64 n1] 23))
    have ev_D := ev_D.keeps (bel_alloc y24 (.cells #[.int .i64 n0, .int .i64 n1] 23))
    have H := H.keeps (bel_alloc y24 (.cells #[.int .i64 n0, .int .i64 n1] 23))
    have hb := bel_trans hb (bel_alloc y24 (.cells #[.int .i64 n0, .int .i64 n1] 23))
    have f_s0 := blkC s_k 0 rfl
    have f_s1 := blkC s_k 1 rfl
    have f_t0 := blkC t_k 0 rfl
    have f_t1 := blkC t_k 1 rfl
    go_wp2_with fail
    clear f_s0 f_s1 f_t0 f_t1
    generalize (y24.alloc (.cells #[.int .i64 n0, .int .i64 n1] 23)) = x25 at s_k nx_k t_k ny_k ep_k eq_k er_k eu_k ev_k c_k d_k m_k q_k n_k nx_D ny_D ep_D eq_D er_D eu_D ev_D H hb ⊢
    refine (Cj.out _ H).mono ?_
    rintro _ y26 ⟨rfl, hw⟩
    have s_k := blk_up hw s_k
    have nx_k := blk_up hw nx_k
    have t_k := blk_up hw t_k
    have ny_k := blk_up hw ny_k
    have ep_k := blk_up hw ep_k
    have eq_k := blk_up hw eq_k
    have er_k := blk_up hw er_k
    have eu_k := blk_up hw eu_k
    have ev_k := blk_up hw ev_k
    have c_k := blk_up hw c_k
    have d_k := blk_up hw d_k
    have m_k := blk_up hw m_k
    have q_k := blk_up hw q_k
    have n_k := blk_up hw n_k
    have nx_D := nx_D.keeps hw
    have ny_D := ny_D.keeps hw
    have ep_D := ep_D.keeps hw
    have eq_D := eq_D.keeps hw
    have er_D := er_D.keeps hw
    have eu_D := eu_D.keeps hw
    have ev_D := ev_D.keeps hw
    have H := H.keeps hw
    have hb := bel_trans hb hw
    have s_k := heap_past (.cells #[.int .i64 j0, .int .i64 j1] 23) s_k
    have nx_k := heap_past (.cells #[.int .i64 j0, .int .i64 j1] 23) nx_k
    have t_k := heap_past (.cells #[.int .i64 j0, .int .i64 j1] 23) t_k
    have ny_k := heap_past (.cells #[.int .i64 j0, .int .i64 j1] 23) ny_k
    have ep_k := heap_past (.cells #[.int .i64 j0, .int .i64 j1] 23) ep_k
    have eq_k := heap_past (.cells #[.int .i64 j0, .int .i64 j1] 23) eq_k
    have er_k := heap_past (.cells #[.int .i64 j0, .int .i64 j1] 23) er_k
    have eu_k := heap_past (.cells #[.int .i64 j0, .int .i64 j1] 23) eu_k
    have ev_k := heap_past (.cells #[.int .i64 j0, .int .i64 j1] 23) ev_k
    have c_k := heap_past (.cells #[.int .i64 j0, .int .i64 j1] 23) c_k
    have d_k := heap_past (.cells #[.int .i64 j0, .int .i64 j1] 23) d_k
    have m_k := heap_past (.cells #[.int .i64 j0, .int .i64 j1] 23) m_k
    have q_k := heap_past (.cells #[.int .i64 j0, .int .i64 j1] 23) q_k
    have n_k := heap_past (.cells #[.int .i64 j0, .int .i64 j1] 23) n_k
    have j_k := heap_a1 y26 (.cells #[.int .i64 j0, .int .i64 j1] 23)
    have nx_D := nx_D.keeps (bel_alloc y26 (.cells #[.int .i64 j0, .int .i64 j1] 23))
    have ny_D := ny_D.keeps (bel_alloc y26 (.cells #[.int .i64 j0, .int .i64 j1] 23))
    have ep_D := ep_D.keeps (bel_alloc y26 (.cells #[.int .i64 j0, .int .i64 j1] 23))
    have eq_D := eq_D.keeps (bel_alloc y26 (.cells #[.int .i64 j0, .int .i64 j1] 23))
    have er_D := er_D.keeps (bel_alloc y26 (.cells #[.int .i64 j0, .int .i64 j1] 23))
    have eu_D := eu_D.keeps (bel_alloc y26 (.cells #[.int .i64 j0, .int .i64 j1] 23))
    have ev_D := ev_D.keeps (bel_alloc y26 (.cells #[.int .i64 j0, .int .i64 j1] 23))
    have H := H.keeps (bel_alloc y26 (.cells #[.int .i64 j0, .int .i64 j1] 23))
    have hb := bel_trans hb (bel_alloc y26 (.cells #[.int .i64 j0, .int .i64 j1] 23))
    have f_s0 := blkC s_k 0 rfl
    have f_s1 := blkC s_k 1 rfl
    have f_nx0 := blkC nx_k 0 rfl
    have f_nx1 := blkC nx_k 1 rfl
    have f_nx2 := blkC nx_k 2 rfl
    go_wp2_with fail
    clear f_s0 f_s1 f_nx0 f_nx1 f_nx2
    generalize (y26.alloc (.cells #[.int .i64 j0, .int .i64 j1] 23)) = x27 at s_k nx_k t_k ny_k ep_k eq_k er_k eu_k ev_k c_k d_k m_k q_k n_k j_k nx_D ny_D ep_D eq_D er_D eu_D ev_D H hb ⊢
    refine (has_yes S.lo S.hi S.v SX.1 SX.2 _ nx_D (a_B.ok (by omega)) H).mono ?_
    rintro _ y28 ⟨rfl, hw⟩
    have s_k := blk_up hw s_k
    have nx_k := blk_up hw nx_k
    have t_k := blk_up hw t_k
    have ny_k := blk_up hw ny_k
    have ep_k := blk_up hw ep_k
    have eq_k := blk_up hw eq_k
    have er_k := blk_up hw er_k
    have eu_k := blk_up hw eu_k
    have ev_k := blk_up hw ev_k
    have c_k := blk_up hw c_k
    have d_k := blk_up hw d_k
    have m_k := blk_up hw m_k
    have q_k := blk_up hw q_k
    have n_k := blk_up hw n_k
    have j_k := blk_up hw j_k
    have nx_D := nx_D.keeps hw
    have ny_D := ny_D.keeps hw
    have ep_D := ep_D.keeps hw
    have eq_D := eq_D.keeps hw
    have er_D := er_D.keeps hw
    have eu_D := eu_D.keeps hw
    have ev_D := ev_D.keeps hw
    have H := H.keeps hw
    have hb := bel_trans hb hw
    have f_c0 := blkC c_k 0 rfl
    have f_c1 := blkC c_k 1 rfl
    have f_ep0 := blkC ep_k 0 rfl
    have f_ep1 := blkC ep_k 1 rfl
    have f_ep2 := blkC ep_k 2 rfl
    go_wp2_with fail
    clear f_c0 f_c1 f_ep0 f_ep1 f_ep2
    refine (has_yes Oc.lo Oc.hi Oc.ok Oc.kl Oc.kh _ ep_D ((a_B.add b_B (by omega)).ok (by omega)) H).mono ?_
    rintro _ y29 ⟨rfl, hw⟩
    have s_k := blk_up hw s_k
    have nx_k := blk_up hw nx_k
    have t_k := blk_up hw t_k
    have ny_k := blk_up hw ny_k
    have ep_k := blk_up hw ep_k
    have eq_k := blk_up hw eq_k
    have er_k := blk_up hw er_k
    have eu_k := blk_up hw eu_k
    have ev_k := blk_up hw ev_k
    have c_k := blk_up hw c_k
    have d_k := blk_up hw d_k
    have m_k := blk_up hw m_k
    have q_k := blk_up hw q_k
    have n_k := blk_up hw n_k
    have j_k := blk_up hw j_k
    have nx_D := nx_D.keeps hw
    have ny_D := ny_D.keeps hw
    have ep_D := ep_D.keeps hw
    have eq_D := eq_D.keeps hw
    have er_D := er_D.keeps hw
    have eu_D := eu_D.keeps hw
    have ev_D := ev_D.keeps hw
    have H := H.keeps hw
    have hb := bel_trans hb hw
    have f_d0 := blkC d_k 0 rfl
    have f_d1 := blkC d_k 1 rfl
    have f_eq0 := blkC eq_k 0 rfl
    have f_eq1 := blkC eq_k 1 rfl
    have f_eq2 := blkC eq_k 2 rfl
    go_wp2_with fail
    clear f_d0 f_d1 f_eq0 f_eq1 f_eq2
    refine (has_yes Od.lo Od.hi Od.ok Od.kl Od.kh _ eq_D ((a_B.sub b_B (by omega)).ok (by omega)) H).mono ?_
    rintro _ y30 ⟨rfl, hw⟩
    have s_k := blk_up hw s_k
    have nx_k := blk_up hw nx_k
    have t_k := blk_up hw t_k
    have ny_k := blk_up hw ny_k
    have ep_k := blk_up hw ep_k
    have eq_k := blk_up hw eq_k
    have er_k := blk_up hw er_k
    have eu_k := blk_up hw eu_k
    have ev_k := blk_up hw ev_k
    have c_k := blk_up hw c_k
    have d_k := blk_up hw d_k
    have m_k := blk_up hw m_k
    have q_k := blk_up hw q_k
    have n_k := blk_up hw n_k
    have j_k := blk_up hw j_k
    have nx_D := nx_D.keeps hw
    have ny_D := ny_D.keeps hw
    have ep_D := ep_D.keeps hw
    have eq_D := eq_D.keeps hw
    have er_D := er_D.keeps hw
    have eu_D := eu_D.keeps hw
    have ev_D := ev_D.keeps hw
    have H := H.keeps hw
    have hb := bel_trans hb hw
    have f_m0 := blkC m_k 0 rfl
    have f_m1 := blkC m_k 1 rfl
    have f_er0 := blkC er_k 0 rfl
    have f_er1 := blkC er_k 1 rfl
    have f_er2 := blkC er_k 2 rfl
    go_wp2_with fail
    clear f_m0 f_m1 f_er0 f_er1 f_er2
    refine (has_yes Om.lo Om.hi Om.ok Om.kl Om.kh _ er_D (r_B.ok (by omega)) H).mono ?_
    rintro _ y31 ⟨rfl, hw⟩
    have s_k := blk_up hw s_k
    have nx_k := blk_up hw nx_k
    have t_k := blk_up hw t_k
    have ny_k := blk_up hw ny_k
    have ep_k := blk_up hw ep_k
    have eq_k := blk_up hw eq_k
    have er_k := blk_up hw er_k
    have eu_k := blk_up hw eu_k
    have ev_k := blk_up hw ev_k
    have c_k := blk_up hw c_k
    have d_k := blk_up hw d_k
    have m_k := blk_up hw m_k
    have q_k := blk_up hw q_k
    have n_k := blk_up hw n_k
    have j_k := blk_up hw j_k
    have nx_D := nx_D.keeps hw
    have ny_D := ny_D.keeps hw
    have ep_D := ep_D.keeps hw
    have eq_D := eq_D.keeps hw
    have er_D := er_D.keeps hw
    have eu_D := eu_D.keeps hw
    have ev_D := ev_D.keeps hw
    have H := H.keeps hw
    have hb := bel_trans hb hw
    have f_q0 := blkC q_k 0 rfl
    have f_q1 := blkC q_k 1 rfl
    have f_eu0 := blkC eu_k 0 rfl
    have f_eu1 := blkC eu_k 1 rfl
    have f_eu2 := blkC eu_k 2 rfl
    go_wp2_with fail
    clear f_q0 f_q1 f_eu0 f_eu1 f_eu2
    refine (has_yes Oq.lo Oq.hi Oq.ok Oq.kl Oq.kh _ eu_D (u_B.ok (by omega)) H).mono ?_
    rintro _ y32 ⟨rfl, hw⟩
    have s_k := blk_up hw s_k
    have nx_k := blk_up hw nx_k
    have t_k := blk_up hw t_k
    have ny_k := blk_up hw ny_k
    have ep_k := blk_up hw ep_k
    have eq_k := blk_up hw eq_k
    have er_k := blk_up hw er_k
    have eu_k := blk_up hw eu_k
    have ev_k := blk_up hw ev_k
    have c_k := blk_up hw c_k
    have d_k := blk_up hw d_k
    have m_k := blk_up hw m_k
    have q_k := blk_up hw q_k
    have n_k := blk_up hw n_k
    have j_k := blk_up hw j_k
    have nx_D := nx_D.keeps hw
    have ny_D := ny_D.keeps hw
    have ep_D := ep_D.keeps hw
    have eq_D := eq_D.keeps hw
    have er_D := er_D.keeps hw
    have eu_D := eu_D.keeps hw
    have ev_D := ev_D.keeps hw
    have H := H.keeps hw
    have hb := bel_trans hb hw
    have f_n0 := blkC n_k 0 rfl
    have f_n1 := blkC n_k 1 rfl
    have f_ev0 := blkC ev_k 0 rfl
    have f_ev1 := blkC ev_k 1 rfl
    have f_ev2 := blkC ev_k 2 rfl
    go_wp2_with fail
    clear f_n0 f_n1 f_ev0 f_ev1 f_ev2
    refine (has_yes On.lo On.hi On.ok On.kl On.kh _ ev_D (a_B.neg.ok (by omega)) H).mono ?_
    rintro _ y33 ⟨rfl, hw⟩
    have s_k := blk_up hw s_k
    have nx_k := blk_up hw nx_k
    have t_k := blk_up hw t_k
    have ny_k := blk_up hw ny_k
    have ep_k := blk_up hw ep_k
    have eq_k := blk_up hw eq_k
    have er_k := blk_up hw er_k
    have eu_k := blk_up hw eu_k
    have ev_k := blk_up hw ev_k
    have c_k := blk_up hw c_k
    have d_k := blk_up hw d_k
    have m_k := blk_up hw m_k
    have q_k := blk_up hw q_k
    have n_k := blk_up hw n_k
    have j_k := blk_up hw j_k
    have nx_D := nx_D.keeps hw
    have ny_D := ny_D.keeps hw
    have ep_D := ep_D.keeps hw
    have eq_D := eq_D.keeps hw
    have er_D := er_D.keeps hw
    have eu_D := eu_D.keeps hw
    have ev_D := ev_D.keeps hw
    have H := H.keeps hw
    have hb := bel_trans hb hw
    have f_j0 := blkC j_k 0 rfl
    have f_j1 := blkC j_k 1 rfl
    have f_nx0 := blkC nx_k 0 rfl
    have f_nx1 := blkC nx_k 1 rfl
    have f_nx2 := blkC nx_k 2 rfl
    go_wp2_with fail
    clear f_j0 f_j1 f_nx0 f_nx1 f_nx2
    refine (has_yes Ox.lo Ox.hi Ox.ok Ox.kl Ox.kh _ nx_D (a_B.ok (by omega)) H).mono ?_
    rintro _ y34 ⟨rfl, hw⟩
    have s_k := blk_up hw s_k
    have nx_k := blk_up hw nx_k
    have t_k := blk_up hw t_k
    have ny_k := blk_up hw ny_k
    have ep_k := blk_up hw ep_k
    have eq_k := blk_up hw eq_k
    have er_k := blk_up hw er_k
    have eu_k := blk_up hw eu_k
    have ev_k := blk_up hw ev_k
    have c_k := blk_up hw c_k
    have d_k := blk_up hw d_k
    have m_k := blk_up hw m_k
    have q_k := blk_up hw q_k
    have n_k := blk_up hw n_k
    have j_k := blk_up hw j_k
    have nx_D := nx_D.keeps hw
    have ny_D := ny_D.keeps hw
    have ep_D := ep_D.keeps hw
    have eq_D := eq_D.keeps hw
    have er_D := er_D.keeps hw
    have eu_D := eu_D.keeps hw
    have ev_D := ev_D.keeps hw
    have H := H.keeps hw
    have hb := bel_trans hb hw
    have f_j0 := blkC j_k 0 rfl
    have f_j1 := blkC j_k 1 rfl
    have f_ny0 := blkC ny_k 0 rfl
    have f_ny1 := blkC ny_k 1 rfl
    have f_ny2 := blkC ny_k 2 rfl
    go_wp2_with fail
    clear f_j0 f_j1 f_ny0 f_ny1 f_ny2
    refine (has_yes Oy.lo Oy.hi Oy.ok Oy.kl Oy.kh _ ny_D (b_B.ok (by omega)) H).mono ?_
    rintro _ y35 ⟨rfl, hw⟩
    have s_k := blk_up hw s_k
    have nx_k := blk_up hw nx_k
    have t_k := blk_up hw t_k
    have ny_k := blk_up hw ny_k
    have ep_k := blk_up hw ep_k
    have eq_k := blk_up hw eq_k
    have er_k := blk_up hw er_k
    have eu_k := blk_up hw eu_k
    have ev_k := blk_up hw ev_k
    have c_k := blk_up hw c_k
    have d_k := blk_up hw d_k
    have m_k := blk_up hw m_k
    have q_k := blk_up hw q_k
    have n_k := blk_up hw n_k
    have j_k := blk_up hw j_k
    have nx_D := nx_D.keeps hw
    have ny_D := ny_D.keeps hw
    have ep_D := ep_D.keeps hw
    have eq_D := eq_D.keeps hw
    have er_D := er_D.keeps hw
    have eu_D := eu_D.keeps hw
    have ev_D := ev_D.keeps hw
    have H := H.keeps hw
    have hb := bel_trans hb hw
    have f_d0 := blkC d_k 0 rfl
    have f_d1 := blkC d_k 1 rfl
    go_wp2_with fail
    clear f_d0 f_d1
    refine (spanSignE Od.lo.1 Od.hi.1 _).mono ?_
    rintro _ y36 ⟨rfl, hw⟩
    have s_k := blk_up hw s_k
    have nx_k := blk_up hw nx_k
    have t_k := blk_up hw t_k
    have ny_k := blk_up hw ny_k
    have ep_k := blk_up hw ep_k
    have eq_k := blk_up hw eq_k
    have er_k := blk_up hw er_k
    have eu_k := blk_up hw eu_k
    have ev_k := blk_up hw ev_k
    have c_k := blk_up hw c_k
    have d_k := blk_up hw d_k
    have m_k := blk_up hw m_k
    have q_k := blk_up hw q_k
    have n_k := blk_up hw n_k
    have j_k := blk_up hw j_k
    have nx_D := nx_D.keeps hw
    have ny_D := ny_D.keeps hw
    have ep_D := ep_D.keeps hw
    have eq_D := eq_D.keeps hw
    have er_D := er_D.keeps hw
    have eu_D := eu_D.keeps hw
    have ev_D := ev_D.keeps hw
    have H := H.keeps hw
    have hb := bel_trans hb hw
    have f_eq0 := blkC eq_k 0 rfl
    have f_eq1 := blkC eq_k 1 rfl
    have f_eq2 := blkC eq_k 2 rfl
    go_wp2_with fail
    clear f_eq0 f_eq1 f_eq2
    refine (sign_D eq_D ((a_B.sub b_B (by omega)).ok (by omega))).mono ?_
    rintro _ y37 ⟨rfl, hw⟩
    have s_k := blk_up hw s_k
    have nx_k := blk_up hw nx_k
    have t_k := blk_up hw t_k
    have ny_k := blk_up hw ny_k
    have ep_k := blk_up hw ep_k
    have eq_k := blk_up hw eq_k
    have er_k := blk_up hw er_k
    have eu_k := blk_up hw eu_k
    have ev_k := blk_up hw ev_k
    have c_k := blk_up hw c_k
    have d_k := blk_up hw d_k
    have m_k := blk_up hw m_k
    have q_k := blk_up hw q_k
    have n_k := blk_up hw n_k
    have j_k := blk_up hw j_k
    have nx_D := nx_D.keeps hw
    have ny_D := ny_D.keeps hw
    have ep_D := ep_D.keeps hw
    have eq_D := eq_D.keeps hw
    have er_D := er_D.keeps hw
    have eu_D := eu_D.keeps hw
    have ev_D := ev_D.keeps hw
    have H := H.keeps hw
    have hb := bel_trans hb hw
    have hsg := sgn_has Od
    generalize sgV d0 d1 = SV at hsg ⊢
    generalize ord (patV a - patV b) 0 = OV at hsg ⊢
    cases hk : sgK d0 d1
    · go_wp2
      all_goals go_ret
      all_goals exact ⟨rfl, hb⟩
    · obtain rfl := hsg hk
      go_wp2
      all_goals go_ret
      all_goals exact ⟨rfl, hb⟩
theorem own : ownKnob Tryz.prog.godebug = none := by kernel_rfl
theorem laidOut : laidOutB Tryz.prog = true := by kernel_rfl
theorem door_met (os : Os) (args : Array Value) : laidMetH Tryz.prog Rows.spanHoldsRow.laid ((World.doorLaid Tryz.prog 400 os).forCall (fun _ _ => 0) ⟨#[], args, []⟩).memory :=
  laidMetH_of_parts3 (fuel := 8) (laidMet_of_run' 8 (by kernel_rfl) (by kernel_rfl)) (by kernel_rfl) (by kernel_rfl)
set_option maxRecDepth 100000 in
theorem lifted (os : Os) (started : os.Started) (H : Type) (enc : TypeId × Value → H) :
    ReturnsInHanded {} Tryz.checked os 3 .any (fun w args => (Rows.spanHoldsSpec.pre enc Tryz.prog Tryz.f3 [] false w args ∧ laidMetH Tryz.prog Rows.spanHoldsRow.laid w) ∧ sizedMet enc Tryz.prog Tryz.f3 (OpenSpec.ofChange Rows.spanHoldsSpec) false w args)
      (Rows.spanHoldsSpec.post enc Tryz.prog Tryz.f3 false true false false) := by
  refine returnsInHanded_of_change_and (C := Tryz.checked) (X := fun w _ => laidMetH Tryz.prog Rows.spanHoldsRow.laid w) (fun _ _ _ hh h => h.of_heap hh) own started (by kernel_rfl) Tryz.func3
    (ChangeSpec.witness_shaped (enc := enc) (C := Tryz.checked) (os := os) (X := fun w _ => laidMetH Tryz.prog Rows.spanHoldsRow.laid w) false (World.doorLaid Tryz.prog 400 os) #[.int .i64 0, .int .i64 0, .int .i64 0, .int .i64 0] 8 rfl (World.shaped_of_RefB (by kernel_rfl) (by kernel_rfl)) (by kernel_rfl) (by kernel_rfl) (by kernel_rfl) (door_met os _)) ?_
  intro W base args ds gs before hval0 hW _ _ hL _
  have hval : ∀ (j : Nat) t v, Tryz.f3.params[j]? = some t → args[j]? = some v → Value.okWide Tryz.prog W .any base t v := hval0
  have hW' := hW
  obtain ⟨p, q, hA0, hV, rfl, hfz, hnd⟩ := hW
  have hA : DataW.TrodAll enc Tryz.prog W 0 (fun _ => true) true Tryz.f3.params.toList args.toList ds p := hA0
  rw [Tryz.params3] at hA hval
  obtain ⟨v0, vs0, d0, ds0, p0, q0, hargs, rfl, rfl, h0, r0⟩ := trodAll_cons hA
  obtain ⟨v1, vs1, d1, ds1, p1, q1, rfl, rfl, rfl, h1, r1⟩ := trodAll_cons r0
  obtain ⟨v2, vs2, d2, ds2, p2, q2, rfl, rfl, rfl, h2, r2⟩ := trodAll_cons r1
  obtain ⟨v3, vs3, d3, ds3, p3, q3, rfl, rfl, rfl, h3, r3⟩ := trodAll_cons r2
  obtain ⟨rfl, rfl, rfl⟩ := trodAll_nil r3
  obtain rfl : args = #[v0, v1, v2, v3] := by cases args; simp_all
  obtain ⟨rfl, rfl⟩ := trodVars_none hV
  obtain ⟨a0, rfl, rfl, rfl, w0⟩ := open_int Tryz.underlying3 (hval 0 3 v0 rfl rfl) h0
  obtain ⟨a1, rfl, rfl, rfl, w1⟩ := open_int Tryz.underlying3 (hval 1 3 v1 rfl rfl) h1
  obtain ⟨a2, rfl, rfl, rfl, w2⟩ := open_int Tryz.underlying3 (hval 2 3 v2 rfl rfl) h2
  obtain ⟨a3, rfl, rfl, rfl, w3⟩ := open_int Tryz.underlying3 (hval 3 3 v3 rfl rfl) h3
  clear hA0 hval0
  refine (walk a0 a1 a2 a3 W (rng_of w0) (rng_of w1) (rng_of w2) (rng_of w3) (hold9_of hL)).mono fun e W' ⟨he, bel⟩ => ?_
  subst he
  exact ⟨_, rfl, _, _, _, [], _, [], hW', trodAll_mk1 (shut_bool Tryz.underlying4 _), (trodAll_cons_mk (shut_int Tryz.underlying3 w0) (trodAll_cons_mk (shut_int Tryz.underlying3 w1) (trodAll_cons_mk (shut_int Tryz.underlying3 w2) (trodAll_cons_mk (shut_int Tryz.underlying3 w3) trodAll_mk0)))), rfl, bel.frame _, fun h => by cases h⟩
theorem said : Rows.SpanHoldsSaid :=
  OpenClaim.holds_of_wide 3 Tryz.f3 rfl rfl rfl rfl rfl rfl rfl ⟨rfl, rfl, rfl, rfl, rfl⟩ rfl rfl rfl rfl rfl (by kernel_rfl) Tryz.func3 (by kernel_rfl)
    (of_decide_eq_true (by kernel_rfl)) (by unfold Func.isWrapper; first | (rw [if_pos (by decide +kernel)]; kernel_rfl) | (rw [if_neg (by decide +kernel)]; exact ⟨rfl, rfl⟩))
    (fun os started H enc _ => lifted os started H enc)
theorem plain (f : FuncId) (fn : Func) (hf : Tryz.pinned.checked.prog.funcNamed Tryz.f3.name = some f) (hfn : Tryz.pinned.checked.prog.funcs[f]? = some fn) :
    true = Tryz.pinned.checked.prog.looks [] ∧ ∀ (j : Nat) t, fn.params[j]? = some t → Tryz.pinned.checked.prog.wantsStandIn t = false := by
  obtain rfl : f = 3 := Option.some.inj ((show Tryz.prog.funcNamed Tryz.f3.name = some 3 by kernel_rfl).symm.trans hf) |>.symm
  obtain rfl : fn = Tryz.f3 := (Option.some.inj (Tryz.func3.symm.trans hfn)).symm
  refine ⟨by kernel_rfl, fun j t ht => ?_⟩
  rw [Tryz.params3] at ht
  obtain rfl : t = 3 := by simpa using Array.mem_of_getElem? ht
  exact (show Tryz.prog.wantsStandIn 3 = false by kernel_rfl)
/-- THE CARD. -/
theorem card : Rows.SpanHoldsCardSaid :=
  Claim7.holds_tied_plain_at .later [] _ _ _ _ said (fun _ h => by cases h) (by kernel_rfl) (fun _ h => by cases h) spanHolds_row_tie rfl ⟨rfl, rfl⟩ (by kernel_rfl) rfl plain (by kernel_rfl)
end Go.Proofs.YtmpioejllfedoaaGreatDoor.spanHolds
namespace Go.Proofs.YtmpioejllfedoaaGreatDoor
/-- SpanHolds: the statement as it is given. -/
theorem spanHolds_holds : Rows.SpanHoldsCardSaid := spanHolds.card
end Go.Proofs.YtmpioejllfedoaaGreatDoor
