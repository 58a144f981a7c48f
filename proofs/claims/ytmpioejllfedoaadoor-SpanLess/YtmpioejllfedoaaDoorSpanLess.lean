/-
  SpanLess: for every two patterns and steps the law returns true: what is told of smaller intervals lies within what is told of greater ones. As a card: the library's tables and the layouts start as the program's text lays them.
-/
import Derived.Test.YtmpioejllfedoaaDoorPart16
import Derived.Test.YtmpioejllfedoaaDoorPart17
import Derived.Test.YtmpioejllfedoaaDoorCards
import Derived.Test.YtmpioejllfedoaaDoorTie
namespace Go.Proofs.YtmpioejllfedoaaDoor.spanLess
open Go Go.ChangeShapes Go.WideShapes Go.ChangeAt Go.RowKit Go.Proofs.YtmpioejllfedoaaDoor Go.Proofs.YtmpioejllfedoaaDoor.M
set_option linter.unusedSimpArgs false
set_option linter.unusedVariables false

theorem hold9_of {W : World} (h : laidMetH Tryd.prog [("math/bits.deBruijn32tab", Rows.laid_math_bits_deBruijn32tab), ("math/bits.deBruijn64tab", Rows.laid_math_bits_deBruijn64tab), ("plumb/bits.binary64", Rows.laid_plumb_bits_binary64)] W) : Hold4 W := by
  have k := hold_of h
  exact ⟨k.lay, k.tab, ⟨⟨k.lay.a0, k.lay.a1, k.lay.a2, trivial, trivial, trivial⟩, k.tab⟩⟩
theorem shr_rng {x : Int} (h : rng x) : rng (x / 8) := by
  unfold rng at *
  omega
set_option maxRecDepth 100000 in
set_option maxHeartbeats 4000000 in
theorem walk (a b x y : Int) (w : World) (ra : rng a) (rb : rng b) (rx : rng x) (ry : rng y) (H : Hold4 w) :
    Calls Tryd.prog 3 #[.int .i64 a, .int .i64 b, .int .i64 x, .int .i64 y] w fun e w' => e = .returned (.bool true) ∧ Below w.heap.size w w' := by
  have CL : Hid (∀ W, Hold4 W → Calls Tryd.prog 5 #[] W fun e w' => e = .returned (.bool true) ∧ Below W.heap.size W w') := fun W h => alive8 W h.env.lays
  rcases pa : pok a with _ | _ <;> rcases pb : pok b with _ | _
  · have Ca : Hid (∀ W, Hold4 W → _) := fun W h => around_none ra pa rx ry W h
    have Cb : Hid (∀ W, Hold4 W → _) := fun W h => around_none rb pb (shr_rng ry) (shr_rng rx) W h
    have hb := bel_refl w
    go_enter Tryd.func3, Tryd.ntmps3
    go_wp2_with fail
    refine (Ca.out _ H).mono ?_
    rintro _ y1 ⟨s0, s1, rfl, hw⟩
    have H := H.keeps hw
    have hb := bel_trans hb hw
    have s_k := heap_a1 y1 (.cells #[.int .i64 s0, .int .i64 s1] 23)
    have H := H.keeps (bel_alloc y1 (.cells #[.int .i64 s0, .int .i64 s1] 23))
    have hb := bel_trans hb (bel_alloc y1 (.cells #[.int .i64 s0, .int .i64 s1] 23))
    have s_k := heap_past (.cells #[.bool false, .slice none 0 0, .int .i64 0] 26) s_k
    have nx_k := heap_b2 y1 (.cells #[.int .i64 s0, .int .i64 s1] 23) (.cells #[.bool false, .slice none 0 0, .int .i64 0] 26)
    have H := H.keeps (bel_alloc (y1.alloc (.cells #[.int .i64 s0, .int .i64 s1] 23)) (.cells #[.bool false, .slice none 0 0, .int .i64 0] 26))
    have hb := bel_trans hb (bel_alloc (y1.alloc (.cells #[.int .i64 s0, .int .i64 s1] 23)) (.cells #[.bool false, .slice none 0 0, .int .i64 0] 26))
    go_wp2_with fail
    generalize ((y1.alloc (.cells #[.int .i64 s0, .int .i64 s1] 23)).alloc (.cells #[.bool false, .slice none 0 0, .int .i64 0] 26)) = x2 at s_k nx_k H hb ⊢
    refine (Cb.out _ H).mono ?_
    rintro _ y3 ⟨t0, t1, rfl, hw⟩
    have s_k := blk_up hw s_k
    have nx_k := blk_up hw nx_k
    have H := H.keeps hw
    have hb := bel_trans hb hw
    have s_k := heap_past (.cells #[.int .i64 t0, .int .i64 t1] 23) s_k
    have nx_k := heap_past (.cells #[.int .i64 t0, .int .i64 t1] 23) nx_k
    have t_k := heap_a1 y3 (.cells #[.int .i64 t0, .int .i64 t1] 23)
    have H := H.keeps (bel_alloc y3 (.cells #[.int .i64 t0, .int .i64 t1] 23))
    have hb := bel_trans hb (bel_alloc y3 (.cells #[.int .i64 t0, .int .i64 t1] 23))
    have s_k := heap_past (.cells #[.bool false, .slice none 0 0, .int .i64 0] 26) s_k
    have nx_k := heap_past (.cells #[.bool false, .slice none 0 0, .int .i64 0] 26) nx_k
    have t_k := heap_past (.cells #[.bool false, .slice none 0 0, .int .i64 0] 26) t_k
    have ny_k := heap_b2 y3 (.cells #[.int .i64 t0, .int .i64 t1] 23) (.cells #[.bool false, .slice none 0 0, .int .i64 0] 26)
    have H := H.keeps (bel_alloc (y3.alloc (.cells #[.int .i64 t0, .int .i64 t1] 23)) (.cells #[.bool false, .slice none 0 0, .int .i64 0] 26))
    have hb := bel_trans hb (bel_alloc (y3.alloc (.cells #[.int .i64 t0, .int .i64 t1] 23)) (.cells #[.bool false, .slice none 0 0, .int .i64 0] 26))
    go_wp2_with fail
    generalize ((y3.alloc (.cells #[.int .i64 t0, .int .i64 t1] 23)).alloc (.cells #[.bool false, .slice none 0 0, .int .i64 0] 26)) = x4 at s_k nx_k t_k ny_k H hb ⊢
    refine (CL.out _ H).mono ?_
    rintro _ y5 ⟨rfl, hw⟩
    have s_k := blk_up hw s_k
    have nx_k := blk_up hw nx_k
    have t_k := blk_up hw t_k
    have ny_k := blk_up hw ny_k
    have H := H.keeps hw
    have hb := bel_trans hb hw
    go_wp2_with fail
    refine (CL.out _ H).mono ?_
    rintro _ y6 ⟨rfl, hw⟩
    have s_k := blk_up hw s_k
    have nx_k := blk_up hw nx_k
    have t_k := blk_up hw t_k
    have ny_k := blk_up hw ny_k
    have H := H.keeps hw
    have hb := bel_trans hb hw
    go_wp2
    all_goals go_ret
    all_goals exact ⟨rfl, hb⟩
  · have Ca : Hid (∀ W, Hold4 W → _) := fun W h => around_none ra pa rx ry W h
    have Cb : Hid (∀ W, Hold4 W → _) := fun W h => around_steps rb pb (shr_rng ry) (shr_rng rx) W h
    have hb := bel_refl w
    go_enter Tryd.func3, Tryd.ntmps3
    go_wp2_with fail
    refine (Ca.out _ H).mono ?_
    rintro _ y1 ⟨s0, s1, rfl, hw⟩
    have H := H.keeps hw
    have hb := bel_trans hb hw
    have s_k := heap_a1 y1 (.cells #[.int .i64 s0, .int .i64 s1] 23)
    have H := H.keeps (bel_alloc y1 (.cells #[.int .i64 s0, .int .i64 s1] 23))
    have hb := bel_trans hb (bel_alloc y1 (.cells #[.int .i64 s0, .int .i64 s1] 23))
    have s_k := heap_past (.cells #[.bool false, .slice none 0 0, .int .i64 0] 26) s_k
    have nx_k := heap_b2 y1 (.cells #[.int .i64 s0, .int .i64 s1] 23) (.cells #[.bool false, .slice none 0 0, .int .i64 0] 26)
    have H := H.keeps (bel_alloc (y1.alloc (.cells #[.int .i64 s0, .int .i64 s1] 23)) (.cells #[.bool false, .slice none 0 0, .int .i64 0] 26))
    have hb := bel_trans hb (bel_alloc (y1.alloc (.cells #[.int .i64 s0, .int .i64 s1] 23)) (.cells #[.bool false, .slice none 0 0, .int .i64 0] 26))
    go_wp2_with fail
    generalize ((y1.alloc (.cells #[.int .i64 s0, .int .i64 s1] 23)).alloc (.cells #[.bool false, .slice none 0 0, .int .i64 0] 26)) = x2 at s_k nx_k H hb ⊢
    refine (Cb.out _ H).mono ?_
    rintro _ y3 ⟨t0, t1, v, rfl, ht0, ht1, ny_D', ⟨ny_g, ny_o, ny_n, ny_c, ny_e, rfl⟩, hw⟩
    have s_k := blk_up hw s_k
    have nx_k := blk_up hw nx_k
    have H := H.keeps hw
    have hb := bel_trans hb hw
    have ny_D := ny_D'
    have s_k := heap_past (.cells #[.int .i64 t0, .int .i64 t1] 23) s_k
    have nx_k := heap_past (.cells #[.int .i64 t0, .int .i64 t1] 23) nx_k
    have t_k := heap_a1 y3 (.cells #[.int .i64 t0, .int .i64 t1] 23)
    have ny_D := ny_D.keeps (bel_alloc y3 (.cells #[.int .i64 t0, .int .i64 t1] 23))
    have H := H.keeps (bel_alloc y3 (.cells #[.int .i64 t0, .int .i64 t1] 23))
    have hb := bel_trans hb (bel_alloc y3 (.cells #[.int .i64 t0, .int .i64 t1] 23))
    have s_k := heap_past (.cells #[.bool ny_g, .slice ny_o ny_n ny_c, .int .i64 ny_e] 26) s_k
    have nx_k := heap_past (.cells #[.bool ny_g, .slice ny_o ny_n ny_c, .int .i64 ny_e] 26) nx_k
    have t_k := heap_past (.cells #[.bool ny_g, .slice ny_o ny_n ny_c, .int .i64 ny_e] 26) t_k
    have ny_k := heap_b2 y3 (.cells #[.int .i64 t0, .int .i64 t1] 23) (.cells #[.bool ny_g, .slice ny_o ny_n ny_c, .int .i64 ny_e] 26)
    have ny_D := ny_D.keeps (bel_alloc (y3.alloc (.cells #[.int .i64 t0, .int .i64 t1] 23)) (.cells #[.bool ny_g, .slice ny_o ny_n ny_c, .int .i64 ny_e] 26))
    have H := H.keeps (bel_alloc (y3.alloc (.cells #[.int .i64 t0, .int .i64 t1] 23)) (.cells #[.bool ny_g, .slice ny_o ny_n ny_c, .int .i64 ny_e] 26))
    have hb := bel_trans hb (bel_alloc (y3.alloc (.cells #[.int .i64 t0, .int .i64 t1] 23)) (.cells #[.bool ny_g, .slice ny_o ny_n ny_c, .int .i64 ny_e] 26))
    go_wp2_with fail
    generalize ((y3.alloc (.cells #[.int .i64 t0, .int .i64 t1] 23)).alloc (.cells #[.bool ny_g, .slice ny_o ny_n ny_c, .int .i64 ny_e] 26)) = x4 at s_k nx_k t_k ny_k ny_D H hb ⊢
    refine (CL.out _ H).mono ?_
    rintro _ y5 ⟨rfl, hw⟩
    have s_k := blk_up hw s_k
    have nx_k := blk_up hw nx_k
    have t_k := blk_up hw t_k
    have ny_k := blk_up hw ny_k
    have ny_D := ny_D.keeps hw
    have H := H.keeps hw
    have hb := bel_trans hb hw
    go_wp2_with fail
    refine (CL.out _ H).mono ?_
    rintro _ y6 ⟨rfl, hw⟩
    have s_k := blk_up hw s_k
    have nx_k := blk_up hw nx_k
    have t_k := blk_up hw t_k
    have ny_k := blk_up hw ny_k
    have ny_D := ny_D.keeps hw
    have H := H.keeps hw
    have hb := bel_trans hb hw
    go_wp2
    all_goals go_ret
    all_goals exact ⟨rfl, hb⟩
  · have Ca : Hid (∀ W, Hold4 W → _) := fun W h => around_steps ra pa rx ry W h
    have Cb : Hid (∀ W, Hold4 W → _) := fun W h => around_none rb pb (shr_rng ry) (shr_rng rx) W h
    have hb := bel_refl w
    go_enter Tryd.func3, Tryd.ntmps3
    go_wp2_with fail
    refine (Ca.out _ H).mono ?_
    rintro _ y1 ⟨s0, s1, v, rfl, hs0, hs1, nx_D', ⟨nx_g, nx_o, nx_n, nx_c, nx_e, rfl⟩, hw⟩
    have H := H.keeps hw
    have hb := bel_trans hb hw
    have nx_D := nx_D'
    have s_k := heap_a1 y1 (.cells #[.int .i64 s0, .int .i64 s1] 23)
    have nx_D := nx_D.keeps (bel_alloc y1 (.cells #[.int .i64 s0, .int .i64 s1] 23))
    have H := H.keeps (bel_alloc y1 (.cells #[.int .i64 s0, .int .i64 s1] 23))
    have hb := bel_trans hb (bel_alloc y1 (.cells #[.int .i64 s0, .int .i64 s1] 23))
    have s_k := heap_past (.cells #[.bool nx_g, .slice nx_o nx_n nx_c, .int .i64 nx_e] 26) s_k
    have nx_k := heap_b2 y1 (.cells #[.int .i64 s0, .int .i64 s1] 23) (.cells #[.bool nx_g, .slice nx_o nx_n nx_c, .int .i64 nx_e] 26)
    have nx_D := nx_D.keeps (bel_alloc (y1.alloc (.cells #[.int .i64 s0, .int .i64 s1] 23)) (.cells #[.bool nx_g, .slice nx_o nx_n nx_c, .int .i64 nx_e] 26))
    have H := H.keeps (bel_alloc (y1.alloc (.cells #[.int .i64 s0, .int .i64 s1] 23)) (.cells #[.bool nx_g, .slice nx_o nx_n nx_c, .int .i64 nx_e] 26))
    have hb := bel_trans hb (bel_alloc (y1.alloc (.cells #[.int .i64 s0, .int .i64 s1] 23)) (.cells #[.bool nx_g, .slice nx_o nx_n nx_c, .int .i64 nx_e] 26))
    go_wp2_with fail
    generalize ((y1.alloc (.cells #[.int .i64 s0, .int .i64 s1] 23)).alloc (.cells #[.bool nx_g, .slice nx_o nx_n nx_c, .int .i64 nx_e] 26)) = x2 at s_k nx_k nx_D H hb ⊢
    refine (Cb.out _ H).mono ?_
    rintro _ y3 ⟨t0, t1, rfl, hw⟩
    have s_k := blk_up hw s_k
    have nx_k := blk_up hw nx_k
    have nx_D := nx_D.keeps hw
    have H := H.keeps hw
    have hb := bel_trans hb hw
    have s_k := heap_past (.cells #[.int .i64 t0, .int .i64 t1] 23) s_k
    have nx_k := heap_past (.cells #[.int .i64 t0, .int .i64 t1] 23) nx_k
    have t_k := heap_a1 y3 (.cells #[.int .i64 t0, .int .i64 t1] 23)
    have nx_D := nx_D.keeps (bel_alloc y3 (.cells #[.int .i64 t0, .int .i64 t1] 23))
    have H := H.keeps (bel_alloc y3 (.cells #[.int .i64 t0, .int .i64 t1] 23))
    have hb := bel_trans hb (bel_alloc y3 (.cells #[.int .i64 t0, .int .i64 t1] 23))
    have s_k := heap_past (.cells #[.bool false, .slice none 0 0, .int .i64 0] 26) s_k
    have nx_k := heap_past (.cells #[.bool false, .slice none 0 0, .int .i64 0] 26) nx_k
    have t_k := heap_past (.cells #[.bool false, .slice none 0 0, .int .i64 0] 26) t_k
    have ny_k := heap_b2 y3 (.cells #[.int .i64 t0, .int .i64 t1] 23) (.cells #[.bool false, .slice none 0 0, .int .i64 0] 26)
    have nx_D := nx_D.keeps (bel_alloc (y3.alloc (.cells #[.int .i64 t0, .int .i64 t1] 23)) (.cells #[.bool false, .slice none 0 0, .int .i64 0] 26))
    have H := H.keeps (bel_alloc (y3.alloc (.cells #[.int .i64 t0, .int .i64 t1] 23)) (.cells #[.bool false, .slice none 0 0, .int .i64 0] 26))
    have hb := bel_trans hb (bel_alloc (y3.alloc (.cells #[.int .i64 t0, .int .i64 t1] 23)) (.cells #[.bool false, .slice none 0 0, .int .i64 0] 26))
    go_wp2_with fail
    generalize ((y3.alloc (.cells #[.int .i64 t0, .int .i64 t1] 23)).alloc (.cells #[.bool false, .slice none 0 0, .int .i64 0] 26)) = x4 at s_k nx_k t_k ny_k nx_D H hb ⊢
    refine (CL.out _ H).mono ?_
    rintro _ y5 ⟨rfl, hw⟩
    have s_k := blk_up hw s_k
    have nx_k := blk_up hw nx_k
    have t_k := blk_up hw t_k
    have ny_k := blk_up hw ny_k
    have nx_D := nx_D.keeps hw
    have H := H.keeps hw
    have hb := bel_trans hb hw
    go_wp2_with fail
    refine (CL.out _ H).mono ?_
    rintro _ y6 ⟨rfl, hw⟩
    have s_k := blk_up hw s_k
    have nx_k := blk_up hw nx_k
    have t_k := blk_up hw t_k
    have ny_k := blk_up hw ny_k
    have nx_D := nx_D.keeps hw
    have H := H.keeps hw
    have hb := bel_trans hb hw
    go_wp2
    all_goals go_ret
    all_goals exact ⟨rfl, hb⟩
  · have Ca : Hid (∀ W, Hold4 W → _) := fun W h => around_steps ra pa rx ry W h
    have Cb : Hid (∀ W, Hold4 W → _) := fun W h => around_steps rb pb (shr_rng ry) (shr_rng rx) W h
    have hb := bel_refl w
    go_enter Tryd.func3, Tryd.ntmps3
    go_wp2_with fail
    refine (Ca.out _ H).mono ?_
    rintro _ y1 ⟨s0, s1, v, rfl, hs0, hs1, nx_D', ⟨nx_g, nx_o, nx_n, nx_c, nx_e, rfl⟩, hw⟩
    have H := H.keeps hw
    have hb := bel_trans hb hw
    have nx_D := nx_D'
    have s_k := heap_a1 y1 (.cells #[.int .i64 s0, .int .i64 s1] 23)
    have nx_D := nx_D.keeps (bel_alloc y1 (.cells #[.int .i64 s0, .int .i64 s1] 23))
    have H := H.keeps (bel_alloc y1 (.cells #[.int .i64 s0, .int .i64 s1] 23))
    have hb := bel_trans hb (bel_alloc y1 (.cells #[.int .i64 s0, .int .i64 s1] 23))
    have s_k := heap_past (.cells #[.bool nx_g, .slice nx_o nx_n nx_c, .int .i64 nx_e] 26) s_k
    have nx_k := heap_b2 y1 (.cells #[.int .i64 s0, .int .i64 s1] 23) (.cells #[.bool nx_g, .slice nx_o nx_n nx_c, .int .i64 nx_e] 26)
    have nx_D := nx_D.keeps (bel_alloc (y1.alloc (.cells #[.int .i64 s0, .int .i64 s1] 23)) (.cells #[.bool nx_g, .slice nx_o nx_n nx_c, .int .i64 nx_e] 26))
    have H := H.keeps (bel_alloc (y1.alloc (.cells #[.int .i64 s0, .int .i64 s1] 23)) (.cells #[.bool nx_g, .slice nx_o nx_n nx_c, .int .i64 nx_e] 26))
    have hb := bel_trans hb (bel_alloc (y1.alloc (.cells #[.int .i64 s0, .int .i64 s1] 23)) (.cells #[.bool nx_g, .slice nx_o nx_n nx_c, .int .i64 nx_e] 26))
    go_wp2_with fail
    generalize ((y1.alloc (.cells #[.int .i64 s0, .int .i64 s1] 23)).alloc (.cells #[.bool nx_g, .slice nx_o nx_n nx_c, .int .i64 nx_e] 26)) = x2 at s_k nx_k nx_D H hb ⊢
    refine (Cb.out _ H).mono ?_
    rintro _ y3 ⟨t0, t1, v, rfl, ht0, ht1, ny_D', ⟨ny_g, ny_o, ny_n, ny_c, ny_e, rfl⟩, hw⟩
    have s_k := blk_up hw s_k
    have nx_k := blk_up hw nx_k
    have nx_D := nx_D.keeps hw
    have H := H.keeps hw
    have hb := bel_trans hb hw
    have ny_D := ny_D'
    have s_k := heap_past (.cells #[.int .i64 t0, .int .i64 t1] 23) s_k
    have nx_k := heap_past (.cells #[.int .i64 t0, .int .i64 t1] 23) nx_k
    have t_k := heap_a1 y3 (.cells #[.int .i64 t0, .int .i64 t1] 23)
    have nx_D := nx_D.keeps (bel_alloc y3 (.cells #[.int .i64 t0, .int .i64 t1] 23))
    have ny_D := ny_D.keeps (bel_alloc y3 (.cells #[.int .i64 t0, .int .i64 t1] 23))
    have H := H.keeps (bel_alloc y3 (.cells #[.int .i64 t0, .int .i64 t1] 23))
    have hb := bel_trans hb (bel_alloc y3 (.cells #[.int .i64 t0, .int .i64 t1] 23))
    have s_k := heap_past (.cells #[.bool ny_g, .slice ny_o ny_n ny_c, .int .i64 ny_e] 26) s_k
    have nx_k := heap_past (.cells #[.bool ny_g, .slice ny_o ny_n ny_c, .int .i64 ny_e] 26) nx_k
    have t_k := heap_past (.cells #[.bool ny_g, .slice ny_o ny_n ny_c, .int .i64 ny_e] 26) t_k
    have ny_k := heap_b2 y3 (.cells #[.int .i64 t0, .int .i64 t1] 23) (.cells #[.bool ny_g, .slice ny_o ny_n ny_c, .int .i64 ny_e] 26)
    have nx_D := nx_D.keeps (bel_alloc (y3.alloc (.cells #[.int .i64 t0, .int .i64 t1] 23)) (.cells #[.bool ny_g, .slice ny_o ny_n ny_c, .int .i64 ny_e] 26))
    have ny_D := ny_D.keeps (bel_alloc (y3.alloc (.cells #[.int .i64 t0, .int .i64 t1] 23)) (.cells #[.bool ny_g, .slice ny_o ny_n ny_c, .int .i64 ny_e] 26))
    have H := H.keeps (bel_alloc (y3.alloc (.cells #[.int .i64 t0, .int .i64 t1] 23)) (.cells #[.bool ny_g, .slice ny_o ny_n ny_c, .int .i64 ny_e] 26))
    have hb := bel_trans hb (bel_alloc (y3.alloc (.cells #[.int .i64 t0, .int .i64 t1] 23)) (.cells #[.bool ny_g, .slice ny_o ny_n ny_c, .int .i64 ny_e] 26))
    go_wp2_with fail
    generalize ((y3.alloc (.cells #[.int .i64 t0, .int .i64 t1] 23)).alloc (.cells #[.bool ny_g, .slice ny_o ny_n ny_c, .int .i64 ny_e] 26)) = x4 at s_k nx_k t_k ny_k nx_D ny_D H hb ⊢
    refine (CL.out _ H).mono ?_
    rintro _ y5 ⟨rfl, hw⟩
    have s_k := blk_up hw s_k
    have nx_k := blk_up hw nx_k
    have t_k := blk_up hw t_k
    have ny_k := blk_up hw ny_k
    have nx_D := nx_D.keeps hw
    have ny_D := ny_D.keeps hw
    have H := H.keeps hw
    have hb := bel_trans hb hw
    have S := Pin2.of ra pa hs0 hs1
    have T := Pin2.of rb pb ht0 ht1
    have okx := (patV_bd pa).ok (by omega)
    have oky := (patV_bd pb).ok (by omega)
    have VX : Hid (∀ W, Hold4 W → DNum W (.agg #[.bool nx_g, .slice nx_o nx_n nx_c, .int .i64 nx_e]) (patV a) → Calls Tryd.prog 6 #[.agg #[.bool nx_g, .slice nx_o nx_n nx_c, .int .i64 nx_e]] W fun r w' => r = .returned (.tuple #[.agg #[.int .i64 (cLo (patV a)), .int .i64 (cHi (patV a))], .int .i64 0]) ∧ Below W.heap.size W w') := fun W h hd => around_V hd okx h W (bel_refl W)
    have VY : Hid (∀ W, Hold4 W → DNum W (.agg #[.bool ny_g, .slice ny_o ny_n ny_c, .int .i64 ny_e]) (patV b) → Calls Tryd.prog 6 #[.agg #[.bool ny_g, .slice ny_o ny_n ny_c, .int .i64 ny_e]] W fun r w' => r = .returned (.tuple #[.agg #[.int .i64 (cLo (patV b)), .int .i64 (cHi (patV b))], .int .i64 0]) ∧ Below W.heap.size W w') := fun W h hd => around_V hd oky h W (bel_refl W)
    obtain ⟨c0, c1, Cc, Oc⟩ := add_has S T
    obtain ⟨m0, m1, Cm, Om⟩ := mul_has S T
    obtain ⟨v0, v1, Cv, Ov⟩ := sq_has S
    obtain ⟨k0, k1, Ck, Ok⟩ := mul_has S S
    have Cd := add_at ra rb pa pb
    have Cn := mul_at ra rb pa pb
    have Cw := sq_at ra pa
    have Od := at_okk (patV a + patV b)
    have On := at_okk (mulS (patV a) (patV b))
    have Ow := at_okk (mulS (patV a) (patV a))
    have W1 : Hid (∀ W, Hold4 W → _) := fun W h => within_yes Od.lo Od.hi Oc.lo Oc.hi Od.cl Od.ch Oc.cl Oc.ch Od.ok Oc.ok Oc.kl Oc.kh W h
    have W2 : Hid (∀ W, Hold4 W → _) := fun W h => within_yes On.lo On.hi Om.lo Om.hi On.cl On.ch Om.cl Om.ch On.ok Om.ok Om.kl Om.kh W h
    have W3 : Hid (∀ W, Hold4 W → _) := fun W h => within_yes Ow.lo Ow.hi Ov.lo Ov.hi Ow.cl Ow.ch Ov.cl Ov.ch Ow.ok Ov.ok Ov.kl Ov.kh W h
    have W4 : Hid (∀ W, Hold4 W → _) := fun W h => within_yes Ow.lo Ow.hi Ok.lo Ok.hi Ow.cl Ow.ch Ok.cl Ok.ch Ow.ok Ok.ok Ok.kl Ok.kh W h
    have QK : Hid (∀ W, Hold4 W → _) := fun W h => square_any W h Ck
    clear Oc Om Ov Ok Od On Ow Ck S T okx oky
    generalize cLo (patV a) = p0 at VX VY Cd Cn Cw W1 W2 W3 W4
    generalize cHi (patV a) = p1 at VX VY Cd Cn Cw W1 W2 W3 W4
    generalize cLo (patV b) = q0 at VX VY Cd Cn Cw W1 W2 W3 W4
    generalize cHi (patV b) = q1 at VX VY Cd Cn Cw W1 W2 W3 W4
    generalize cLo (patV a + patV b) = d0 at VX VY Cd Cn Cw W1 W2 W3 W4
    generalize cHi (patV a + patV b) = d1 at VX VY Cd Cn Cw W1 W2 W3 W4
    generalize cLo (mulS (patV a) (patV b)) = n0 at VX VY Cd Cn Cw W1 W2 W3 W4
    generalize cHi (mulS (patV a) (patV b)) = n1 at VX VY Cd Cn Cw W1 W2 W3 W4
    generalize cLo (mulS (patV a) (patV a)) = w0 at VX VY Cd Cn Cw W1 W2 W3 W4
    generalize cHi (mulS (patV a) (patV a)) = w1 at VX VY Cd Cn Cw W1 W2 W3 W4
    have f_nx0 := blkC nx_k 0 rfl
    have f_nx1 := blkC nx_k 1 rfl
    have f_nx2 := blkC nx_k 2 rfl
    go_wp2_with fail
    clear f_nx0 f_nx1 f_nx2
    refine (VX.out _ H nx_D).mono ?_
    rintro _ y6 ⟨rfl, hw⟩
    have s_k := blk_up hw s_k
    have nx_k := blk_up hw nx_k
    have t_k := blk_up hw t_k
    have ny_k := blk_up hw ny_k
    have nx_D := nx_D.keeps hw
    have ny_D := ny_D.keeps hw
    have H := H.keeps hw
    have hb := bel_trans hb hw
    have s_k := heap_past (.cells #[.int .i64 p0, .int .i64 p1] 23) s_k
    have nx_k := heap_past (.cells #[.int .i64 p0, .int .i64 p1] 23) nx_k
    have t_k := heap_past (.cells #[.int .i64 p0, .int .i64 p1] 23) t_k
    have ny_k := heap_past (.cells #[.int .i64 p0, .int .i64 p1] 23) ny_k
    have p_k := heap_a1 y6 (.cells #[.int .i64 p0, .int .i64 p1] 23)
    have nx_D := nx_D.keeps (bel_alloc y6 (.cells #[.int .i64 p0, .int .i64 p1] 23))
    have ny_D := ny_D.keeps (bel_alloc y6 (.cells #[.int .i64 p0, .int .i64 p1] 23))
    have H := H.keeps (bel_alloc y6 (.cells #[.int .i64 p0, .int .i64 p1] 23))
    have hb := bel_trans hb (bel_alloc y6 (.cells #[.int .i64 p0, .int .i64 p1] 23))
    have f_ny0 := blkC ny_k 0 rfl
    have f_ny1 := blkC ny_k 1 rfl
    have f_ny2 := blkC ny_k 2 rfl
    go_wp2_with fail
    clear f_ny0 f_ny1 f_ny2
    generalize (y6.alloc (.cells #[.int .i64 p0, .int .i64 p1] 23)) = x7 at s_k nx_k t_k ny_k p_k nx_D ny_D H hb ⊢
    refine (VY.out _ H ny_D).mono ?_
    rintro _ y8 ⟨rfl, hw⟩
    have s_k := blk_up hw s_k
    have nx_k := blk_up hw nx_k
    have t_k := blk_up hw t_k
    have ny_k := blk_up hw ny_k
    have p_k := blk_up hw p_k
    have nx_D := nx_D.keeps hw
    have ny_D := ny_D.keeps hw
    have H := H.keeps hw
    have hb := bel_trans hb hw
    have s_k := heap_past (.cells #[.int .i64 q0, .int .i64 q1] 23) s_k
    have nx_k := heap_past (.cells #[.int .i64 q0, .int .i64 q1] 23) nx_k
    have t_k := heap_past (.cells #[.int .i64 q0, .int .i64 q1] 23) t_k
    have ny_k := heap_past (.cells #[.int .i64 q0, .int .i64 q1] 23) ny_k
    have p_k := heap_past (.cells #[.int .i64 q0, .int .i64 q1] 23) p_k
    have q_k := heap_a1 y8 (.cells #[.int .i64 q0, .int .i64 q1] 23)
    have nx_D := nx_D.keeps (bel_alloc y8 (.cells #[.int .i64 q0, .int .i64 q1] 23))
    have ny_D := ny_D.keeps (bel_alloc y8 (.cells #[.int .i64 q0, .int .i64 q1] 23))
    have H := H.keeps (bel_alloc y8 (.cells #[.int .i64 q0, .int .i64 q1] 23))
    have hb := bel_trans hb (bel_alloc y8 (.cells #[.int .i64 q0, .int .i64 q1] 23))
    have f_s0 := blkC s_k 0 rfl
    have f_s1 := blkC s_k 1 rfl
    have f_t0 := blkC t_k 0 rfl
    have f_t1 := blkC t_k 1 rfl
    go_wp2_with fail
    clear f_s0 f_s1 f_t0 f_t1
    generalize (y8.alloc (.cells #[.int .i64 q0, .int .i64 q1] 23)) = x9 at s_k nx_k t_k ny_k p_k q_k nx_D ny_D H hb ⊢
    refine (Cc.out _ H).mono ?_
    rintro _ y10 ⟨rfl, hw⟩
    have s_k := blk_up hw s_k
    have nx_k := blk_up hw nx_k
    have t_k := blk_up hw t_k
    have ny_k := blk_up hw ny_k
    have p_k := blk_up hw p_k
    have q_k := blk_up hw q_k
    have nx_D := nx_D.keeps hw
    have ny_D := ny_D.keeps hw
    have H := H.keeps hw
    have hb := bel_trans hb hw
    have s_k := heap_past (.cells #[.int .i64 c0, .int .i64 c1] 23) s_k
    have nx_k := heap_past (.cells #[.int .i64 c0, .int .i64 c1] 23) nx_k
    have t_k := heap_past (.cells #[.int .i64 c0, .int .i64 c1] 23) t_k
    have ny_k := heap_past (.cells #[.int .i64 c0, .int .i64 c1] 23) ny_k
    have p_k := heap_past (.cells #[.int .i64 c0, .int .i64 c1] 23) p_k
    have q_k := heap_past (.cells #[.int .i64 c0, .int .i64 c1] 23) q_k
    have c_k := heap_a1 y10 (.cells #[.int .i64 c0, .int .i64 c1] 23)
    have nx_D := nx_D.keeps (bel_alloc y10 (.cells #[.int .i64 c0, .int .i64 c1] 23))
    have ny_D := ny_D.keeps (bel_alloc y10 (.cells #[.int .i64 c0, .int .i64 c1] 23))
    have H := H.keeps (bel_alloc y10 (.cells #[.int .i64 c0, .int .i64 c1] 23))
    have hb := bel_trans hb (bel_alloc y10 (.cells #[.int .i64 c0, .int .i64 c1] 23))
    have f_p0 := blkC p_k 0 rfl
    have f_p1 := blkC p_k 1 rfl
    have f_q0 := blkC q_k 0 rfl
    have f_q1 := blkC q_k 1 rfl
    go_wp2_with fail
    clear f_p0 f_p1 f_q0 f_q1
    generalize (y10.alloc (.cells #[.int .i64 c0, .int .i64 c1] 23)) = x11 at s_k nx_k t_k ny_k p_k q_k c_k nx_D ny_D H hb ⊢
    refine (Cd.out _ H).mono ?_
    rintro _ y12 ⟨rfl, hw⟩
    have s_k := blk_up hw s_k
    have nx_k := blk_up hw nx_k
    have t_k := blk_up hw t_k
    have ny_k := blk_up hw ny_k
    have p_k := blk_up hw p_k
    have q_k := blk_up hw q_k
    have c_k := blk_up hw c_k
    have nx_D := nx_D.keeps hw
    have ny_D := ny_D.keeps hw
    have H := H.keeps hw
    have hb := bel_trans hb hw
    have s_k := heap_past (.cells #[.int .i64 d0, .int .i64 d1] 23) s_k
    have nx_k := heap_past (.cells #[.int .i64 d0, .int .i64 d1] 23) nx_k
    have t_k := heap_past (.cells #[.int .i64 d0, .int .i64 d1] 23) t_k
    have ny_k := heap_past (.cells #[.int .i64 d0, .int .i64 d1] 23) ny_k
    have p_k := heap_past (.cells #[.int .i64 d0, .int .i64 d1] 23) p_k
    have q_k := heap_past (.cells #[.int .i64 d0, .int .i64 d1] 23) q_k
    have c_k := heap_past (.cells #[.int .i64 d0, .int .i64 d1] 23) c_k
    have d_k := heap_a1 y12 (.cells #[.int .i64 d0, .int .i64 d1] 23)
    have nx_D := nx_D.keeps (bel_alloc y12 (.cells #[.int .i64 d0, .int .i64 d1] 23))
    have ny_D := ny_D.keeps (bel_alloc y12 (.cells #[.int .i64 d0, .int .i64 d1] 23))
    have H := H.keeps (bel_alloc y12 (.cells #[.int .i64 d0, .int .i64 d1] 23))
    have hb := bel_trans hb (bel_alloc y12 (.cells #[.int .i64 d0, .int .i64 d1] 23))
    have f_s0 := blkC s_k 0 rfl
    have f_s1 := blkC s_k 1 rfl
    have f_t0 := blkC t_k 0 rfl
    have f_t1 := blkC t_k 1 rfl
    go_wp2_with fail
    clear f_s0 f_s1 f_t0 f_t1
    generalize (y12.alloc (.cells #[.int .i64 d0, .int .i64 d1] 23)) = x13 at s_k nx_k t_k ny_k p_k q_k c_k d_k nx_D ny_D H hb ⊢
    refine (Cm.out _ H).mono ?_
    rintro _ y14 ⟨rfl, hw⟩
    have s_k := blk_up hw s_k
    have nx_k := blk_up hw nx_k
    have t_k := blk_up hw t_k
    have ny_k := blk_up hw ny_k
    have p_k := blk_up hw p_k
    have q_k := blk_up hw q_k
    have c_k := blk_up hw c_k
    have d_k := blk_up hw d_k
    have nx_D := nx_D.keeps hw
    have ny_D := ny_D.keeps hw
    have H := H.keeps hw
    have hb := bel_trans hb hw
    have s_k := heap_past (.cells #[.int .i64 m0, .int .i64 m1] 23) s_k
    have nx_k := heap_past (.cells #[.int .i64 m0, .int .i64 m1] 23) nx_k
    have t_k := heap_past (.cells #[.int .i64 m0, .int .i64 m1] 23) t_k
    have ny_k := heap_past (.cells #[.int .i64 m0, .int .i64 m1] 23) ny_k
    have p_k := heap_past (.cells #[.int .i64 m0, .int .i64 m1] 23) p_k
    have q_k := heap_past (.cells #[.int .i64 m0, .int .i64 m1] 23) q_k
    have c_k := heap_past (.cells #[.int .i64 m0, .int .i64 m1] 23) c_k
    have d_k := heap_past (.cells #[.int .i64 m0, .int .i64 m1] 23) d_k
    have m_k := heap_a1 y14 (.cells #[.int .i64 m0, .int .i64 m1] 23)
    have nx_D := nx_D.keeps (bel_alloc y14 (.cells #[.int .i64 m0, .int .i64 m1] 23))
    have ny_D := ny_D.keeps (bel_alloc y14 (.cells #[.int .i64 m0, .int .i64 m1] 23))
    have H := H.keeps (bel_alloc y14 (.cells #[.int .i64 m0, .int .i64 m1] 23))
    have hb := bel_trans hb (bel_alloc y14 (.cells #[.int .i64 m0, .int .i64 m1] 23))
    have f_p0 := blkC p_k 0 rfl
    have f_p1 := blkC p_k 1 rfl
    have f_q0 := blkC q_k 0 rfl
    have f_q1 := blkC q_k 1 rfl
    go_wp2_with fail
    clear f_p0 f_p1 f_q0 f_q1
    generalize (y14.alloc (.cells #[.int .i64 m0, .int .i64 m1] 23)) = x15 at s_k nx_k t_k ny_k p_k q_k c_k d_k m_k nx_D ny_D H hb ⊢
    refine (Cn.out _ H).mono ?_
    rintro _ y16 ⟨rfl, hw⟩
    have s_k := blk_up hw s_k
    have nx_k := blk_up hw nx_k
    have t_k := blk_up hw t_k
    have ny_k := blk_up hw ny_k
    have p_k := blk_up hw p_k
    have q_k := blk_up hw q_k
    have c_k := blk_up hw c_k
    have d_k := blk_up hw d_k
    have m_k := blk_up hw m_k
    have nx_D := nx_D.keeps hw
    have ny_D := ny_D.keeps hw
    have H := H.keeps hw
    have hb := bel_trans hb hw
    have s_k := heap_past (.cells #[.int .i64 n0, .int .i64 n1] 23) s_k
    have nx_k := heap_past (.cells #[.int .i64 n0, .int .i64 n1] 23) nx_k
    have t_k := heap_past (.cells #[.int .i64 n0, .int .i64 n1] 23) t_k
    have ny_k := heap_past (.cells #[.int .i64 n0, .int .i64 n1] 23) ny_k
    have p_k := heap_past (.cells #[.int .i64 n0, .int .i64 n1] 23) p_k
    have q_k := heap_past (.cells #[.int .i64 n0, .int .i64 n1] 23) q_k
    have c_k := heap_past (.cells #[.int .i64 n0, .int .i64 n1] 23) c_k
    have d_k := heap_past (.cells #[.int .i64 n0, .int .i64 n1] 23) d_k
    have m_k := heap_past (.cells #[.int .i64 n0, .int .i64 n1] 23) m_k
    have n_k := heap_a1 y16 (.cells #[.int .i64 n0, .int .i64 n1] 23)
    have nx_D := nx_D.keeps (bel_alloc y16 (.cells #[.int .i64 n0, .int .i64 n1] 23))
    have ny_D := ny_D.keeps (bel_alloc y16 (.cells #[.int .i64 n0, .int .i64 n1] 23))
    have H := H.keeps (bel_alloc y16 (.cells #[.int .i64 n0, .int .i64 n1] 23))
    have hb := bel_trans hb (bel_alloc y16 (.cells #[.int .i64 n0, .int .i64 n1] 23))
    have f_s0 := blkC s_k 0 rfl
    have f_s1 := blkC s_k 1 rfl
    go_wp2_with fail
    clear f_s0 f_s1
    generalize (y16.alloc (.cells #[.int .i64 n0, .int .i64 n1] 23)) = x17 at s_k nx_k t_k ny_k p_k q_k c_k d_k m_k n_k nx_D ny_D H hb ⊢
    refine (Cv.out _ H).mono ?_
    rintro _ y18 ⟨rfl, hw⟩
    have s_k := blk_up hw s_k
    have nx_k := blk_up hw nx_k
    have t_k := blk_up hw t_k
    have ny_k := blk_up hw ny_k
    have p_k := blk_up hw p_k
    have q_k := blk_up hw q_k
    have c_k := blk_up hw c_k
    have d_k := blk_up hw d_k
    have m_k := blk_up hw m_k
    have n_k := blk_up hw n_k
    have nx_D := nx_D.keeps hw
    have ny_D := ny_D.keeps hw
    have H := H.keeps hw
    have hb := bel_trans hb hw
    have s_k := heap_past (.cells #[.int .i64 v0, .int .i64 v1] 23) s_k
    have nx_k := heap_past (.cells #[.int .i64 v0, .int .i64 v1] 23) nx_k
    have t_k := heap_past (.cells #[.int .i64 v0, .int .i64 v1] 23) t_k
    have ny_k := heap_past (.cells #[.int .i64 v0, .int .i64 v1] 23) ny_k
    have p_k := heap_past (.cells #[.int .i64 v0, .int .i64 v1] 23) p_k
    have q_k := heap_past (.cells #[.int .i64 v0, .int .i64 v1] 23) q_k
    have c_k := heap_past (.cells #[.int .i64 v0, .int .i64 v1] 23) c_k
    have d_k := heap_past (.cells #[.int .i64 v0, .int .i64 v1] 23) d_k
    have m_k := heap_past (.cells #[.int .i64 v0, .int .i64 v1] 23) m_k
    have n_k := heap_past (.cells #[.int .i64 v0, .int .i64 v1] 23) n_k
    have v_k := heap_a1 y18 (.cells #[.int .i64 v0, .int .i64 v1] 23)
    have nx_D := nx_D.keeps (bel_alloc y18 (.cells #[.int .i64 v0, .int .i64 v1] 23))
    have ny_D := ny_D.keeps (bel_alloc y18 (.cells #[.int .i64 v0, .int .i64 v1] 23))
    have H := H.keeps (bel_alloc y18 (.cells #[.int .i64 v0, .int .i64 v1] 23))
    have hb := bel_trans hb (bel_alloc y18 (.cells #[.int .i64 v0, .int .i64 v1] 23))
    have f_p0 := blkC p_k 0 rfl
    have f_p1 := blkC p_k 1 rfl
    go_wp2_with fail
    clear f_p0 f_p1
    generalize (y18.alloc (.cells #[.int .i64 v0, .int .i64 v1] 23)) = x19 at s_k nx_k t_k ny_k p_k q_k c_k d_k m_k n_k v_k nx_D ny_D H hb ⊢
    refine (Cw.out _ H).mono ?_
    rintro _ y20 ⟨rfl, hw⟩
    have s_k := blk_up hw s_k
    have nx_k := blk_up hw nx_k
    have t_k := blk_up hw t_k
    have ny_k := blk_up hw ny_k
    have p_k := blk_up hw p_k
    have q_k := blk_up hw q_k
    have c_k := blk_up hw c_k
    have d_k := blk_up hw d_k
    have m_k := blk_up hw m_k
    have n_k := blk_up hw n_k
    have v_k := blk_up hw v_k
    have nx_D := nx_D.keeps hw
    have ny_D := ny_D.keeps hw
    have H := H.keeps hw
    have hb := bel_trans hb hw
    have s_k := heap_past (.cells #[.int .i64 w0, .int .i64 w1] 23) s_k
    have nx_k := heap_past (.cells #[.int .i64 w0, .int .i64 w1] 23) nx_k
    have t_k := heap_past (.cells #[.int .i64 w0, .int .i64 w1] 23) t_k
    have ny_k := heap_past (.cells #[.int .i64 w0, .int .i64 w1] 23) ny_k
    have p_k := heap_past (.cells #[.int .i64 w0, .int .i64 w1] 23) p_k
    have q_k := heap_past (.cells #[.int .i64 w0, .int .i64 w1] 23) q_k
    have c_k := heap_past (.cells #[.int .i64 w0, .int .i64 w1] 23) c_k
    have d_k := heap_past (.cells #[.int .i64 w0, .int .i64 w1] 23) d_k
    have m_k := heap_past (.cells #[.int .i64 w0, .int .i64 w1] 23) m_k
    have n_k := heap_past (.cells #[.int .i64 w0, .int .i64 w1] 23) n_k
    have v_k := heap_past (.cells #[.int .i64 w0, .int .i64 w1] 23) v_k
    have u_k := heap_a1 y20 (.cells #[.int .i64 w0, .int .i64 w1] 23)
    have nx_D := nx_D.keeps (bel_alloc y20 (.cells #[.int .i64 w0, .int .i64 w1] 23))
    have ny_D := ny_D.keeps (bel_alloc y20 (.cells #[.int .i64 w0, .int .i64 w1] 23))
    have H := H.keeps (bel_alloc y20 (.cells #[.int .i64 w0, .int .i64 w1] 23))
    have hb := bel_trans hb (bel_alloc y20 (.cells #[.int .i64 w0, .int .i64 w1] 23))
    go_wp2_with fail
    generalize (y20.alloc (.cells #[.int .i64 w0, .int .i64 w1] 23)) = x21 at s_k nx_k t_k ny_k p_k q_k c_k d_k m_k n_k v_k u_k nx_D ny_D H hb ⊢
    have Bd0 : Below x21.heap.size x21 x21.drew := (bel_refl _).drew
    have HH0 := H.keeps Bd0
    clear VX VY Cc Cd Cm Cn Cv Cw CL Ca Cb
    have KK : ∀ W, Below x21.heap.size x21 W → W.cell? ⟨y12.heap.size, 0, none⟩ = some (.int .i64 d0) ∧ W.cell? ⟨y12.heap.size, 1, none⟩ = some (.int .i64 d1) ∧ W.cell? ⟨y10.heap.size, 0, none⟩ = some (.int .i64 c0) ∧ W.cell? ⟨y10.heap.size, 1, none⟩ = some (.int .i64 c1) ∧ W.cell? ⟨y16.heap.size, 0, none⟩ = some (.int .i64 n0) ∧ W.cell? ⟨y16.heap.size, 1, none⟩ = some (.int .i64 n1) ∧ W.cell? ⟨y14.heap.size, 0, none⟩ = some (.int .i64 m0) ∧ W.cell? ⟨y14.heap.size, 1, none⟩ = some (.int .i64 m1) ∧ W.cell? ⟨y20.heap.size, 0, none⟩ = some (.int .i64 w0) ∧ W.cell? ⟨y20.heap.size, 1, none⟩ = some (.int .i64 w1) ∧ W.cell? ⟨y18.heap.size, 0, none⟩ = some (.int .i64 v0) ∧ W.cell? ⟨y18.heap.size, 1, none⟩ = some (.int .i64 v1) ∧ W.cell? ⟨y1.heap.size, 0, none⟩ = some (.int .i64 s0) ∧ W.cell? ⟨y1.heap.size, 1, none⟩ = some (.int .i64 s1) := fun W hW => ⟨q_cell (blkC d_k 0 rfl) hW, q_cell (blkC d_k 1 rfl) hW, q_cell (blkC c_k 0 rfl) hW, q_cell (blkC c_k 1 rfl) hW, q_cell (blkC n_k 0 rfl) hW, q_cell (blkC n_k 1 rfl) hW, q_cell (blkC m_k 0 rfl) hW, q_cell (blkC m_k 1 rfl) hW, q_cell (blkC u_k 0 rfl) hW, q_cell (blkC u_k 1 rfl) hW, q_cell (blkC v_k 0 rfl) hW, q_cell (blkC v_k 1 rfl) hW, q_cell (blkC s_k 0 rfl) hW, q_cell (blkC s_k 1 rfl) hW⟩
    go_region_held3 (fun W => W.cell? ⟨y12.heap.size, 0, none⟩ = some (.int .i64 d0) ∧ W.cell? ⟨y12.heap.size, 1, none⟩ = some (.int .i64 d1) ∧ W.cell? ⟨y10.heap.size, 0, none⟩ = some (.int .i64 c0) ∧ W.cell? ⟨y10.heap.size, 1, none⟩ = some (.int .i64 c1) ∧ W.cell? ⟨y16.heap.size, 0, none⟩ = some (.int .i64 n0) ∧ W.cell? ⟨y16.heap.size, 1, none⟩ = some (.int .i64 n1) ∧ W.cell? ⟨y14.heap.size, 0, none⟩ = some (.int .i64 m0) ∧ W.cell? ⟨y14.heap.size, 1, none⟩ = some (.int .i64 m1) ∧ W.cell? ⟨y20.heap.size, 0, none⟩ = some (.int .i64 w0) ∧ W.cell? ⟨y20.heap.size, 1, none⟩ = some (.int .i64 w1) ∧ W.cell? ⟨y18.heap.size, 0, none⟩ = some (.int .i64 v0) ∧ W.cell? ⟨y18.heap.size, 1, none⟩ = some (.int .i64 v1) ∧ W.cell? ⟨y1.heap.size, 0, none⟩ = some (.int .i64 s0) ∧ W.cell? ⟨y1.heap.size, 1, none⟩ = some (.int .i64 s1))
      (first | assumption | exact KK _ Bd0 | exact KK _ Bd1 | exact KK _ Bd2 | exact KK _ Bd3 | exact KK _ Bd4 | exact KK _ Bd5 | fail)
      (first
        | (go_at_call 10; have _t := hz4; refine (W4.out _ HH4).mono ?_; rintro _ z5 ⟨rfl, hz5⟩; have Bd5 := bel_trans Bd4 hz5; have HH5 := HH4.keeps hz5)
        | (go_at_call 11; have _t := hz3; refine (QK.out _ HH3).mono ?_; rintro _ z4 ⟨rfl, hz4⟩; have Bd4 := bel_trans Bd3 hz4; have HH4 := HH3.keeps hz4)
        | (go_at_call 10; have _t := hz2; refine (W3.out _ HH2).mono ?_; rintro _ z3 ⟨rfl, hz3⟩; have Bd3 := bel_trans Bd2 hz3; have HH3 := HH2.keeps hz3)
        | (go_at_call 10; have _t := hz1; refine (W2.out _ HH1).mono ?_; rintro _ z2 ⟨rfl, hz2⟩; have Bd2 := bel_trans Bd1 hz2; have HH2 := HH1.keeps hz2)
        | (go_at_call 10; refine (W1.out _ HH0).mono ?_; rintro _ z1 ⟨rfl, hz1⟩; have Bd1 := bel_trans Bd0 hz1; have HH1 := HH0.keeps hz1))
    go_wp2
    all_goals go_ret
    all_goals exact ⟨rfl, bel_trans hb Bd5⟩
theorem own : ownKnob Tryd.prog.godebug = none := by kernel_rfl
theorem laidOut : laidOutB Tryd.prog = true := by kernel_rfl
theorem door_met (os : Os) (args : Array Value) : laidMetH Tryd.prog Rows.spanLessRow.laid ((World.doorLaid Tryd.prog 400 os).forCall (fun _ _ => 0) ⟨#[], args, []⟩).memory :=
  laidMetH_of_parts3 (fuel := 8) (laidMet_of_run' 8 (by kernel_rfl) (by kernel_rfl)) (by kernel_rfl) (by kernel_rfl)
set_option maxRecDepth 100000 in
theorem lifted (os : Os) (started : os.Started) (H : Type) (enc : TypeId × Value → H) :
    ReturnsInHanded {} Tryd.checked os 3 .any (fun w args => (Rows.spanLessSpec.pre enc Tryd.prog Tryd.f3 [] false w args ∧ laidMetH Tryd.prog Rows.spanLessRow.laid w) ∧ sizedMet enc Tryd.prog Tryd.f3 (OpenSpec.ofChange Rows.spanLessSpec) false w args)
      (Rows.spanLessSpec.post enc Tryd.prog Tryd.f3 false true false false) := by
  refine returnsInHanded_of_change_and (C := Tryd.checked) (X := fun w _ => laidMetH Tryd.prog Rows.spanLessRow.laid w) (fun _ _ _ hh h => h.of_heap hh) own started (by kernel_rfl) Tryd.func3
    (ChangeSpec.witness_shaped (enc := enc) (C := Tryd.checked) (os := os) (X := fun w _ => laidMetH Tryd.prog Rows.spanLessRow.laid w) false (World.doorLaid Tryd.prog 400 os) #[.int .i64 0, .int .i64 0, .int .i64 0, .int .i64 0] 8 rfl (World.shaped_of_RefB (by kernel_rfl) (by kernel_rfl)) (by kernel_rfl) (by kernel_rfl) (by kernel_rfl) (door_met os _)) ?_
  intro W base args ds gs before hval0 hW _ _ hL _
  have hval : ∀ (j : Nat) t v, Tryd.f3.params[j]? = some t → args[j]? = some v → Value.okWide Tryd.prog W .any base t v := hval0
  have hW' := hW
  obtain ⟨p, q, hA0, hV, rfl, hfz, hnd⟩ := hW
  have hA : DataW.TrodAll enc Tryd.prog W 0 (fun _ => true) true Tryd.f3.params.toList args.toList ds p := hA0
  rw [Tryd.params3] at hA hval
  obtain ⟨v0, vs0, d0, ds0, p0, q0, hargs, rfl, rfl, h0, r0⟩ := trodAll_cons hA
  obtain ⟨v1, vs1, d1, ds1, p1, q1, rfl, rfl, rfl, h1, r1⟩ := trodAll_cons r0
  obtain ⟨v2, vs2, d2, ds2, p2, q2, rfl, rfl, rfl, h2, r2⟩ := trodAll_cons r1
  obtain ⟨v3, vs3, d3, ds3, p3, q3, rfl, rfl, rfl, h3, r3⟩ := trodAll_cons r2
  obtain ⟨rfl, rfl, rfl⟩ := trodAll_nil r3
  obtain rfl : args = #[v0, v1, v2, v3] := by cases args; simp_all
  obtain ⟨rfl, rfl⟩ := trodVars_none hV
  obtain ⟨a0, rfl, rfl, rfl, w0⟩ := open_int Tryd.underlying3 (hval 0 3 v0 rfl rfl) h0
  obtain ⟨a1, rfl, rfl, rfl, w1⟩ := open_int Tryd.underlying3 (hval 1 3 v1 rfl rfl) h1
  obtain ⟨a2, rfl, rfl, rfl, w2⟩ := open_int Tryd.underlying3 (hval 2 3 v2 rfl rfl) h2
  obtain ⟨a3, rfl, rfl, rfl, w3⟩ := open_int Tryd.underlying3 (hval 3 3 v3 rfl rfl) h3
  clear hA0 hval0
  refine (walk a0 a1 a2 a3 W (rng_of w0) (rng_of w1) (rng_of w2) (rng_of w3) (hold9_of hL)).mono fun e W' ⟨he, bel⟩ => ?_
  subst he
  exact ⟨_, rfl, _, _, _, [], _, [], hW', trodAll_mk1 (shut_bool Tryd.underlying4 _), (trodAll_cons_mk (shut_int Tryd.underlying3 w0) (trodAll_cons_mk (shut_int Tryd.underlying3 w1) (trodAll_cons_mk (shut_int Tryd.underlying3 w2) (trodAll_cons_mk (shut_int Tryd.underlying3 w3) trodAll_mk0)))), rfl, bel.frame _, fun h => by cases h⟩
theorem said : Rows.SpanLessSaid :=
  OpenClaim.holds_of_wide 3 Tryd.f3 rfl rfl rfl rfl rfl rfl rfl ⟨rfl, rfl, rfl, rfl, rfl⟩ rfl rfl rfl rfl rfl (by kernel_rfl) Tryd.func3 (by kernel_rfl)
    (of_decide_eq_true (by kernel_rfl)) (by unfold Func.isWrapper; first | (rw [if_pos (by decide +kernel)]; kernel_rfl) | (rw [if_neg (by decide +kernel)]; exact ⟨rfl, rfl⟩))
    (fun os started H enc _ => lifted os started H enc)
theorem plain (f : FuncId) (fn : Func) (hf : Tryd.pinned.checked.prog.funcNamed Tryd.f3.name = some f) (hfn : Tryd.pinned.checked.prog.funcs[f]? = some fn) :
    true = Tryd.pinned.checked.prog.looks [] ∧ ∀ (j : Nat) t, fn.params[j]? = some t → Tryd.pinned.checked.prog.wantsStandIn t = false := by
  obtain rfl : f = 3 := Option.some.inj ((show Tryd.prog.funcNamed Tryd.f3.name = some 3 by kernel_rfl).symm.trans hf) |>.symm
  obtain rfl : fn = Tryd.f3 := (Option.some.inj (Tryd.func3.symm.trans hfn)).symm
  refine ⟨by kernel_rfl, fun j t ht => ?_⟩
  rw [Tryd.params3] at ht
  obtain rfl : t = 3 := by simpa using Array.mem_of_getElem? ht
  exact (show Tryd.prog.wantsStandIn 3 = false by kernel_rfl)
/-- THE CARD. -/
theorem card : Rows.SpanLessCardSaid :=
  Claim7.holds_tied_plain_at .later [] _ _ _ _ said (fun _ h => by cases h) (by kernel_rfl) (fun _ h => by cases h) spanLess_row_tie rfl ⟨rfl, rfl⟩ (by kernel_rfl) rfl plain (by kernel_rfl)
end Go.Proofs.YtmpioejllfedoaaDoor.spanLess
namespace Go.Proofs.YtmpioejllfedoaaDoor
/-- SpanLess: the statement as it is given. -/
theorem spanLess_holds : Rows.SpanLessCardSaid := spanLess.card
end Go.Proofs.YtmpioejllfedoaaDoor
