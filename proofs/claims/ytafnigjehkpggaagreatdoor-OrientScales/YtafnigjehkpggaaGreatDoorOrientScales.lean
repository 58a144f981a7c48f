/-
  OrientScales: for every three points and every int the law returns true: where all coordinates times one power of two lose nothing, the sign stays. As a card: the library's tables and the layout of package bits start as the program's text lays them.
-/
import Derived.Test.YtafnigjehkpggaaGreatDoorPart31
import Derived.Test.YtafnigjehkpggaaGreatDoorPart27
import Derived.Test.YtafnigjehkpggaaGreatDoorPart11
import Derived.Test.YtafnigjehkpggaaGreatDoorCards
import Derived.Test.YtafnigjehkpggaaGreatDoorTie
namespace Go.Proofs.YtafnigjehkpggaaGreatDoor.orientScales
open Go Go.ChangeShapes Go.WideShapes Go.ChangeAt Go.RowKit Go.Proofs.YtafnigjehkpggaaGreatDoor Go.Proofs.YtafnigjehkpggaaGreatDoor.M
set_option linter.unusedSimpArgs false
set_option linter.unusedVariables false

set_option maxRecDepth 100000 in
set_option maxHeartbeats 4000000 in
theorem walk_out {ax ay bx by' cx cy k : Int} {g : Bool} (CG' : ∀ W, Calls Tryz.prog 12 #[.agg #[.int .i64 ax, .int .i64 ay], .agg #[.int .i64 bx, .int .i64 by'], .agg #[.int .i64 cx, .int .i64 cy]] W fun r w' => r = .returned (.bool g) ∧ Below W.heap.size W w') (h : g = false ∨ (g = true ∧ (k < -600 ∨ (¬ k < -600 ∧ 600 < k)))) (w : World) (H : Hold4 w) :
    Calls Tryz.prog 5 #[.agg #[.int .i64 ax, .int .i64 ay], .agg #[.int .i64 bx, .int .i64 by'], .agg #[.int .i64 cx, .int .i64 cy], .int .i64 k] w fun e w' => e = .returned (.bool true) ∧ Below w.heap.size w w' := by
  have CG : Hid _ := hideIt CG'
  clear CG'
  rcases h with rfl | ⟨rfl, h | ⟨h, h'⟩⟩
  all_goals
    obtain ⟨hb0, a_k, b_k, c_k, hsz0⟩ := blks3 w (.cells #[.int .i64 ax, .int .i64 ay] 23) (.cells #[.int .i64 bx, .int .i64 by'] 23) (.cells #[.int .i64 cx, .int .i64 cy] 23)
    clear hsz0
    go_enter Tryz.func5, Tryz.ntmps5
    go_wp2_with fail
    generalize (((w.alloc (.cells #[.int .i64 ax, .int .i64 ay] 23)).alloc (.cells #[.int .i64 bx, .int .i64 by'] 23)).alloc (.cells #[.int .i64 cx, .int .i64 cy] 23)) = x0 at hb0 a_k b_k c_k ⊢
    replace H := H.keeps hb0
    refine (alive10 _).mono ?_
    rintro _ y1 ⟨rfl, hw1⟩
    replace a_k := blk_on hw1 a_k
    replace b_k := blk_on hw1 b_k
    replace c_k := blk_on hw1 c_k
    replace hb0 := bel_trans hb0 hw1
    replace H := H.keeps hw1
    have f_a0 := blkC a_k 0 rfl
    have f_a1 := blkC a_k 1 rfl
    have f_b0 := blkC b_k 0 rfl
    have f_b1 := blkC b_k 1 rfl
    have f_c0 := blkC c_k 0 rfl
    have f_c1 := blkC c_k 1 rfl
    go_wp2_with fail
    clear f_a0 f_a1 f_b0 f_b1 f_c0 f_c1
    refine (CG.out _).mono ?_
    rintro _ y2 ⟨rfl, hw2⟩
    replace a_k := blk_on hw2 a_k
    replace b_k := blk_on hw2 b_k
    replace c_k := blk_on hw2 c_k
    replace hb0 := bel_trans hb0 hw2
    replace H := H.keeps hw2
    go_wp2
    go_ret
    exact ⟨rfl, hb0⟩
set_option maxRecDepth 100000 in
set_option maxHeartbeats 4000000 in
theorem walk_lost {ax ay bx by' cx cy k X1 X2 Y1 Y2 Z1 Z2 : Int} {b1 b2 b3 : Bool} (CG' : ∀ W, Calls Tryz.prog 12 #[.agg #[.int .i64 ax, .int .i64 ay], .agg #[.int .i64 bx, .int .i64 by'], .agg #[.int .i64 cx, .int .i64 cy]] W fun r w' => r = .returned (.bool true) ∧ Below W.heap.size W w') (S1' : ∀ W, Calls Tryz.prog 15 #[.agg #[.int .i64 ax, .int .i64 ay], .int .i64 k] W fun r w' => r = .returned (.tuple #[.agg #[.int .i64 X1, .int .i64 X2], .bool b1]) ∧ Below W.heap.size W w') (S2' : ∀ W, Calls Tryz.prog 15 #[.agg #[.int .i64 bx, .int .i64 by'], .int .i64 k] W fun r w' => r = .returned (.tuple #[.agg #[.int .i64 Y1, .int .i64 Y2], .bool b2]) ∧ Below W.heap.size W w') (S3' : ∀ W, Calls Tryz.prog 15 #[.agg #[.int .i64 cx, .int .i64 cy], .int .i64 k] W fun r w' => r = .returned (.tuple #[.agg #[.int .i64 Z1, .int .i64 Z2], .bool b3]) ∧ Below W.heap.size W w') (k0 : ¬ k < -600) (k1 : ¬ 600 < k) (h : (b1 && b2 && b3) = false) (w : World) (H : Hold4 w) :
    Calls Tryz.prog 5 #[.agg #[.int .i64 ax, .int .i64 ay], .agg #[.int .i64 bx, .int .i64 by'], .agg #[.int .i64 cx, .int .i64 cy], .int .i64 k] w fun e w' => e = .returned (.bool true) ∧ Below w.heap.size w w' := by
  have CG : Hid _ := hideIt CG'
  have S1 : Hid _ := hideIt S1'
  have S2 : Hid _ := hideIt S2'
  have S3 : Hid _ := hideIt S3'
  clear CG' S1' S2' S3'
  have hc : b1 = false ∨ (b1 = true ∧ b2 = false) ∨ (b1 = true ∧ b2 = true ∧ b3 = false) := by cases b1 <;> cases b2 <;> cases b3 <;> simp_all
  rcases hc with rfl | ⟨rfl, rfl⟩ | ⟨rfl, rfl, rfl⟩
  all_goals
    obtain ⟨hb0, a_k, b_k, c_k, hsz0⟩ := blks3 w (.cells #[.int .i64 ax, .int .i64 ay] 23) (.cells #[.int .i64 bx, .int .i64 by'] 23) (.cells #[.int .i64 cx, .int .i64 cy] 23)
    clear hsz0
    go_enter Tryz.func5, Tryz.ntmps5
    go_wp2_with fail
    generalize (((w.alloc (.cells #[.int .i64 ax, .int .i64 ay] 23)).alloc (.cells #[.int .i64 bx, .int .i64 by'] 23)).alloc (.cells #[.int .i64 cx, .int .i64 cy] 23)) = x0 at hb0 a_k b_k c_k ⊢
    replace H := H.keeps hb0
    refine (alive10 _).mono ?_
    rintro _ y1 ⟨rfl, hw1⟩
    replace a_k := blk_on hw1 a_k
    replace b_k := blk_on hw1 b_k
    replace c_k := blk_on hw1 c_k
    replace hb0 := bel_trans hb0 hw1
    replace H := H.keeps hw1
    have f_a0 := blkC a_k 0 rfl
    have f_a1 := blkC a_k 1 rfl
    have f_b0 := blkC b_k 0 rfl
    have f_b1 := blkC b_k 1 rfl
    have f_c0 := blkC c_k 0 rfl
    have f_c1 := blkC c_k 1 rfl
    go_wp2_with fail
    clear f_a0 f_a1 f_b0 f_b1 f_c0 f_c1
    refine (CG.out _).mono ?_
    rintro _ y2 ⟨rfl, hw2⟩
    replace a_k := blk_on hw2 a_k
    replace b_k := blk_on hw2 b_k
    replace c_k := blk_on hw2 c_k
    replace hb0 := bel_trans hb0 hw2
    replace H := H.keeps hw2
    have f_a0 := blkC a_k 0 rfl
    have f_a1 := blkC a_k 1 rfl
    go_wp2_with fail
    clear f_a0 f_a1
    refine (S1.out _).mono ?_
    rintro _ v0 ⟨rfl, hv0⟩
    replace a_k := heap_past (.cells #[.int .i64 X1, .int .i64 X2] 23) (blk_on hv0 a_k)
    replace b_k := heap_past (.cells #[.int .i64 X1, .int .i64 X2] 23) (blk_on hv0 b_k)
    replace c_k := heap_past (.cells #[.int .i64 X1, .int .i64 X2] 23) (blk_on hv0 c_k)
    have x_k := heap_a1 v0 (.cells #[.int .i64 X1, .int .i64 X2] 23)
    replace hb0 := bel_trans (bel_trans hb0 hv0) (bel_alloc v0 (.cells #[.int .i64 X1, .int .i64 X2] 23))
    replace H := (H.keeps hv0).keeps (bel_alloc v0 (.cells #[.int .i64 X1, .int .i64 X2] 23))
    have f_b0 := blkC b_k 0 rfl
    have f_b1 := blkC b_k 1 rfl
    go_wp2_with fail
    clear f_b0 f_b1
    generalize hg0 : v0.heap.size = g0 at x_k ⊢
    clear hg0
    generalize v0.alloc (.cells #[.int .i64 X1, .int .i64 X2] 23) = u0 at a_k b_k c_k x_k hb0 H ⊢
    refine (S2.out _).mono ?_
    rintro _ v1 ⟨rfl, hv1⟩
    replace a_k := heap_past (.cells #[.int .i64 Y1, .int .i64 Y2] 23) (blk_on hv1 a_k)
    replace b_k := heap_past (.cells #[.int .i64 Y1, .int .i64 Y2] 23) (blk_on hv1 b_k)
    replace c_k := heap_past (.cells #[.int .i64 Y1, .int .i64 Y2] 23) (blk_on hv1 c_k)
    replace x_k := heap_past (.cells #[.int .i64 Y1, .int .i64 Y2] 23) (blk_on hv1 x_k)
    have y_k := heap_a1 v1 (.cells #[.int .i64 Y1, .int .i64 Y2] 23)
    replace hb0 := bel_trans (bel_trans hb0 hv1) (bel_alloc v1 (.cells #[.int .i64 Y1, .int .i64 Y2] 23))
    replace H := (H.keeps hv1).keeps (bel_alloc v1 (.cells #[.int .i64 Y1, .int .i64 Y2] 23))
    have f_c0 := blkC c_k 0 rfl
    have f_c1 := blkC c_k 1 rfl
    go_wp2_with fail
    clear f_c0 f_c1
    generalize hg1 : v1.heap.size = g1 at y_k ⊢
    clear hg1
    generalize v1.alloc (.cells #[.int .i64 Y1, .int .i64 Y2] 23) = u1 at a_k b_k c_k x_k y_k hb0 H ⊢
    refine (S3.out _).mono ?_
    rintro _ v2 ⟨rfl, hv2⟩
    replace a_k := heap_past (.cells #[.int .i64 Z1, .int .i64 Z2] 23) (blk_on hv2 a_k)
    replace b_k := heap_past (.cells #[.int .i64 Z1, .int .i64 Z2] 23) (blk_on hv2 b_k)
    replace c_k := heap_past (.cells #[.int .i64 Z1, .int .i64 Z2] 23) (blk_on hv2 c_k)
    replace x_k := heap_past (.cells #[.int .i64 Z1, .int .i64 Z2] 23) (blk_on hv2 x_k)
    replace y_k := heap_past (.cells #[.int .i64 Z1, .int .i64 Z2] 23) (blk_on hv2 y_k)
    have z_k := heap_a1 v2 (.cells #[.int .i64 Z1, .int .i64 Z2] 23)
    replace hb0 := bel_trans (bel_trans hb0 hv2) (bel_alloc v2 (.cells #[.int .i64 Z1, .int .i64 Z2] 23))
    replace H := (H.keeps hv2).keeps (bel_alloc v2 (.cells #[.int .i64 Z1, .int .i64 Z2] 23))
    go_wp2
    go_ret
    exact ⟨rfl, hb0⟩
set_option maxRecDepth 100000 in
set_option maxHeartbeats 8000000 in
theorem walk_in {ax ay bx by' cx cy k X1 X2 Y1 Y2 Z1 Z2 sgn st1 st2 : Int} (CG' : ∀ W, Calls Tryz.prog 12 #[.agg #[.int .i64 ax, .int .i64 ay], .agg #[.int .i64 bx, .int .i64 by'], .agg #[.int .i64 cx, .int .i64 cy]] W fun r w' => r = .returned (.bool true) ∧ Below W.heap.size W w') (S1' : ∀ W, Calls Tryz.prog 15 #[.agg #[.int .i64 ax, .int .i64 ay], .int .i64 k] W fun r w' => r = .returned (.tuple #[.agg #[.int .i64 X1, .int .i64 X2], .bool true]) ∧ Below W.heap.size W w') (S2' : ∀ W, Calls Tryz.prog 15 #[.agg #[.int .i64 bx, .int .i64 by'], .int .i64 k] W fun r w' => r = .returned (.tuple #[.agg #[.int .i64 Y1, .int .i64 Y2], .bool true]) ∧ Below W.heap.size W w') (S3' : ∀ W, Calls Tryz.prog 15 #[.agg #[.int .i64 cx, .int .i64 cy], .int .i64 k] W fun r w' => r = .returned (.tuple #[.agg #[.int .i64 Z1, .int .i64 Z2], .bool true]) ∧ Below W.heap.size W w') (k0 : ¬ k < -600) (k1 : ¬ 600 < k)
    (V1' : ∀ W, Hold4 W → Calls Tryz.prog 8 #[.agg #[.int .i64 ax, .int .i64 ay], .agg #[.int .i64 bx, .int .i64 by'], .agg #[.int .i64 cx, .int .i64 cy]] W fun r w' => r = .returned (.tuple #[.agg #[.int .i64 sgn, .int .i64 st1], .int .i64 0]) ∧ Below W.heap.size W w') (V2' : ∀ W, Hold4 W → Calls Tryz.prog 8 #[.agg #[.int .i64 X1, .int .i64 X2], .agg #[.int .i64 Y1, .int .i64 Y2], .agg #[.int .i64 Z1, .int .i64 Z2]] W fun r w' => r = .returned (.tuple #[.agg #[.int .i64 sgn, .int .i64 st2], .int .i64 0]) ∧ Below W.heap.size W w') (w : World) (H : Hold4 w) :
    Calls Tryz.prog 5 #[.agg #[.int .i64 ax, .int .i64 ay], .agg #[.int .i64 bx, .int .i64 by'], .agg #[.int .i64 cx, .int .i64 cy], .int .i64 k] w fun e w' => e = .returned (.bool true) ∧ Below w.heap.size w w' := by
  have CG : Hid _ := hideIt CG'
  have S1 : Hid _ := hideIt S1'
  have S2 : Hid _ := hideIt S2'
  have S3 : Hid _ := hideIt S3'
  have T1 : Hid _ := hideIt V1'
  have T2 : Hid _ := hideIt V2'
  clear CG' S1' S2' S3' V1' V2'
  obtain ⟨hb0, a_k, b_k, c_k, hsz0⟩ := blks3 w (.cells #[.int .i64 ax, .int .i64 ay] 23) (.cells #[.int .i64 bx, .int .i64 by'] 23) (.cells #[.int .i64 cx, .int .i64 cy] 23)
  clear hsz0
  go_enter Tryz.func5, Tryz.ntmps5
  go_wp2_with fail
  generalize (((w.alloc (.cells #[.int .i64 ax, .int .i64 ay] 23)).alloc (.cells #[.int .i64 bx, .int .i64 by'] 23)).alloc (.cells #[.int .i64 cx, .int .i64 cy] 23)) = x0 at hb0 a_k b_k c_k ⊢
  replace H := H.keeps hb0
  refine (alive10 _).mono ?_
  rintro _ y1 ⟨rfl, hw1⟩
  replace a_k := blk_on hw1 a_k
  replace b_k := blk_on hw1 b_k
  replace c_k := blk_on hw1 c_k
  replace hb0 := bel_trans hb0 hw1
  replace H := H.keeps hw1
  have f_a0 := blkC a_k 0 rfl
  have f_a1 := blkC a_k 1 rfl
  have f_b0 := blkC b_k 0 rfl
  have f_b1 := blkC b_k 1 rfl
  have f_c0 := blkC c_k 0 rfl
  have f_c1 := blkC c_k 1 rfl
  go_wp2_with fail
  clear f_a0 f_a1 f_b0 f_b1 f_c0 f_c1
  refine (CG.out _).mono ?_
  rintro _ y2 ⟨rfl, hw2⟩
  replace a_k := blk_on hw2 a_k
  replace b_k := blk_on hw2 b_k
  replace c_k := blk_on hw2 c_k
  replace hb0 := bel_trans hb0 hw2
  replace H := H.keeps hw2
  have f_a0 := blkC a_k 0 rfl
  have f_a1 := blkC a_k 1 rfl
  go_wp2_with fail
  clear f_a0 f_a1
  refine (S1.out _).mono ?_
  rintro _ v0 ⟨rfl, hv0⟩
  replace a_k := heap_past (.cells #[.int .i64 X1, .int .i64 X2] 23) (blk_on hv0 a_k)
  replace b_k := heap_past (.cells #[.int .i64 X1, .int .i64 X2] 23) (blk_on hv0 b_k)
  replace c_k := heap_past (.cells #[.int .i64 X1, .int .i64 X2] 23) (blk_on hv0 c_k)
  have x_k := heap_a1 v0 (.cells #[.int .i64 X1, .int .i64 X2] 23)
  replace hb0 := bel_trans (bel_trans hb0 hv0) (bel_alloc v0 (.cells #[.int .i64 X1, .int .i64 X2] 23))
  replace H := (H.keeps hv0).keeps (bel_alloc v0 (.cells #[.int .i64 X1, .int .i64 X2] 23))
  have f_b0 := blkC b_k 0 rfl
  have f_b1 := blkC b_k 1 rfl
  go_wp2_with fail
  clear f_b0 f_b1
  generalize hg0 : v0.heap.size = g0 at x_k ⊢
  clear hg0
  generalize v0.alloc (.cells #[.int .i64 X1, .int .i64 X2] 23) = u0 at a_k b_k c_k x_k hb0 H ⊢
  refine (S2.out _).mono ?_
  rintro _ v1 ⟨rfl, hv1⟩
  replace a_k := heap_past (.cells #[.int .i64 Y1, .int .i64 Y2] 23) (blk_on hv1 a_k)
  replace b_k := heap_past (.cells #[.int .i64 Y1, .int .i64 Y2] 23) (blk_on hv1 b_k)
  replace c_k := heap_past (.cells #[.int .i64 Y1, .int .i64 Y2] 23) (blk_on hv1 c_k)
  replace x_k := heap_past (.cells #[.int .i64 Y1, .int .i64 Y2] 23) (blk_on hv1 x_k)
  have y_k := heap_a1 v1 (.cells #[.int .i64 Y1, .int .i64 Y2] 23)
  replace hb0 := bel_trans (bel_trans hb0 hv1) (bel_alloc v1 (.cells #[.int .i64 Y1, .int .i64 Y2] 23))
  replace H := (H.keeps hv1).keeps (bel_alloc v1 (.cells #[.int .i64 Y1, .int .i64 Y2] 23))
  have f_c0 := blkC c_k 0 rfl
  have f_c1 := blkC c_k 1 rfl
  go_wp2_with fail
  clear f_c0 f_c1
  generalize hg1 : v1.heap.size = g1 at y_k ⊢
  clear hg1
  generalize v1.alloc (.cells #[.int .i64 Y1, .int .i64 Y2] 23) = u1 at a_k b_k c_k x_k y_k hb0 H ⊢
  refine (S3.out _).mono ?_
  rintro _ v2 ⟨rfl, hv2⟩
  replace a_k := heap_past (.cells #[.int .i64 Z1, .int .i64 Z2] 23) (blk_on hv2 a_k)
  replace b_k := heap_past (.cells #[.int .i64 Z1, .int .i64 Z2] 23) (blk_on hv2 b_k)
  replace c_k := heap_past (.cells #[.int .i64 Z1, .int .i64 Z2] 23) (blk_on hv2 c_k)
  replace x_k := heap_past (.cells #[.int .i64 Z1, .int .i64 Z2] 23) (blk_on hv2 x_k)
  replace y_k := heap_past (.cells #[.int .i64 Z1, .int .i64 Z2] 23) (blk_on hv2 y_k)
  have z_k := heap_a1 v2 (.cells #[.int .i64 Z1, .int .i64 Z2] 23)
  replace hb0 := bel_trans (bel_trans hb0 hv2) (bel_alloc v2 (.cells #[.int .i64 Z1, .int .i64 Z2] 23))
  replace H := (H.keeps hv2).keeps (bel_alloc v2 (.cells #[.int .i64 Z1, .int .i64 Z2] 23))
  have f_a0 := blkC a_k 0 rfl
  have f_a1 := blkC a_k 1 rfl
  have f_b0 := blkC b_k 0 rfl
  have f_b1 := blkC b_k 1 rfl
  have f_c0 := blkC c_k 0 rfl
  have f_c1 := blkC c_k 1 rfl
  go_wp2_with fail
  clear f_a0 f_a1 f_b0 f_b1 f_c0 f_c1
  generalize hg2 : v2.heap.size = g2 at z_k ⊢
  clear hg2
  generalize v2.alloc (.cells #[.int .i64 Z1, .int .i64 Z2] 23) = u2 at a_k b_k c_k x_k y_k z_k hb0 H ⊢
  refine (T1.out _ H).mono ?_
  rintro _ v3 ⟨rfl, hv3⟩
  replace x_k := heap_past (.cells #[.int .i64 sgn, .int .i64 st1] 26) (blk_on hv3 x_k)
  replace y_k := heap_past (.cells #[.int .i64 sgn, .int .i64 st1] 26) (blk_on hv3 y_k)
  replace z_k := heap_past (.cells #[.int .i64 sgn, .int .i64 st1] 26) (blk_on hv3 z_k)
  have p_k := heap_a1 v3 (.cells #[.int .i64 sgn, .int .i64 st1] 26)
  replace hb0 := bel_trans (bel_trans hb0 hv3) (bel_alloc v3 (.cells #[.int .i64 sgn, .int .i64 st1] 26))
  replace H := (H.keeps hv3).keeps (bel_alloc v3 (.cells #[.int .i64 sgn, .int .i64 st1] 26))
  have f_x0 := blkC x_k 0 rfl
  have f_x1 := blkC x_k 1 rfl
  have f_y0 := blkC y_k 0 rfl
  have f_y1 := blkC y_k 1 rfl
  have f_z0 := blkC z_k 0 rfl
  have f_z1 := blkC z_k 1 rfl
  go_wp2_with fail
  clear f_x0 f_x1 f_y0 f_y1 f_z0 f_z1
  generalize hg3 : v3.heap.size = g3 at p_k ⊢
  clear hg3
  generalize v3.alloc (.cells #[.int .i64 sgn, .int .i64 st1] 26) = u3 at p_k hb0 H ⊢
  refine (T2.out _ H).mono ?_
  rintro _ v4 ⟨rfl, hv4⟩
  replace p_k := heap_past (.cells #[.int .i64 sgn, .int .i64 st2] 26) (blk_on hv4 p_k)
  have q_k := heap_a1 v4 (.cells #[.int .i64 sgn, .int .i64 st2] 26)
  replace hb0 := bel_trans (bel_trans hb0 hv4) (bel_alloc v4 (.cells #[.int .i64 sgn, .int .i64 st2] 26))
  have f_p0 := blkC p_k 0 rfl
  have f_q0 := blkC q_k 0 rfl
  go_wp2_with (go_at_call 10; refine (onum _ _).mono ?_; rintro _ _ ⟨rfl, rfl⟩)
  go_ret
  exact ⟨rfl, hb0⟩
theorem walk (ax ay bx by' cx cy k : Int) (w : World) (rax : rng ax) (ray : rng ay) (rbx : rng bx) (rby : rng by') (rcx : rng cx) (rcy : rng cy) (rk : rng k) (H : Hold4 w) :
    Calls Tryz.prog 5 #[.agg #[.int .i64 ax, .int .i64 ay], .agg #[.int .i64 bx, .int .i64 by'], .agg #[.int .i64 cx, .int .i64 cy], .int .i64 k] w fun e w' => e = .returned (.bool true) ∧ Below w.heap.size w w' := by
  have CG : ∀ W, Calls Tryz.prog 12 #[.agg #[.int .i64 ax, .int .i64 ay], .agg #[.int .i64 bx, .int .i64 by'], .agg #[.int .i64 cx, .int .i64 cy]] W fun r w' => r = .returned (.bool ((pok ax && pok ay) && (pok bx && pok by') && (pok cx && pok cy))) ∧ Below W.heap.size W w' := fun W => ogood_any rax ray rbx rby rcx rcy W
  by_cases h : ((pok ax && pok ay) && (pok bx && pok by') && (pok cx && pok cy)) = true
  · rw [h] at CG
    obtain ⟨⟨⟨h1, h2⟩, h3, h4⟩, h5, h6⟩ : ((pok ax = true ∧ pok ay = true) ∧ pok bx = true ∧ pok by' = true) ∧ pok cx = true ∧ pok cy = true := by simpa using h
    by_cases k0 : k < -600
    · exact walk_out CG (.inr ⟨rfl, .inl k0⟩) w H
    by_cases k1 : 600 < k
    · exact walk_out CG (.inr ⟨rfl, .inr ⟨k0, k1⟩⟩) w H
    have S1 := fun W => oScaledP rax ray (k := k) (by omega) (by omega) W
    have S2 := fun W => oScaledP rbx rby (k := k) (by omega) (by omega) W
    have S3 := fun W => oScaledP rcx rcy (k := k) (by omega) (by omega) W
    by_cases hs : ((s2K ax k && s2K ay k) && (s2K bx k && s2K by' k) && (s2K cx k && s2K cy k)) = true
    · obtain ⟨⟨⟨g1, g2⟩, g3, g4⟩, g5, g6⟩ : ((s2K ax k = true ∧ s2K ay k = true) ∧ s2K bx k = true ∧ s2K by' k = true) ∧ s2K cx k = true ∧ s2K cy k = true := by simpa using hs
      rw [g1, g2] at S1
      rw [g3, g4] at S2
      rw [g5, g6] at S3
      have e := s2_det rax ray rbx rby rcx rcy h1 h2 h3 h4 h5 h6 (k := k) (by omega) (by omega) g1 g2 g3 g4 g5 g6
      obtain ⟨r1, p1⟩ := s2_fin rax h1 g1
      obtain ⟨r2, p2⟩ := s2_fin ray h2 g2
      obtain ⟨r3, p3⟩ := s2_fin rbx h3 g3
      obtain ⟨r4, p4⟩ := s2_fin rby h4 g4
      obtain ⟨r5, p5⟩ := s2_fin rcx h5 g5
      obtain ⟨r6, p6⟩ := s2_fin rcy h6 g6
      refine walk_in (st2 := oSt (s2V ax k) (s2V ay k) (s2V bx k) (s2V by' k) (s2V cx k) (s2V cy k)) CG S1 S2 S3 k0 k1 (fun W hh => oSign_ok rax ray rbx rby rcx rcy h1 h2 h3 h4 h5 h6 W hh) (fun W hh => ?_) w H
      rw [← e]
      exact oSign_ok r1 r2 r3 r4 r5 r6 p1 p2 p3 p4 p5 p6 W hh
    · exact walk_lost CG S1 S2 S3 k0 k1 (by simpa using hs) w H
  · exact walk_out CG (.inl (by simpa using h)) w H
theorem own : ownKnob Tryz.prog.godebug = none := by kernel_rfl
theorem laidOut : laidOutB Tryz.prog = true := by kernel_rfl
theorem door_met (os : Os) (args : Array Value) : laidMetH Tryz.prog Rows.orientScalesRow.laid ((World.doorLaid Tryz.prog 400 os).forCall (fun _ _ => 0) ⟨#[], args, []⟩).memory :=
  laidMetH_of_parts3 (fuel := 8) (laidMet_of_run' 8 (by kernel_rfl) (by kernel_rfl)) (by kernel_rfl) (by kernel_rfl)
set_option maxRecDepth 100000 in
theorem lifted (os : Os) (started : os.Started) (H : Type) (enc : TypeId × Value → H) :
    ReturnsInHanded {} Tryz.checked os 5 .any (fun w args => (Rows.orientScalesSpec.pre enc Tryz.prog Tryz.f5 [] false w args ∧ laidMetH Tryz.prog Rows.orientScalesRow.laid w) ∧ sizedMet enc Tryz.prog Tryz.f5 (OpenSpec.ofChange Rows.orientScalesSpec) false w args)
      (Rows.orientScalesSpec.post enc Tryz.prog Tryz.f5 false true false false) := by
  refine returnsInHanded_of_change_and (C := Tryz.checked) (X := fun w _ => laidMetH Tryz.prog Rows.orientScalesRow.laid w) (fun _ _ _ hh h => h.of_heap hh) own started (by kernel_rfl) Tryz.func5
    (ChangeSpec.witness_shaped (enc := enc) (C := Tryz.checked) (os := os) (X := fun w _ => laidMetH Tryz.prog Rows.orientScalesRow.laid w) false (World.doorLaid Tryz.prog 400 os) #[.agg #[.int .i64 0, .int .i64 0], .agg #[.int .i64 0, .int .i64 0], .agg #[.int .i64 0, .int .i64 0], .int .i64 0] 8 rfl (World.shaped_of_RefB (by kernel_rfl) (by kernel_rfl)) (by kernel_rfl) (by kernel_rfl) (by kernel_rfl) (door_met os _)) ?_
  intro W base args ds gs before hval0 hW _ _ hL _
  have hval : ∀ (j : Nat) t v, Tryz.f5.params[j]? = some t → args[j]? = some v → Value.okWide Tryz.prog W .any base t v := hval0
  have hW' := hW
  obtain ⟨p, q, hA0, hV, rfl, hfz, hnd⟩ := hW
  have hA : DataW.TrodAll enc Tryz.prog W 0 (fun _ => true) true Tryz.f5.params.toList args.toList ds p := hA0
  rw [Tryz.params5] at hA hval
  obtain ⟨v0, vs0, d0, ds0, p0, q0, hargs, rfl, rfl, h0, r0⟩ := trodAll_cons hA
  obtain ⟨v1, vs1, d1, ds1, p1, q1, rfl, rfl, rfl, h1, r1⟩ := trodAll_cons r0
  obtain ⟨v2, vs2, d2, ds2, p2, q2, rfl, rfl, rfl, h2, r2⟩ := trodAll_cons r1
  obtain ⟨v3, vs3, d3, ds3, p3, q3, rfl, rfl, rfl, h3, r3⟩ := trodAll_cons r2
  obtain ⟨rfl, rfl, rfl⟩ := trodAll_nil r3
  obtain rfl : args = #[v0, v1, v2, v3] := by cases args; simp_all
  obtain ⟨rfl, rfl⟩ := trodVars_none hV
  have k0 := h0
  have lt0 : ∀ x ∈ p0, x.block < W.heap.size := by obtain ⟨m, hm⟩ := k0; exact DataW.trod_lt m _ _ _ hm
  obtain ⟨x0, y0, rfl, w0, g0⟩ := point_of (hval 0 23 v0 rfl rfl) h0
  have k1 := h1
  have lt1 : ∀ x ∈ p1, x.block < W.heap.size := by obtain ⟨m, hm⟩ := k1; exact DataW.trod_lt m _ _ _ hm
  obtain ⟨x1, y1, rfl, w1, g1⟩ := point_of (hval 1 23 v1 rfl rfl) h1
  have k2 := h2
  have lt2 : ∀ x ∈ p2, x.block < W.heap.size := by obtain ⟨m, hm⟩ := k2; exact DataW.trod_lt m _ _ _ hm
  obtain ⟨x2, y2, rfl, w2, g2⟩ := point_of (hval 2 23 v2 rfl rfl) h2
  obtain ⟨a3, rfl, rfl, rfl, w3⟩ := open_int Tryz.underlying3 (hval 3 3 v3 rfl rfl) h3
  clear hA0 hval0
  refine (walk x0 y0 x1 y1 x2 y2 a3 W w0 g0 w1 g1 w2 g2 (rng_of w3) (hold6_of hL)).mono fun e W' ⟨he, bel⟩ => ?_
  subst he
  exact ⟨_, rfl, _, _, _, [], _, [], hW', trodAll_mk1 (shut_bool Tryz.underlying4 _), (trodAll_cons_mk (Below.trod laidOut (by kernel_rfl) (of_decide_eq_true (by kernel_rfl)) k0 bel lt0) (trodAll_cons_mk (Below.trod laidOut (by kernel_rfl) (of_decide_eq_true (by kernel_rfl)) k1 bel lt1) (trodAll_cons_mk (Below.trod laidOut (by kernel_rfl) (of_decide_eq_true (by kernel_rfl)) k2 bel lt2) (trodAll_cons_mk (shut_int Tryz.underlying3 w3) trodAll_mk0)))), rfl, bel.frame _, fun h => by cases h⟩
theorem said : Rows.OrientScalesSaid :=
  OpenClaim.holds_of_wide 5 Tryz.f5 rfl rfl rfl rfl rfl rfl rfl ⟨rfl, rfl, rfl, rfl, rfl⟩ rfl rfl rfl rfl rfl (by kernel_rfl) Tryz.func5 (by kernel_rfl)
    (of_decide_eq_true (by kernel_rfl)) (by unfold Func.isWrapper; first | (rw [if_pos (by decide +kernel)]; kernel_rfl) | (rw [if_neg (by decide +kernel)]; exact ⟨rfl, rfl⟩))
    (fun os started H enc _ => lifted os started H enc)
theorem plain (f : FuncId) (fn : Func) (hf : Tryz.pinned.checked.prog.funcNamed Tryz.f5.name = some f) (hfn : Tryz.pinned.checked.prog.funcs[f]? = some fn) :
    true = Tryz.pinned.checked.prog.looks [] ∧ ∀ (j : Nat) t, fn.params[j]? = some t → Tryz.pinned.checked.prog.wantsStandIn t = false := by
  obtain rfl : f = 5 := Option.some.inj ((show Tryz.prog.funcNamed Tryz.f5.name = some 5 by kernel_rfl).symm.trans hf) |>.symm
  obtain rfl : fn = Tryz.f5 := (Option.some.inj (Tryz.func5.symm.trans hfn)).symm
  refine ⟨by kernel_rfl, fun j t ht => ?_⟩
  rw [Tryz.params5] at ht
  have ht2 : t = 23 ∨ t = 3 := by simpa using Array.mem_of_getElem? ht
  rcases ht2 with rfl | rfl
  · exact (show Tryz.prog.wantsStandIn 23 = false by kernel_rfl)
  · exact (show Tryz.prog.wantsStandIn 3 = false by kernel_rfl)
/-- THE CARD. -/
theorem card : Rows.OrientScalesCardSaid :=
  Claim7.holds_tied_plain_at .later [] _ _ _ _ said (fun _ h => by cases h) (by kernel_rfl) (fun _ h => by cases h) orientScales_row_tie rfl ⟨rfl, rfl⟩ (by kernel_rfl) rfl plain (by kernel_rfl)
end Go.Proofs.YtafnigjehkpggaaGreatDoor.orientScales
namespace Go.Proofs.YtafnigjehkpggaaGreatDoor
/-- OrientScales: the statement as it is given. -/
theorem orientScales_holds : Rows.OrientScalesCardSaid := orientScales.card
end Go.Proofs.YtafnigjehkpggaaGreatDoor
