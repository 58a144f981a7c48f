/-
  Parts of the proof, one behind another.
-/
import Derived.Test.YtcpjdgfnblkfpaaGreatDoorPart20
import Derived.Test.YtcpjdgfnblkfpaaGreatDoorPart26
import Derived.Test.YtcpjdgfnblkfpaaGreatDoorPart25
import Derived.Test.YtcpjdgfnblkfpaaGreatDoorPart8
import Derived.Deep.RegionHeld3
import Derived.Test.YtcpjdgfnblkfpaaGreatDoorPart7
/-
  Package measure: Angle by what verdict answers, by its contract.
-/
namespace Go.Proofs.YtcpjdgfnblkfpaaGreatDoor
open Go Go.RowKit Go.Proofs.YtcpjdgfnblkfpaaGreatDoor.M
set_option linter.unusedSimpArgs false
set_option linter.unusedVariables false

set_option maxRecDepth 100000 in
set_option maxHeartbeats 2000000 in
theorem mAngle_walk {ax ay bx by' cx cy : Int} {V U E : Int} (w : World) (H : Hold4 w) (hV : ∀ (W : World) (ga gb gc gl : Nat), Hold4 W → W.heap[ga]? = some (.cells #[.int .i64 ax, .int .i64 ay] 25) → W.heap[gb]? = some (.cells #[.int .i64 bx, .int .i64 by'] 25) → W.heap[gc]? = some (.cells #[.int .i64 cx, .int .i64 cy] 25) → W.heap[gl]? = some (.cells #[.int .i64 ax, .int .i64 ay, .int .i64 bx, .int .i64 by', .int .i64 cx, .int .i64 cy] 25) → Calls Tryz.prog 24 #[.agg #[.func (.func 12) #[] #[.pointer (some ⟨ga, 0, none⟩), .pointer (some ⟨gb, 0, none⟩), .pointer (some ⟨gc, 0, none⟩)], .func (.func 15) #[] #[.pointer (some ⟨ga, 0, none⟩), .pointer (some ⟨gb, 0, none⟩), .pointer (some ⟨gc, 0, none⟩)], .func (.func 18) #[] #[.pointer (some ⟨ga, 0, none⟩), .pointer (some ⟨gb, 0, none⟩), .pointer (some ⟨gc, 0, none⟩)], .func (.func 21) #[] #[.pointer (some ⟨ga, 0, none⟩), .pointer (some ⟨gb, 0, none⟩), .pointer (some ⟨gc, 0, none⟩)]], .slice (some ⟨gl, 0, none⟩) 3 3] W fun r w' => r = .returned (.tuple #[.agg #[.int .i64 V, .int .i64 U], .int .i64 E]) ∧ Below W.heap.size W w') :
    Calls Tryz.prog 6 #[.agg #[.int .i64 ax, .int .i64 ay], .agg #[.int .i64 bx, .int .i64 by'], .agg #[.int .i64 cx, .int .i64 cy]] w fun r w' => r = .returned (.tuple #[.agg #[.int .i64 V, .int .i64 U], .int .i64 E]) ∧ Below w.heap.size w w' := by
  have HV : Hid (∀ (W : World) (ga gb gc gl : Nat), Hold4 W → W.heap[ga]? = some (.cells #[.int .i64 ax, .int .i64 ay] 25) → W.heap[gb]? = some (.cells #[.int .i64 bx, .int .i64 by'] 25) → W.heap[gc]? = some (.cells #[.int .i64 cx, .int .i64 cy] 25) → W.heap[gl]? = some (.cells #[.int .i64 ax, .int .i64 ay, .int .i64 bx, .int .i64 by', .int .i64 cx, .int .i64 cy] 25) → Calls Tryz.prog 24 #[.agg #[.func (.func 12) #[] #[.pointer (some ⟨ga, 0, none⟩), .pointer (some ⟨gb, 0, none⟩), .pointer (some ⟨gc, 0, none⟩)], .func (.func 15) #[] #[.pointer (some ⟨ga, 0, none⟩), .pointer (some ⟨gb, 0, none⟩), .pointer (some ⟨gc, 0, none⟩)], .func (.func 18) #[] #[.pointer (some ⟨ga, 0, none⟩), .pointer (some ⟨gb, 0, none⟩), .pointer (some ⟨gc, 0, none⟩)], .func (.func 21) #[] #[.pointer (some ⟨ga, 0, none⟩), .pointer (some ⟨gb, 0, none⟩), .pointer (some ⟨gc, 0, none⟩)]], .slice (some ⟨gl, 0, none⟩) 3 3] W fun r w' => r = .returned (.tuple #[.agg #[.int .i64 V, .int .i64 U], .int .i64 E]) ∧ Below W.heap.size W w') := hV
  clear hV
  have hst : ∀ p F c m w, (store p (.func (.func F) #[] c) m).run Tryz.prog w = stored Tryz.prog w p (.func (.func F) #[] c) m := fun p F c m w => run_store _ w p _ m rfl
  have a_k : (w.alloc (.cells #[.int .i64 ax, .int .i64 ay] 25)).heap[w.heap.size]? = some (.cells #[.int .i64 ax, .int .i64 ay] 25) := heap_new (.cells #[.int .i64 ax, .int .i64 ay] 25) (by rfl)
  have hb0 := bel_alloc w (.cells #[.int .i64 ax, .int .i64 ay] 25)
  replace a_k := heap_past (.cells #[.int .i64 bx, .int .i64 by'] 25) a_k
  have b_k : ((w.alloc (.cells #[.int .i64 ax, .int .i64 ay] 25)).alloc (.cells #[.int .i64 bx, .int .i64 by'] 25)).heap[w.heap.size + 1]? = some (.cells #[.int .i64 bx, .int .i64 by'] 25) := heap_new (.cells #[.int .i64 bx, .int .i64 by'] 25) (by simp only [size_alloc])
  replace hb0 := bel_trans hb0 (bel_alloc (w.alloc (.cells #[.int .i64 ax, .int .i64 ay] 25)) (.cells #[.int .i64 bx, .int .i64 by'] 25))
  replace a_k := heap_past (.cells #[.int .i64 cx, .int .i64 cy] 25) a_k
  replace b_k := heap_past (.cells #[.int .i64 cx, .int .i64 cy] 25) b_k
  have c_k : (((w.alloc (.cells #[.int .i64 ax, .int .i64 ay] 25)).alloc (.cells #[.int .i64 bx, .int .i64 by'] 25)).alloc (.cells #[.int .i64 cx, .int .i64 cy] 25)).heap[w.heap.size + 1 + 1]? = some (.cells #[.int .i64 cx, .int .i64 cy] 25) := heap_new (.cells #[.int .i64 cx, .int .i64 cy] 25) (by simp only [size_alloc])
  replace hb0 := bel_trans hb0 (bel_alloc ((w.alloc (.cells #[.int .i64 ax, .int .i64 ay] 25)).alloc (.cells #[.int .i64 bx, .int .i64 by'] 25)) (.cells #[.int .i64 cx, .int .i64 cy] 25))
  replace a_k := heap_past (.cells #[.int .i64 0, .int .i64 0] 28) a_k
  replace b_k := heap_past (.cells #[.int .i64 0, .int .i64 0] 28) b_k
  replace c_k := heap_past (.cells #[.int .i64 0, .int .i64 0] 28) c_k
  have r_k : ((((w.alloc (.cells #[.int .i64 ax, .int .i64 ay] 25)).alloc (.cells #[.int .i64 bx, .int .i64 by'] 25)).alloc (.cells #[.int .i64 cx, .int .i64 cy] 25)).alloc (.cells #[.int .i64 0, .int .i64 0] 28)).heap[w.heap.size + 1 + 1 + 1]? = some (.cells #[.int .i64 0, .int .i64 0] 28) := heap_new (.cells #[.int .i64 0, .int .i64 0] 28) (by simp only [size_alloc])
  replace hb0 := bel_trans hb0 (bel_alloc (((w.alloc (.cells #[.int .i64 ax, .int .i64 ay] 25)).alloc (.cells #[.int .i64 bx, .int .i64 by'] 25)).alloc (.cells #[.int .i64 cx, .int .i64 cy] 25)) (.cells #[.int .i64 0, .int .i64 0] 28))
  replace a_k := heap_past (.cells #[.func (.func 12) #[] #[.pointer (some ⟨w.heap.size, 0, none⟩), .pointer (some ⟨w.heap.size + 1, 0, none⟩), .pointer (some ⟨w.heap.size + 1 + 1, 0, none⟩)], .func (.func 15) #[] #[.pointer (some ⟨w.heap.size, 0, none⟩), .pointer (some ⟨w.heap.size + 1, 0, none⟩), .pointer (some ⟨w.heap.size + 1 + 1, 0, none⟩)], .func (.func 18) #[] #[.pointer (some ⟨w.heap.size, 0, none⟩), .pointer (some ⟨w.heap.size + 1, 0, none⟩), .pointer (some ⟨w.heap.size + 1 + 1, 0, none⟩)], .func (.func 21) #[] #[.pointer (some ⟨w.heap.size, 0, none⟩), .pointer (some ⟨w.heap.size + 1, 0, none⟩), .pointer (some ⟨w.heap.size + 1 + 1, 0, none⟩)]] 71) a_k
  replace b_k := heap_past (.cells #[.func (.func 12) #[] #[.pointer (some ⟨w.heap.size, 0, none⟩), .pointer (some ⟨w.heap.size + 1, 0, none⟩), .pointer (some ⟨w.heap.size + 1 + 1, 0, none⟩)], .func (.func 15) #[] #[.pointer (some ⟨w.heap.size, 0, none⟩), .pointer (some ⟨w.heap.size + 1, 0, none⟩), .pointer (some ⟨w.heap.size + 1 + 1, 0, none⟩)], .func (.func 18) #[] #[.pointer (some ⟨w.heap.size, 0, none⟩), .pointer (some ⟨w.heap.size + 1, 0, none⟩), .pointer (some ⟨w.heap.size + 1 + 1, 0, none⟩)], .func (.func 21) #[] #[.pointer (some ⟨w.heap.size, 0, none⟩), .pointer (some ⟨w.heap.size + 1, 0, none⟩), .pointer (some ⟨w.heap.size + 1 + 1, 0, none⟩)]] 71) b_k
  replace c_k := heap_past (.cells #[.func (.func 12) #[] #[.pointer (some ⟨w.heap.size, 0, none⟩), .pointer (some ⟨w.heap.size + 1, 0, none⟩), .pointer (some ⟨w.heap.size + 1 + 1, 0, none⟩)], .func (.func 15) #[] #[.pointer (some ⟨w.heap.size, 0, none⟩), .pointer (some ⟨w.heap.size + 1, 0, none⟩), .pointer (some ⟨w.heap.size + 1 + 1, 0, none⟩)], .func (.func 18) #[] #[.pointer (some ⟨w.heap.size, 0, none⟩), .pointer (some ⟨w.heap.size + 1, 0, none⟩), .pointer (some ⟨w.heap.size + 1 + 1, 0, none⟩)], .func (.func 21) #[] #[.pointer (some ⟨w.heap.size, 0, none⟩), .pointer (some ⟨w.heap.size + 1, 0, none⟩), .pointer (some ⟨w.heap.size + 1 + 1, 0, none⟩)]] 71) c_k
  replace r_k := heap_past (.cells #[.func (.func 12) #[] #[.pointer (some ⟨w.heap.size, 0, none⟩), .pointer (some ⟨w.heap.size + 1, 0, none⟩), .pointer (some ⟨w.heap.size + 1 + 1, 0, none⟩)], .func (.func 15) #[] #[.pointer (some ⟨w.heap.size, 0, none⟩), .pointer (some ⟨w.heap.size + 1, 0, none⟩), .pointer (some ⟨w.heap.size + 1 + 1, 0, none⟩)], .func (.func 18) #[] #[.pointer (some ⟨w.heap.size, 0, none⟩), .pointer (some ⟨w.heap.size + 1, 0, none⟩), .pointer (some ⟨w.heap.size + 1 + 1, 0, none⟩)], .func (.func 21) #[] #[.pointer (some ⟨w.heap.size, 0, none⟩), .pointer (some ⟨w.heap.size + 1, 0, none⟩), .pointer (some ⟨w.heap.size + 1 + 1, 0, none⟩)]] 71) r_k
  have s_k : (((((w.alloc (.cells #[.int .i64 ax, .int .i64 ay] 25)).alloc (.cells #[.int .i64 bx, .int .i64 by'] 25)).alloc (.cells #[.int .i64 cx, .int .i64 cy] 25)).alloc (.cells #[.int .i64 0, .int .i64 0] 28)).alloc (.cells #[.func (.func 12) #[] #[.pointer (some ⟨w.heap.size, 0, none⟩), .pointer (some ⟨w.heap.size + 1, 0, none⟩), .pointer (some ⟨w.heap.size + 1 + 1, 0, none⟩)], .func (.func 15) #[] #[.pointer (some ⟨w.heap.size, 0, none⟩), .pointer (some ⟨w.heap.size + 1, 0, none⟩), .pointer (some ⟨w.heap.size + 1 + 1, 0, none⟩)], .func (.func 18) #[] #[.pointer (some ⟨w.heap.size, 0, none⟩), .pointer (some ⟨w.heap.size + 1, 0, none⟩), .pointer (some ⟨w.heap.size + 1 + 1, 0, none⟩)], .func (.func 21) #[] #[.pointer (some ⟨w.heap.size, 0, none⟩), .pointer (some ⟨w.heap.size + 1, 0, none⟩), .pointer (some ⟨w.heap.size + 1 + 1, 0, none⟩)]] 71)).heap[w.heap.size + 1 + 1 + 1 + 1]? = some (.cells #[.func (.func 12) #[] #[.pointer (some ⟨w.heap.size, 0, none⟩), .pointer (some ⟨w.heap.size + 1, 0, none⟩), .pointer (some ⟨w.heap.size + 1 + 1, 0, none⟩)], .func (.func 15) #[] #[.pointer (some ⟨w.heap.size, 0, none⟩), .pointer (some ⟨w.heap.size + 1, 0, none⟩), .pointer (some ⟨w.heap.size + 1 + 1, 0, none⟩)], .func (.func 18) #[] #[.pointer (some ⟨w.heap.size, 0, none⟩), .pointer (some ⟨w.heap.size + 1, 0, none⟩), .pointer (some ⟨w.heap.size + 1 + 1, 0, none⟩)], .func (.func 21) #[] #[.pointer (some ⟨w.heap.size, 0, none⟩), .pointer (some ⟨w.heap.size + 1, 0, none⟩), .pointer (some ⟨w.heap.size + 1 + 1, 0, none⟩)]] 71) := heap_new (.cells #[.func (.func 12) #[] #[.pointer (some ⟨w.heap.size, 0, none⟩), .pointer (some ⟨w.heap.size + 1, 0, none⟩), .pointer (some ⟨w.heap.size + 1 + 1, 0, none⟩)], .func (.func 15) #[] #[.pointer (some ⟨w.heap.size, 0, none⟩), .pointer (some ⟨w.heap.size + 1, 0, none⟩), .pointer (some ⟨w.heap.size + 1 + 1, 0, none⟩)], .func (.func 18) #[] #[.pointer (some ⟨w.heap.size, 0, none⟩), .pointer (some ⟨w.heap.size + 1, 0, none⟩), .pointer (some ⟨w.heap.size + 1 + 1, 0, none⟩)], .func (.func 21) #[] #[.pointer (some ⟨w.heap.size, 0, none⟩), .pointer (some ⟨w.heap.size + 1, 0, none⟩), .pointer (some ⟨w.heap.size + 1 + 1, 0, none⟩)]] 71) (by simp only [size_alloc])
  replace hb0 := bel_trans hb0 (bel_alloc ((((w.alloc (.cells #[.int .i64 ax, .int .i64 ay] 25)).alloc (.cells #[.int .i64 bx, .int .i64 by'] 25)).alloc (.cells #[.int .i64 cx, .int .i64 cy] 25)).alloc (.cells #[.int .i64 0, .int .i64 0] 28)) (.cells #[.func (.func 12) #[] #[.pointer (some ⟨w.heap.size, 0, none⟩), .pointer (some ⟨w.heap.size + 1, 0, none⟩), .pointer (some ⟨w.heap.size + 1 + 1, 0, none⟩)], .func (.func 15) #[] #[.pointer (some ⟨w.heap.size, 0, none⟩), .pointer (some ⟨w.heap.size + 1, 0, none⟩), .pointer (some ⟨w.heap.size + 1 + 1, 0, none⟩)], .func (.func 18) #[] #[.pointer (some ⟨w.heap.size, 0, none⟩), .pointer (some ⟨w.heap.size + 1, 0, none⟩), .pointer (some ⟨w.heap.size + 1 + 1, 0, none⟩)], .func (.func 21) #[] #[.pointer (some ⟨w.heap.size, 0, none⟩), .pointer (some ⟨w.heap.size + 1, 0, none⟩), .pointer (some ⟨w.heap.size + 1 + 1, 0, none⟩)]] 71))
  have hsz0 : (((((w.alloc (.cells #[.int .i64 ax, .int .i64 ay] 25)).alloc (.cells #[.int .i64 bx, .int .i64 by'] 25)).alloc (.cells #[.int .i64 cx, .int .i64 cy] 25)).alloc (.cells #[.int .i64 0, .int .i64 0] 28)).alloc (.cells #[.func (.func 12) #[] #[.pointer (some ⟨w.heap.size, 0, none⟩), .pointer (some ⟨w.heap.size + 1, 0, none⟩), .pointer (some ⟨w.heap.size + 1 + 1, 0, none⟩)], .func (.func 15) #[] #[.pointer (some ⟨w.heap.size, 0, none⟩), .pointer (some ⟨w.heap.size + 1, 0, none⟩), .pointer (some ⟨w.heap.size + 1 + 1, 0, none⟩)], .func (.func 18) #[] #[.pointer (some ⟨w.heap.size, 0, none⟩), .pointer (some ⟨w.heap.size + 1, 0, none⟩), .pointer (some ⟨w.heap.size + 1 + 1, 0, none⟩)], .func (.func 21) #[] #[.pointer (some ⟨w.heap.size, 0, none⟩), .pointer (some ⟨w.heap.size + 1, 0, none⟩), .pointer (some ⟨w.heap.size + 1 + 1, 0, none⟩)]] 71)).heap.size = w.heap.size + 1 + 1 + 1 + 1 + 1 := by simp only [size_alloc]
  have hsz : Hid ((((((w.alloc (.cells #[.int .i64 ax, .int .i64 ay] 25)).alloc (.cells #[.int .i64 bx, .int .i64 by'] 25)).alloc (.cells #[.int .i64 cx, .int .i64 cy] 25)).alloc (.cells #[.int .i64 0, .int .i64 0] 28)).alloc (.cells #[.func (.func 12) #[] #[.pointer (some ⟨w.heap.size, 0, none⟩), .pointer (some ⟨w.heap.size + 1, 0, none⟩), .pointer (some ⟨w.heap.size + 1 + 1, 0, none⟩)], .func (.func 15) #[] #[.pointer (some ⟨w.heap.size, 0, none⟩), .pointer (some ⟨w.heap.size + 1, 0, none⟩), .pointer (some ⟨w.heap.size + 1 + 1, 0, none⟩)], .func (.func 18) #[] #[.pointer (some ⟨w.heap.size, 0, none⟩), .pointer (some ⟨w.heap.size + 1, 0, none⟩), .pointer (some ⟨w.heap.size + 1 + 1, 0, none⟩)], .func (.func 21) #[] #[.pointer (some ⟨w.heap.size, 0, none⟩), .pointer (some ⟨w.heap.size + 1, 0, none⟩), .pointer (some ⟨w.heap.size + 1 + 1, 0, none⟩)]] 71)).heap.size = w.heap.size + 1 + 1 + 1 + 1 + 1) := hsz0
  clear hsz0
  have f_a0 := blkC a_k 0 rfl
  have f_a1 := blkC a_k 1 rfl
  have f_b0 := blkC b_k 0 rfl
  have f_b1 := blkC b_k 1 rfl
  have f_c0 := blkC c_k 0 rfl
  have f_c1 := blkC c_k 1 rfl
  have f_s0 := blkC s_k 0 rfl
  have f_s1 := blkC s_k 1 rfl
  have f_s2 := blkC s_k 2 rfl
  have f_s3 := blkC s_k 3 rfl
  go_enter Tryz.func6, Tryz.ntmps6
  go_wp2_with fail
  clear f_a0 f_a1 f_b0 f_b1 f_c0 f_c1 f_s0 f_s1 f_s2 f_s3
  generalize (((((w.alloc (.cells #[.int .i64 ax, .int .i64 ay] 25)).alloc (.cells #[.int .i64 bx, .int .i64 by'] 25)).alloc (.cells #[.int .i64 cx, .int .i64 cy] 25)).alloc (.cells #[.int .i64 0, .int .i64 0] 28)).alloc (.cells #[.func (.func 12) #[] #[.pointer (some ⟨w.heap.size, 0, none⟩), .pointer (some ⟨w.heap.size + 1, 0, none⟩), .pointer (some ⟨w.heap.size + 1 + 1, 0, none⟩)], .func (.func 15) #[] #[.pointer (some ⟨w.heap.size, 0, none⟩), .pointer (some ⟨w.heap.size + 1, 0, none⟩), .pointer (some ⟨w.heap.size + 1 + 1, 0, none⟩)], .func (.func 18) #[] #[.pointer (some ⟨w.heap.size, 0, none⟩), .pointer (some ⟨w.heap.size + 1, 0, none⟩), .pointer (some ⟨w.heap.size + 1 + 1, 0, none⟩)], .func (.func 21) #[] #[.pointer (some ⟨w.heap.size, 0, none⟩), .pointer (some ⟨w.heap.size + 1, 0, none⟩), .pointer (some ⟨w.heap.size + 1 + 1, 0, none⟩)]] 71)) = x0 at hb0 a_k b_k c_k r_k s_k hsz ⊢
  have l_k := heap_new (.cells #[.int .i64 ax, .int .i64 ay, .int .i64 bx, .int .i64 by', .int .i64 cx, .int .i64 cy] 25) hsz.out.symm
  replace a_k := heap_past (.cells #[.int .i64 ax, .int .i64 ay, .int .i64 bx, .int .i64 by', .int .i64 cx, .int .i64 cy] 25) a_k
  replace b_k := heap_past (.cells #[.int .i64 ax, .int .i64 ay, .int .i64 bx, .int .i64 by', .int .i64 cx, .int .i64 cy] 25) b_k
  replace c_k := heap_past (.cells #[.int .i64 ax, .int .i64 ay, .int .i64 bx, .int .i64 by', .int .i64 cx, .int .i64 cy] 25) c_k
  replace r_k := heap_past (.cells #[.int .i64 ax, .int .i64 ay, .int .i64 bx, .int .i64 by', .int .i64 cx, .int .i64 cy] 25) r_k
  replace hb0 := bel_trans hb0 (bel_alloc x0 (.cells #[.int .i64 ax, .int .i64 ay, .int .i64 bx, .int .i64 by', .int .i64 cx, .int .i64 cy] 25))
  replace H := H.keeps hb0
  refine (HV.out _ _ _ _  _ H a_k b_k c_k l_k).mono ?_
  rintro _ y1 ⟨rfl, hw1⟩
  replace r_k := blk_on hw1 r_k
  replace hb0 := bel_trans hb0 hw1
  have k0 := blkC r_k 0 rfl
  have k1 := blkC r_k 1 rfl
  have z0 := blkF r_k 0
  have z1 := blkF r_k 1
  go_wp2
  exact bodyPost_ret (v := .tuple #[.agg #[.int .i64 V, .int .i64 U], .int .i64 E]) (by simp [results, Tryz.results6, go_sem, k0, k1]) rfl ⟨rfl, ((hb0.setCell (p := ⟨w.heap.size + 3, 0, none⟩) (show w.heap.size ≤ w.heap.size + 3 by omega) _).setCell (p := ⟨w.heap.size + 3, 1, none⟩) (show w.heap.size ≤ w.heap.size + 3 by omega) _)⟩
end Go.Proofs.YtcpjdgfnblkfpaaGreatDoor

/-
  Package measure: Angle, by its contract: the sign is the exact one's.
-/
namespace Go.Proofs.YtcpjdgfnblkfpaaGreatDoor
open Go Go.RowKit Go.Proofs.YtcpjdgfnblkfpaaGreatDoor.M
set_option linter.unusedSimpArgs false
set_option linter.unusedVariables false

/-- The product of two ways, in units of the least float. -/
def dotX (ax ay bx by' cx cy : Int) : Int := (iV ax - iV bx) * (iV cx - iV bx) + (iV ay - iV by') * (iV cy - iV by')
theorem pat_dif {p q : Int} (hp : rng p) (hq : rng q) (pp : pok p = true) (pq : pok q = true) : patV p - patV q = (iV p - iV q) * pw (-1074) := by
  rw [patV_iV hp pp, patV_iV hq pq, Int.sub_mul]
theorem prod_scale (x y : Int) : (x * y * pw (-2148)) * 2 ^ 4194304 = (x * pw (-1074)) * (y * pw (-1074)) := by
  have h := pw_mul (a := -1074) (b := -1074) (by omega) (by omega)
  rw [show (-1074 : Int) + -1074 = -2148 by decide] at h
  generalize pw (-2148) = P at *
  generalize pw (-1074) = Q at *
  generalize (2 : Int) ^ 4194304 = Z at *
  have e : (x * Q) * (y * Q) = x * y * (Q * Q) := by grind
  rw [e, h]
  grind
theorem dot2_X {ax ay bx by' cx cy : Int} (rax : rng ax) (ray : rng ay) (rbx : rng bx) (rby : rng by') (rcx : rng cx) (rcy : rng cy) (pax : pok ax = true) (pay : pok ay = true) (pbx : pok bx = true) (pby : pok by' = true) (pcx : pok cx = true) (pcy : pok cy = true) :
    Dot2 (patV ax - patV bx) (patV ay - patV by') (patV cx - patV bx) (patV cy - patV by') (dotX ax ay bx by' cx cy * pw (-2148)) := by
  rw [pat_dif rax rbx pax pbx, pat_dif ray rby pay pby, pat_dif rcx rbx pcx pbx, pat_dif rcy rby pcy pby]
  exact ⟨_, _, prod_scale _ _, prod_scale _ _, by unfold dotX; rw [Int.add_mul]⟩
theorem ord_mulP {x q : Int} (hq : 0 < q) : ord (x * q) 0 = ord x 0 := by
  obtain ⟨h1, h2⟩ := sc_sgn (q := q) (x := x) hq
  rw [Int.mul_comm] at h1 h2
  unfold ord
  by_cases a : x < 0
  · rw [if_pos a, if_pos (h2.2 a)]
  · have a' : ¬ x * q < 0 := fun h => a (h2.1 h)
    rw [if_neg a, if_neg a']
    by_cases b : 0 < x
    · have b' := h1.2 b
      first | rw [if_pos b, if_pos b'] | simp [b, b']
    · have b' : ¬ 0 < x * q := fun h => b (h1.1 h)
      first | rw [if_neg b, if_neg b'] | simp [b, b']
theorem ord_iff {x y : Int} (h1 : 0 < x ↔ 0 < y) (h2 : x < 0 ↔ y < 0) : ord x 0 = ord y 0 := by
  unfold ord
  by_cases a : x < 0
  · rw [if_pos a, if_pos (h2.1 a)]
  · have a' : ¬ y < 0 := fun h => a (h2.2 h)
    rw [if_neg a, if_neg a']
    by_cases b : 0 < x
    · have b' := h1.1 b
      first | rw [if_pos b, if_pos b'] | simp [b, b']
    · have b' : ¬ 0 < y := fun h => b (h1.2 h)
      first | rw [if_neg b, if_neg b'] | simp [b, b']
/-- Which stage decides. -/
def allT3 (ax ay bx by' cx cy : Int) : Bool := pttame ax ay && pttame bx by' && pttame cx cy
def anSt (ax ay bx by' cx cy : Int) : Int :=
  if allT3 ax ay bx by' cx cy then (if key (fprod c49 (anS ax ay bx by' cx cy)) < rg (anD ax ay bx by' cx cy) then 1 else 4)
  else (if sgK (dLo ax ay bx by' cx cy) (dHi ax ay bx by' cx cy) then 5 else 6)
theorem key_abs {m d : Int} (hm : rng m) (hd : rng d) (h : key m < rg d) : iV m ≤ ((iV d).natAbs : Int) := by
  obtain ⟨q1, q2⟩ := q_rg hd
  have e : iV (rg d) = ((iV d).natAbs : Int) := by
    rw [iV_abs, iV, decide_eq_false (by omega), rg_rg hd]
    rfl
  rw [← e]
  exact iV_le hm q1 (by rw [q_key q2]; omega)
theorem sgP_iV {p : Int} (hp : rng p) : sgP p = ord (iV p) 0 := by
  obtain ⟨k1, k2⟩ := iV_key hp
  exact ord_iff k2.symm k1.symm
theorem tame3 {ax ay bx by' cx cy : Int} (rax : rng ax) (ray : rng ay) (rbx : rng bx) (rby : rng by') (rcx : rng cx) (rcy : rng cy) (h : allT3 ax ay bx by' cx cy = true) : Mz ax ∧ Mz ay ∧ Mz bx ∧ Mz by' ∧ Mz cx ∧ Mz cy := by
  unfold allT3 pttame at h
  simp only [Bool.and_eq_true] at h
  obtain ⟨⟨⟨a1, a2⟩, b1, b2⟩, c1, c2⟩ := h
  exact ⟨tame_Mz rax a1, tame_Mz ray a2, tame_Mz rbx b1, tame_Mz rby b2, tame_Mz rcx c1, tame_Mz rcy c2⟩
set_option maxRecDepth 100000 in
theorem mAngle_t {ax ay bx by' cx cy : Int} (rax : rng ax) (ray : rng ay) (rbx : rng bx) (rby : rng by') (rcx : rng cx) (rcy : rng cy) (hT : allT3 ax ay bx by' cx cy = true) (w : World) (H : Hold4 w) :
    Calls Tryz.prog 6 #[.agg #[.int .i64 ax, .int .i64 ay], .agg #[.int .i64 bx, .int .i64 by'], .agg #[.int .i64 cx, .int .i64 cy]] w fun r w' => r = .returned (.tuple #[.agg #[.int .i64 (ord (dotX ax ay bx by' cx cy) 0), .int .i64 (anSt ax ay bx by' cx cy)], .int .i64 0]) ∧ Below w.heap.size w w' := by
  obtain ⟨hax, hay, hbx, hby, hcx, hcy⟩ := tame3 rax ray rbx rby rcx rcy hT
  have hE1 : ∀ (cap : Array Value) (w : World), (callFunc 12 cap).run Tryz.prog w = .ok (.enter 12 cap) w := by intro cap w; simp [go_sem]
  have hE2 : ∀ (cap : Array Value) (w : World), (callFunc 15 cap).run Tryz.prog w = .ok (.enter 15 cap) w := by intro cap w; simp [go_sem]
  obtain ⟨⟨fS, fD, fM⟩, hsg⟩ := ang_sign hax hay hbx hby hcx hcy rfl rfl rfl rfl
  refine mAngle_walk w H fun W ga gb gc gl HW ha hb hc hl => ?_
  refine mVerdict_tame _ _ _ _ _ _ _ _ W (fun W' hw => ?_) (fun W' hw => ?_)
  · have := mtame_any _ _ _ _ _ W' ((pts3 W hl).keeps hw) (rng3 rax rbx rcx) (rng3 ray rby rcy)
    rw [allB3 pttame, show (pttame ax ay && pttame bx by' && pttame cx cy) = true from hT] at this
    exact this
  · have hst : anSt ax ay bx by' cx cy = if key (fprod c49 (anS ax ay bx by' cx cy)) < rg (anD ax ay bx by' cx cy) then 1 else 4 := by
      unfold anSt; rw [hT]; rfl
    have C0 : ∀ W2, Below W'.heap.size W' W2 → Calls Tryz.prog 12 #[.pointer (some ⟨ga, 0, none⟩), .pointer (some ⟨gb, 0, none⟩), .pointer (some ⟨gc, 0, none⟩)] W2 fun r w' => r = .returned (.tuple #[.float .f64 (wd (anD ax ay bx by' cx cy)), .float .f64 (wd (anS ax ay bx by' cx cy))]) ∧ Below W2.heap.size W2 w' := fun W2 h2 =>
      mAng1 hax hay hbx hby hcx hcy W2 (blk_on (bel_trans hw h2) ha) (blk_on (bel_trans hw h2) hb) (blk_on (bel_trans hw h2) hc)
    by_cases hc1 : key (fprod c49 (anS ax ay bx by' cx cy)) < rg (anD ax ay bx by' cx cy)
    · have e : ord (dotX ax ay bx by' cx cy) 0 = sgP (anD ax ay bx by' cx cy) := by
        obtain ⟨r1, r2⟩ := hsg (key_abs fM.r fD.r hc1)
        rw [show sgP (anD ax ay bx by' cx cy) = ord (iV (fsum (aP ax bx cx) (aP ay by' cy))) 0 from sgP_iV fD.r]
        exact ord_iff r1 r2
      rw [hst, if_pos hc1, e]
      exact mTame_yes _ _ _ _ _ _ _ _ fD.r fD.p fS.r fS.p fM.p hc1 W' hE1 C0
    · rw [hst, if_neg hc1]
      refine mTame_no _ _ _ _ _ _ _ _ fD.r fD.p fS.r fS.p fM.p (by unfold anD anS at hc1; unfold c49 at hc1; exact Int.not_lt.1 hc1) W' hE1 C0 hE2 (fun W2 h2 => ?_)
      have H2 := HW.keeps (bel_trans hw h2)
      refine (mAngle2 hax hay hbx hby hcx hcy W2 H2 (blk_on (bel_trans hw h2) ha) (blk_on (bel_trans hw h2) hb) (blk_on (bel_trans hw h2) hc)).mono ?_
      rintro _ w3 ⟨o, c', rfl, hL, hb3⟩
      refine ⟨o, _, c', rfl, fun W4 h4 => ?_, hb3⟩
      obtain ⟨_, xv, _, xs⟩ := dL_all hax hay hbx hby hcx hcy
      have := xSign W4 (hL.keeps h4) xv ((H2.keeps hb3).keeps h4)
      have e : ord (lsm (dL ax ay bx by' cx cy).d (dL ax ay bx by' cx cy).n) 0 = ord (dotX ax ay bx by' cx cy) 0 := by
        unfold dotX
        rw [← xs, Int.mul_comm, ord_mulP (p2 1074)]
      rw [e] at this
      exact this
set_option maxRecDepth 100000 in
theorem mAngle_w {ax ay bx by' cx cy : Int} (rax : rng ax) (ray : rng ay) (rbx : rng bx) (rby : rng by') (rcx : rng cx) (rcy : rng cy) (pax : pok ax = true) (pay : pok ay = true) (pbx : pok bx = true) (pby : pok by' = true) (pcx : pok cx = true) (pcy : pok cy = true) (hT : allT3 ax ay bx by' cx cy = false) (w : World) (H : Hold4 w) :
    Calls Tryz.prog 6 #[.agg #[.int .i64 ax, .int .i64 ay], .agg #[.int .i64 bx, .int .i64 by'], .agg #[.int .i64 cx, .int .i64 cy]] w fun r w' => r = .returned (.tuple #[.agg #[.int .i64 (ord (dotX ax ay bx by' cx cy) 0), .int .i64 (anSt ax ay bx by' cx cy)], .int .i64 0]) ∧ Below w.heap.size w w' := by
  have hE3 : ∀ (cap : Array Value) (w : World), (callFunc 18 cap).run Tryz.prog w = .ok (.enter 18 cap) w := by intro cap w; simp [go_sem]
  have hE4 : ∀ (cap : Array Value) (w : World), (callFunc 21 cap).run Tryz.prog w = .ok (.enter 21 cap) w := by intro cap w; simp [go_sem]
  have hD := dot2_X rax ray rbx rby rcx rcy pax pay pbx pby pcx pcy
  have ok := d_okk rax ray rbx rby rcx rcy pax pay pbx pby pcx pcy
  have eV : mulS (patV ax - patV bx) (patV cx - patV bx) + mulS (patV ay - patV by') (patV cy - patV by') = dotX ax ay bx by' cx cy * pw (-2148) := by
    obtain ⟨C, D, h1, h2, h3⟩ := hD
    rw [h3, mulS_of h1, mulS_of h2]
  rw [eV] at ok
  have hst : anSt ax ay bx by' cx cy = if sgK (dLo ax ay bx by' cx cy) (dHi ax ay bx by' cx cy) then 5 else 6 := by
    unfold anSt; rw [hT]; rfl
  refine mAngle_walk w H fun W ga gb gc gl HW ha hb hc hl => ?_
  refine mVerdict_wild _ _ _ _ _ _ _ _ W (fun W' hw => ?_) (fun W' hw => ?_) (fun W' hw => ?_)
  · have := mtame_any _ _ _ _ _ W' ((pts3 W hl).keeps hw) (rng3 rax rbx rcx) (rng3 ray rby rcy)
    rw [allB3 pttame, show (pttame ax ay && pttame bx by' && pttame cx cy) = false from hT] at this
    exact this
  · have := mgood_any _ _ _ _ _ W' ((pts3 W hl).keeps hw) (rng3 rax rbx rcx) (rng3 ray rby rcy)
    rw [allB3 ptok, show (ptok ax ay && ptok bx by' && ptok cx cy) = true by unfold ptok; rw [pax, pay, pbx, pby, pcx, pcy]; rfl] at this
    exact this
  · have C2 : ∀ W2, Below W'.heap.size W' W2 → Calls Tryz.prog 18 #[.pointer (some ⟨ga, 0, none⟩), .pointer (some ⟨gb, 0, none⟩), .pointer (some ⟨gc, 0, none⟩)] W2 fun r w' => r = .returned (.agg #[.int .i64 (dLo ax ay bx by' cx cy), .int .i64 (dHi ax ay bx by' cx cy)]) ∧ Below W2.heap.size W2 w' := fun W2 h2 =>
      mAngle3 rax ray rbx rby rcx rcy pax pay pbx pby pcx pcy W2 (HW.keeps (bel_trans hw h2)) (blk_on (bel_trans hw h2) ha) (blk_on (bel_trans hw h2) hb) (blk_on (bel_trans hw h2) hc)
    have CS := fun W2 => spanSignE ok.lo.1 ok.hi.1 W2
    have hso := sgn_has ok
    rw [ord_mulP (pw_pos _)] at hso
    cases hk : sgK (dLo ax ay bx by' cx cy) (dHi ax ay bx by' cx cy)
    · rw [hk] at CS hst
      rw [hst]
      refine mWild_no _ _ _ _ _ _ _ _ W' hE3 C2 CS hE4 (fun W2 h2 => ?_)
      have H2 := HW.keeps (bel_trans hw h2)
      refine (mAngle4 pax pay pbx pby pcx pcy W2 H2 (blk_on (bel_trans hw h2) ha) (blk_on (bel_trans hw h2) hb) (blk_on (bel_trans hw h2) hc)).mono ?_
      rintro _ w3 ⟨v, V, rfl, hA, hV, hB⟩
      obtain ⟨n_g, n_o, n_n, n_c, n_e, rfl⟩ := dans_shape hA
      refine ⟨n_g, n_o, n_n, n_c, n_e, rfl, fun W4 h4 => ?_, hA.below⟩
      have := sign_D (hA.num.keeps h4) (hB.ok (by omega))
      rw [hV.unique hD, ord_mulP (pw_pos _)] at this
      exact this
    · rw [hk] at CS hst
      rw [hso hk] at CS
      rw [hst]
      exact mWild_yes (U := 0) _ _ _ _ _ _ _ _ W' hE3 C2 CS
/-- Angle of points. -/
theorem mAngle_ok {ax ay bx by' cx cy : Int} (rax : rng ax) (ray : rng ay) (rbx : rng bx) (rby : rng by') (rcx : rng cx) (rcy : rng cy) (pax : pok ax = true) (pay : pok ay = true) (pbx : pok bx = true) (pby : pok by' = true) (pcx : pok cx = true) (pcy : pok cy = true) (w : World) (H : Hold4 w) :
    Calls Tryz.prog 6 #[.agg #[.int .i64 ax, .int .i64 ay], .agg #[.int .i64 bx, .int .i64 by'], .agg #[.int .i64 cx, .int .i64 cy]] w fun r w' => r = .returned (.tuple #[.agg #[.int .i64 (ord (dotX ax ay bx by' cx cy) 0), .int .i64 (anSt ax ay bx by' cx cy)], .int .i64 0]) ∧ Below w.heap.size w w' := by
  cases hT : allT3 ax ay bx by' cx cy
  · exact mAngle_w rax ray rbx rby rcx rcy pax pay pbx pby pcx pcy hT w H
  · exact mAngle_t rax ray rbx rby rcx rcy hT w H
end Go.Proofs.YtcpjdgfnblkfpaaGreatDoor

/-
  Package measure: Dot, Square, by their contracts.
-/
namespace Go.Proofs.YtcpjdgfnblkfpaaGreatDoor
open Go Go.RowKit Go.Proofs.YtcpjdgfnblkfpaaGreatDoor.M
set_option linter.unusedSimpArgs false
set_option linter.unusedVariables false

set_option maxRecDepth 100000 in
set_option maxHeartbeats 2000000 in
theorem mDot_yes {ax ay bx by' cx cy : Int} (rax : rng ax) (ray : rng ay) (rbx : rng bx) (rby : rng by') (rcx : rng cx) (rcy : rng cy) (pax : pok ax = true) (pay : pok ay = true) (pbx : pok bx = true) (pby : pok by' = true) (pcx : pok cx = true) (pcy : pok cy = true) (w : World) (H : Hold4 w) :
    Calls Tryz.prog 26 #[.agg #[.int .i64 ax, .int .i64 ay], .agg #[.int .i64 bx, .int .i64 by'], .agg #[.int .i64 cx, .int .i64 cy]] w fun r w' => ∃ v V, r = .returned (.tuple #[v, .int .i64 0]) ∧ DAns w w' V v ∧ Dot2 (patV ax - patV bx) (patV ay - patV by') (patV cx - patV bx) (patV cy - patV by') V ∧ Bd 8100 V := by
  have CG : Hid (∀ W g, W.heap[g]? = some (.cells #[.int .i64 ax, .int .i64 ay, .int .i64 bx, .int .i64 by', .int .i64 cx, .int .i64 cy] 25) → Calls Tryz.prog 48 #[.slice (some ⟨g, 0, none⟩) 3 3] W fun x w' => x = .returned (.bool true) ∧ Below W.heap.size W w') := fun W g h => by
    have := mgood_any _ _ _ _ _ W (pts3 W h) (rng3 rax rbx rcx) (rng3 ray rby rcy)
    rw [allB3] at this
    have e : (ptok ax ay && ptok bx by' && ptok cx cy) = true := by unfold ptok; rw [pax, pay, pbx, pby, pcx, pcy]; rfl
    rw [e] at this
    exact this
  have CD : Hid (∀ W, Hold4 W → Calls Tryz.prog 23 #[.agg #[.func (.func 41) #[] #[], .func (.func 42) #[] #[], .func (.func 43) #[] #[], .func (.func 44) #[] #[]], .agg #[.int .i64 ax, .int .i64 ay], .agg #[.int .i64 bx, .int .i64 by'], .agg #[.int .i64 cx, .int .i64 cy]] W fun r w' => ∃ v V, r = .returned v ∧ DAns W w' V v ∧ Dot2 (patV ax - patV bx) (patV ay - patV by') (patV cx - patV bx) (patV cy - patV by') V ∧ Bd 8100 V) := fun W h => mdotN_any pax pay pbx pby pcx pcy W h
  clear rax ray rbx rby rcx rcy pax pay pbx pby pcx pcy
  have a_k : (w.alloc (.cells #[.int .i64 ax, .int .i64 ay] 25)).heap[w.heap.size]? = some (.cells #[.int .i64 ax, .int .i64 ay] 25) := heap_new (.cells #[.int .i64 ax, .int .i64 ay] 25) (by rfl)
  have hb0 := bel_alloc w (.cells #[.int .i64 ax, .int .i64 ay] 25)
  replace a_k := heap_past (.cells #[.int .i64 bx, .int .i64 by'] 25) a_k
  have b_k : ((w.alloc (.cells #[.int .i64 ax, .int .i64 ay] 25)).alloc (.cells #[.int .i64 bx, .int .i64 by'] 25)).heap[w.heap.size + 1]? = some (.cells #[.int .i64 bx, .int .i64 by'] 25) := heap_new (.cells #[.int .i64 bx, .int .i64 by'] 25) (by simp only [size_alloc])
  replace hb0 := bel_trans hb0 (bel_alloc (w.alloc (.cells #[.int .i64 ax, .int .i64 ay] 25)) (.cells #[.int .i64 bx, .int .i64 by'] 25))
  replace a_k := heap_past (.cells #[.int .i64 cx, .int .i64 cy] 25) a_k
  replace b_k := heap_past (.cells #[.int .i64 cx, .int .i64 cy] 25) b_k
  have c_k : (((w.alloc (.cells #[.int .i64 ax, .int .i64 ay] 25)).alloc (.cells #[.int .i64 bx, .int .i64 by'] 25)).alloc (.cells #[.int .i64 cx, .int .i64 cy] 25)).heap[w.heap.size + 1 + 1]? = some (.cells #[.int .i64 cx, .int .i64 cy] 25) := heap_new (.cells #[.int .i64 cx, .int .i64 cy] 25) (by simp only [size_alloc])
  replace hb0 := bel_trans hb0 (bel_alloc ((w.alloc (.cells #[.int .i64 ax, .int .i64 ay] 25)).alloc (.cells #[.int .i64 bx, .int .i64 by'] 25)) (.cells #[.int .i64 cx, .int .i64 cy] 25))
  replace a_k := heap_past (.cells #[.bool false, .slice none 0 0, .int .i64 0] 37) a_k
  replace b_k := heap_past (.cells #[.bool false, .slice none 0 0, .int .i64 0] 37) b_k
  replace c_k := heap_past (.cells #[.bool false, .slice none 0 0, .int .i64 0] 37) c_k
  have r_k : ((((w.alloc (.cells #[.int .i64 ax, .int .i64 ay] 25)).alloc (.cells #[.int .i64 bx, .int .i64 by'] 25)).alloc (.cells #[.int .i64 cx, .int .i64 cy] 25)).alloc (.cells #[.bool false, .slice none 0 0, .int .i64 0] 37)).heap[w.heap.size + 1 + 1 + 1]? = some (.cells #[.bool false, .slice none 0 0, .int .i64 0] 37) := heap_new (.cells #[.bool false, .slice none 0 0, .int .i64 0] 37) (by simp only [size_alloc])
  replace hb0 := bel_trans hb0 (bel_alloc (((w.alloc (.cells #[.int .i64 ax, .int .i64 ay] 25)).alloc (.cells #[.int .i64 bx, .int .i64 by'] 25)).alloc (.cells #[.int .i64 cx, .int .i64 cy] 25)) (.cells #[.bool false, .slice none 0 0, .int .i64 0] 37))
  have hsz0 : ((((w.alloc (.cells #[.int .i64 ax, .int .i64 ay] 25)).alloc (.cells #[.int .i64 bx, .int .i64 by'] 25)).alloc (.cells #[.int .i64 cx, .int .i64 cy] 25)).alloc (.cells #[.bool false, .slice none 0 0, .int .i64 0] 37)).heap.size = w.heap.size + 1 + 1 + 1 + 1 := by simp only [size_alloc]
  have hsz : Hid (((((w.alloc (.cells #[.int .i64 ax, .int .i64 ay] 25)).alloc (.cells #[.int .i64 bx, .int .i64 by'] 25)).alloc (.cells #[.int .i64 cx, .int .i64 cy] 25)).alloc (.cells #[.bool false, .slice none 0 0, .int .i64 0] 37)).heap.size = w.heap.size + 1 + 1 + 1 + 1) := hsz0
  clear hsz0
  have f_a0 := blkC a_k 0 rfl
  have f_a1 := blkC a_k 1 rfl
  have f_b0 := blkC b_k 0 rfl
  have f_b1 := blkC b_k 1 rfl
  have f_c0 := blkC c_k 0 rfl
  have f_c1 := blkC c_k 1 rfl
  go_enter Tryz.func26, Tryz.ntmps26
  go_wp2_with fail
  clear f_a0 f_a1 f_b0 f_b1 f_c0 f_c1
  generalize ((((w.alloc (.cells #[.int .i64 ax, .int .i64 ay] 25)).alloc (.cells #[.int .i64 bx, .int .i64 by'] 25)).alloc (.cells #[.int .i64 cx, .int .i64 cy] 25)).alloc (.cells #[.bool false, .slice none 0 0, .int .i64 0] 37)) = x0 at hb0 a_k b_k c_k r_k hsz ⊢
  refine (CG.out _ _ (heap_new _ hsz.out.symm)).mono ?_
  rintro _ y1 ⟨rfl, hw1⟩
  replace a_k := blk_on hw1 (heap_past (.cells #[.int .i64 ax, .int .i64 ay, .int .i64 bx, .int .i64 by', .int .i64 cx, .int .i64 cy] 25) a_k)
  replace b_k := blk_on hw1 (heap_past (.cells #[.int .i64 ax, .int .i64 ay, .int .i64 bx, .int .i64 by', .int .i64 cx, .int .i64 cy] 25) b_k)
  replace c_k := blk_on hw1 (heap_past (.cells #[.int .i64 ax, .int .i64 ay, .int .i64 bx, .int .i64 by', .int .i64 cx, .int .i64 cy] 25) c_k)
  replace r_k := blk_on hw1 (heap_past (.cells #[.int .i64 ax, .int .i64 ay, .int .i64 bx, .int .i64 by', .int .i64 cx, .int .i64 cy] 25) r_k)
  replace hb0 := bel_trans (bel_trans hb0 (bel_alloc x0 (.cells #[.int .i64 ax, .int .i64 ay, .int .i64 bx, .int .i64 by', .int .i64 cx, .int .i64 cy] 25))) hw1
  have H := H.keeps hb0
  go_wp2_with fail
  have KK1 : ∀ W, Below y1.heap.size y1 W → W.cell? ⟨w.heap.size, 0, none⟩ = some (.int .i64 ax) ∧ W.cell? ⟨w.heap.size, 1, none⟩ = some (.int .i64 ay) ∧ W.cell? ⟨w.heap.size + 1, 0, none⟩ = some (.int .i64 bx) ∧ W.cell? ⟨w.heap.size + 1, 1, none⟩ = some (.int .i64 by') ∧ W.cell? ⟨w.heap.size + 2, 0, none⟩ = some (.int .i64 cx) ∧ W.cell? ⟨w.heap.size + 2, 1, none⟩ = some (.int .i64 cy) := fun W hb => ⟨q_cell (blkC a_k 0 rfl) hb, q_cell (blkC a_k 1 rfl) hb, q_cell (blkC b_k 0 rfl) hb, q_cell (blkC b_k 1 rfl) hb, q_cell (blkC c_k 0 rfl) hb, q_cell (blkC c_k 1 rfl) hb⟩
  have ne_a : w.heap.size ≠ w.heap.size + 1 + 1 + 1 := by omega
  have ne_b : w.heap.size + 1 ≠ w.heap.size + 1 + 1 + 1 := by omega
  have ne_c : w.heap.size + 2 ≠ w.heap.size + 1 + 1 + 1 := by omega
  have hC1_0 := (bel_refl y1).drew
  have hs1_0 := (bel_refl y1).drew
  have hT1_0 : Below w.heap.size w y1.drew := hb0.drew
  have H_1_0 := H.keeps (bel_refl y1).drew
  have hrs := (Array.getElem?_eq_some_iff.1 r_k).1
  go_region_held3 (fun W => W.cell? ⟨w.heap.size, 0, none⟩ = some (.int .i64 ax) ∧ W.cell? ⟨w.heap.size, 1, none⟩ = some (.int .i64 ay) ∧ W.cell? ⟨w.heap.size + 1, 0, none⟩ = some (.int .i64 bx) ∧ W.cell? ⟨w.heap.size + 1, 1, none⟩ = some (.int .i64 by') ∧ W.cell? ⟨w.heap.size + 2, 0, none⟩ = some (.int .i64 cx) ∧ W.cell? ⟨w.heap.size + 2, 1, none⟩ = some (.int .i64 cy))
    (with_reducible first | assumption | exact KK1 _ hC1_0 | exact KK1 _ hC1_1 | exact KK1 _ hC1_2 | exact ⟨cellS (KK1 _ hC1_2).1 ne_a _ _ _, cellS (KK1 _ hC1_2).2.1 ne_a _ _ _, cellS (KK1 _ hC1_2).2.2.1 ne_b _ _ _, cellS (KK1 _ hC1_2).2.2.2.1 ne_b _ _ _, cellS (KK1 _ hC1_2).2.2.2.2.1 ne_c _ _ _, cellS (KK1 _ hC1_2).2.2.2.2.2 ne_c _ _ _⟩ | fail)
    (first
      | (go_at_call 23; have _t := hs1_1; refine (CD.out _ (H_1_1.keeps (by with_reducible first | exact bel_refl _ | exact bel_alloc _ _ | exact bel_dr _ _))).mono ?_; rintro _ y1_2 ⟨v, V, rfl, na1, hV, hB⟩; obtain ⟨n_g, n_o, n_n, n_c, n_e, rfl⟩ := dans_shape na1; have hq1_2 := na1.below; have hs1_2 : Below y1_1.heap.size y1_1 y1_2 := (by with_reducible first | exact hq1_2 | exact bel_trans (bel_alloc _ _) hq1_2 | exact bel_trans (bel_dr _ _) hq1_2); have hT1_2 := bel_trans hT1_1 hs1_2; have hC1_2 := bel_trans hC1_1 hs1_2; have H_1_2 := H_1_1.keeps hs1_2; have hr := blk_on hs1_2 (blk_on hs1_1 (blk_on hs1_0 r_k)); have k0 := (fun _ => blkC hr 0 rfl) hs1_2; have z0 := (fun _ => blkF hr 0) hs1_2; have k1 := (fun _ => blkC hr 1 rfl) hs1_2; have z1 := (fun _ => blkF hr 1) hs1_2; have k2 := (fun _ => blkC hr 2 rfl) hs1_2; have z2 := (fun _ => blkF hr 2) hs1_2)
      | (go_at_call 22; refine (mexactNumbers _).mono ?_; rintro _ y1_1 ⟨rfl, hq1_1⟩; have hs1_1 : Below y1.drew.heap.size y1.drew y1_1 := (by with_reducible first | exact hq1_1 | exact bel_trans (bel_alloc _ _) hq1_1 | exact bel_trans (bel_dr _ _) hq1_1); have hT1_1 := bel_trans hT1_0 hs1_1; have hC1_1 := bel_trans hC1_0 hs1_1; have H_1_1 := H_1_0.keeps hs1_1))
  go_wp2
  refine bodyPost_ret (v := .tuple #[.agg #[.bool n_g, .slice n_o n_n n_c, .int .i64 n_e], .int .i64 0]) (by simp [results, Tryz.results26, go_sem, k0, k1, k2]) rfl ⟨_, V, rfl, ?_, hV, hB⟩
  exact dans_res3 (g := w.heap.size + 3) na1 (bel_trans hb0 (by first | exact hs1_1 | exact bel_trans hs1_0 hs1_1)) (by omega) (Nat.lt_of_lt_of_le hrs (bel_trans hs1_0 hs1_1).size) _ _ _
end Go.Proofs.YtcpjdgfnblkfpaaGreatDoor

/-
  plumblaw10.SameNum, by its contract.
-/
namespace Go.Proofs.YtcpjdgfnblkfpaaGreatDoor
open Go Go.RowKit Go.Proofs.YtcpjdgfnblkfpaaGreatDoor.M
set_option linter.unusedSimpArgs false
set_option linter.unusedVariables false

set_option maxRecDepth 100000 in
set_option maxHeartbeats 4000000 in
theorem osame_D {w : World} {x y : Value} {A B : Int} (hx : DNum w x A) (hy : DNum w y B) :
    Calls Tryz.prog 10 #[x, y] w fun r w' => r = .returned (.bool (decide (A = B))) ∧ Below w.heap.size w w' := by
  obtain ⟨g, s, m, e, rfl, dx, ao, n, ca, a, rfl, hR, hN, rfl⟩ := hx
  obtain ⟨g', s', m', e', rfl, dy, bo, n', cb, b, rfl, hR', hN', rfl⟩ := hy
  have hu : A = B → g = g' ∧ val a n = val b n' ∧ e = e' := fun q => by subst q; exact dx.unique dy
  have hm1 := hR.max
  have hl1 := hR.le
  have hm2 := hR'.max
  have hl2 := hR'.le
  have hb2 := bel_alloc2 w (.cells #[.bool g, .slice ao n ca, .int .i64 e] 37) (.cells #[.bool g', .slice bo n' cb, .int .i64 e'] 37)
  by_cases hg : g = g' ∧ e = e' ∧ n = n'
  · obtain ⟨rfl, rfl, rfl⟩ := hg
    have q0 := heap_a2 w (.cells #[.bool g, .slice ao n ca, .int .i64 e] 37) (.cells #[.bool g, .slice bo n cb, .int .i64 e] 37)
    have q1 := heap_b2 w (.cells #[.bool g, .slice ao n ca, .int .i64 e] 37) (.cells #[.bool g, .slice bo n cb, .int .i64 e] 37)
    have HR := hR.keeps hb2
    have HR' := hR'.keeps hb2
    have hAB : (∀ i, i < n → a i = b i) → A = B := fun q => by rw [dx.val, dy.val, val_congr q]
    go_enter Tryz.func10, Tryz.ntmps10
    go_wp2_with fail
    have k1 := blkC q0 1 rfl
    have j1 := blkC q1 1 rfl
    clear q0 q1 hu hR hR'
    generalize (w.alloc (.cells #[.bool g, .slice ao n ca, .int .i64 e] 37)).alloc (.cells #[.bool g, .slice bo n cb, .int .i64 e] 37) = wx at hb2 k1 j1 HR HR' ⊢
    have HNa : Hid (Nrm a n) := hN
    have HNb : Hid (Nrm b n) := hN'
    have HAB : Hid ((∀ i, i < n → a i = b i) → A = B) := hAB
    have HBA : Hid (A = B → ∀ i, i < n → a i = b i) := fun q => val_inj hN.1 hN'.1 (by subst q; exact (dx.unique dy).2.1)
    clear hN hN' hAB dx dy
    go_loopw [5] (fun i wr => ∃ k : Nat, k ≤ n ∧ i = .int .i64 k ∧ Hid (∀ i, i < k → a i = b i) ∧ Below wx.heap.size wx wr) (fun i _ => n - (intOf i).toNat)
    case atStart => exact ⟨0, Nat.zero_le _, rfl, fun i hi => by omega, bel_refl _⟩
    case round =>
      obtain ⟨k, hk, rfl, HS, hbw⟩ := hrel
      have k1' := cell_keeps k1 hbw
      have j1' := cell_keeps j1 hbw
      by_cases hlt : k < n
      · obtain ⟨ba, fa, rfl, hba, hca⟩ := HR.spot (by omega)
        obtain ⟨bb, fb, rfl, hbb, hcb⟩ := HR'.spot (by omega)
        have c1 := (hbw.cell (p := ⟨ba, fa + k, none⟩) hba).trans (hca k (by omega))
        have c2 := (hbw.cell (p := ⟨bb, fb + k, none⟩) hbb).trans (hcb k (by omega))
        clear hca hcb
        by_cases h1 : a k = b k
        · have h2 : (a k == b k) = true := by simpa using h1
          rw [h1] at c1
          go_wp2_with fail
          go_quiet (fail)
          go_wp2
          go_roundw
          case rel => exact ⟨k + 1, by omega, by go_num, fun i hi => by by_cases e : i = k; (· rw [e]; exact h1); (· exact HS.out i (by omega)), bDrewN hbw _⟩
          case measure => simp [intOf]; try omega
        · have h2 : (a k == b k) = false := by simpa using h1
          have hne : A ≠ B := fun q => h1 (HBA.out q k hlt)
          have hdd : Hid (false = decide (A = B)) := (decide_eq_false hne).symm
          clear hne
          go_wp2_with fail
          go_quiet (fail)
          go_wp2
          go_ret
          exact ⟨ret_bool hdd.out, bel_trans hb2 (bDrewN hbw _)⟩
      · obtain rfl : k = n := by omega
        have hdd : Hid (true = decide (A = B)) := (decide_eq_true (HAB.out HS.out)).symm
        go_wp2
        go_ret
        exact ⟨ret_bool hdd.out, bel_trans hb2 hbw⟩
  · have hne : A ≠ B := fun q => hg ⟨(hu q).1, (hu q).2.2, nrm_len hN hN' (hu q).2.1⟩
    rw [decide_eq_false hne]
    by_cases c1 : g = g'
    · subst c1
      by_cases c2 : e = e'
      · subst c2
        have c3 : n ≠ n' := fun q => hg ⟨rfl, rfl, q⟩
        have c4 : ((n : Int) == (n' : Int)) = false := by simp; omega
        clear hu
        go_enter Tryz.func10, Tryz.ntmps10
        go_wp2
        all_goals go_ret
        all_goals exact ⟨rfl, hb2⟩
      · have c4 : (e == e') = false := by simpa using c2
        clear hu
        go_enter Tryz.func10, Tryz.ntmps10
        go_wp2
        all_goals go_ret
        all_goals exact ⟨rfl, hb2⟩
    · have c4 : (g == g') = false := by simpa using c1
      clear hu
      go_enter Tryz.func10, Tryz.ntmps10
      go_wp2
      all_goals go_ret
      all_goals exact ⟨rfl, hb2⟩
end Go.Proofs.YtcpjdgfnblkfpaaGreatDoor

/-
  Package measure: Square, by its contract; plumblaw13's num, alive.
-/
namespace Go.Proofs.YtcpjdgfnblkfpaaGreatDoor
open Go Go.RowKit Go.Proofs.YtcpjdgfnblkfpaaGreatDoor.M
set_option linter.unusedSimpArgs false
set_option linter.unusedVariables false

set_option maxRecDepth 100000 in
set_option maxHeartbeats 1000000 in
theorem mSquare_yes {ax ay bx by' : Int} (rax : rng ax) (ray : rng ay) (rbx : rng bx) (rby : rng by') (pax : pok ax = true) (pay : pok ay = true) (pbx : pok bx = true) (pby : pok by' = true) (w : World) (H : Hold4 w) :
    Calls Tryz.prog 9 #[.agg #[.int .i64 ax, .int .i64 ay], .agg #[.int .i64 bx, .int .i64 by']] w fun r w' => ∃ v V, r = .returned (.tuple #[v, .int .i64 0]) ∧ DAns w w' V v ∧ Dot2 (patV ax - patV bx) (patV ay - patV by') (patV ax - patV bx) (patV ay - patV by') V ∧ Bd 8100 V := by
  have CD : Hid (∀ W, Hold4 W → Calls Tryz.prog 26 #[.agg #[.int .i64 ax, .int .i64 ay], .agg #[.int .i64 bx, .int .i64 by'], .agg #[.int .i64 ax, .int .i64 ay]] W fun r w' => ∃ v V, r = .returned (.tuple #[v, .int .i64 0]) ∧ DAns W w' V v ∧ Dot2 (patV ax - patV bx) (patV ay - patV by') (patV ax - patV bx) (patV ay - patV by') V ∧ Bd 8100 V) := fun W h => mDot_yes rax ray rbx rby rax ray pax pay pbx pby pax pay W h
  clear rax ray rbx rby pax pay pbx pby
  have a_k : (w.alloc (.cells #[.int .i64 ax, .int .i64 ay] 25)).heap[w.heap.size]? = some (.cells #[.int .i64 ax, .int .i64 ay] 25) := heap_new (.cells #[.int .i64 ax, .int .i64 ay] 25) (by rfl)
  have hb0 := bel_alloc w (.cells #[.int .i64 ax, .int .i64 ay] 25)
  replace a_k := heap_past (.cells #[.int .i64 bx, .int .i64 by'] 25) a_k
  have b_k : ((w.alloc (.cells #[.int .i64 ax, .int .i64 ay] 25)).alloc (.cells #[.int .i64 bx, .int .i64 by'] 25)).heap[w.heap.size + 1]? = some (.cells #[.int .i64 bx, .int .i64 by'] 25) := heap_new (.cells #[.int .i64 bx, .int .i64 by'] 25) (by simp only [size_alloc])
  replace hb0 := bel_trans hb0 (bel_alloc (w.alloc (.cells #[.int .i64 ax, .int .i64 ay] 25)) (.cells #[.int .i64 bx, .int .i64 by'] 25))
  replace a_k := heap_past (.cells #[.bool false, .slice none 0 0, .int .i64 0] 37) a_k
  replace b_k := heap_past (.cells #[.bool false, .slice none 0 0, .int .i64 0] 37) b_k
  have r_k : (((w.alloc (.cells #[.int .i64 ax, .int .i64 ay] 25)).alloc (.cells #[.int .i64 bx, .int .i64 by'] 25)).alloc (.cells #[.bool false, .slice none 0 0, .int .i64 0] 37)).heap[w.heap.size + 1 + 1]? = some (.cells #[.bool false, .slice none 0 0, .int .i64 0] 37) := heap_new (.cells #[.bool false, .slice none 0 0, .int .i64 0] 37) (by simp only [size_alloc])
  replace hb0 := bel_trans hb0 (bel_alloc ((w.alloc (.cells #[.int .i64 ax, .int .i64 ay] 25)).alloc (.cells #[.int .i64 bx, .int .i64 by'] 25)) (.cells #[.bool false, .slice none 0 0, .int .i64 0] 37))
  have f_a0 := blkC a_k 0 rfl
  have f_a1 := blkC a_k 1 rfl
  have f_b0 := blkC b_k 0 rfl
  have f_b1 := blkC b_k 1 rfl
  go_enter Tryz.func9, Tryz.ntmps9
  go_wp2_with fail
  clear f_a0 f_a1 f_b0 f_b1
  generalize (((w.alloc (.cells #[.int .i64 ax, .int .i64 ay] 25)).alloc (.cells #[.int .i64 bx, .int .i64 by'] 25)).alloc (.cells #[.bool false, .slice none 0 0, .int .i64 0] 37)) = x0 at hb0 a_k b_k r_k ⊢
  have H := H.keeps hb0
  have hs0 := (Array.getElem?_eq_some_iff.1 r_k).1
  refine (CD.out _ H).mono ?_
  rintro _ y2 ⟨v, V, rfl, h2, hD, hB⟩
  obtain ⟨n_g, n_o, n_n, n_c, n_e, rfl⟩ := dans_shape h2
  have hw2 := h2.below
  replace r_k := blk_on hw2 r_k
  have k0 := blkC r_k 0 rfl
  have z0 := blkF r_k 0
  have k1 := blkC r_k 1 rfl
  have z1 := blkF r_k 1
  have k2 := blkC r_k 2 rfl
  have z2 := blkF r_k 2
  go_wp2
  refine bodyPost_ret (v := .tuple #[.agg #[.bool n_g, .slice n_o n_n n_c, .int .i64 n_e], .int .i64 0]) (by simp [results, Tryz.results9, go_sem, k0, k1, k2]) rfl ⟨_, V, rfl, ?_, hD, hB⟩
  exact dans_res3 (g := w.heap.size + 2) h2 hb0 (by omega) hs0 _ _ _
theorem mnum (x : Int) (w : World) :
    Calls Tryz.prog 8 #[.int .i64 x] w fun e w' => e = .returned (.int .i64 x) ∧ w' = w := by
  go_enter Tryz.func8, Tryz.ntmps8
  go_wp2
  go_ret
  exact ⟨b_ret_int (by first | rfl | omega), rfl⟩
theorem pv_0 : patV 0 = 0 := by
  unfold patV
  rw [show pmag 0 = 0 by decide, show pneg 0 = false by decide]
  show (0 : Int) * _ = 0
  rw [Int.zero_mul]
theorem pv_3 : patV 4613937818241073152 = 3 * pw 0 := by
  unfold patV
  rw [show pneg 4613937818241073152 = false by decide, show pmag 4613937818241073152 = 6755399441055744 by decide, show pexp 4613937818241073152 = -51 by decide, pw_step (e := -51) (k := 0) (l := 51) (by omega) (by omega)]
  generalize pw (-51) = p
  show 6755399441055744 * p = 3 * (p * 2 ^ 51)
  rw [show (2 : Int) ^ 51 = 2251799813685248 by decide]
  omega
theorem pv_4 : patV 4616189618054758400 = 4 * pw 0 := by
  unfold patV
  rw [show pneg 4616189618054758400 = false by decide, show pmag 4616189618054758400 = 4503599627370496 by decide, show pexp 4616189618054758400 = -50 by decide, pw_step (e := -50) (k := 0) (l := 50) (by omega) (by omega)]
  generalize pw (-50) = p
  show 4503599627370496 * p = 4 * (p * 2 ^ 50)
  rw [show (2 : Int) ^ 50 = 1125899906842624 by decide]
  omega
theorem sq_of {C Y S k : Int} (h : C * S = (0 - k * Y) * (0 - k * Y)) (e : Y = S) : C * S = (k * k * Y) * S := by
  subst e
  rw [h]
  grind
theorem pw_0M : pw 0 = 2 ^ 4194304 := by unfold pw; congr 1
theorem sq_3_4 {V : Int} (h : Dot2 (patV 0 - patV 4613937818241073152) (patV 0 - patV 4616189618054758400) (patV 0 - patV 4613937818241073152) (patV 0 - patV 4616189618054758400) V) : V = sg false 25 * pw 0 := by
  obtain ⟨C, D, h1, h2, rfl⟩ := h
  rw [pv_0, pv_3] at h1
  rw [pv_0, pv_4] at h2
  rw [scale_inj (sq_of h1 pw_0M), scale_inj (sq_of h2 pw_0M)]
  generalize pw 0 = p
  show 3 * 3 * p + 4 * 4 * p = 25 * p
  omega
set_option maxRecDepth 100000 in
set_option maxHeartbeats 1000000 in
theorem alive13 (w : World) (H : Hold4 w) : Calls Tryz.prog 4 #[] w fun e w' => e = .returned (.bool true) ∧ Below w.heap.size w w' := by
  have CS : Hid (∀ W, Hold4 W → Calls Tryz.prog 9 #[.agg #[.int .i64 0, .int .i64 0], .agg #[.int .i64 4613937818241073152, .int .i64 4616189618054758400]] W fun r w' => ∃ v V, r = .returned (.tuple #[v, .int .i64 0]) ∧ DAns W w' V v ∧ Dot2 (patV 0 - patV 4613937818241073152) (patV 0 - patV 4616189618054758400) (patV 0 - patV 4613937818241073152) (patV 0 - patV 4616189618054758400) V ∧ Bd 8100 V) := fun W h => mSquare_yes (by unfold rng; decide) (by unfold rng; decide) (by unfold rng; decide) (by unfold rng; decide) (by decide) (by decide) (by decide) (by decide) W h
  go_enter Tryz.func4, Tryz.ntmps4
  go_wp2_with fail
  refine (CS.out _ H).mono ?_
  rintro _ y1 ⟨v, V, rfl, h1, hD, hB⟩
  replace hD : Hid (V = sg false 25 * pw 0) := sq_3_4 hD
  obtain ⟨x_g, x_o, x_n, x_c, x_e, rfl⟩ := dans_shape h1
  have hw1 := h1.below
  have x_D := h1.num
  clear h1 hB CS
  have x_k := heap_a1 y1 (.cells #[.bool x_g, .slice x_o x_n x_c, .int .i64 x_e] 37)
  have x_D := x_D.keeps (bel_alloc y1 (.cells #[.bool x_g, .slice x_o x_n x_c, .int .i64 x_e] 37))
  have hb1 := bel_trans hw1 (bel_alloc y1 (.cells #[.bool x_g, .slice x_o x_n x_c, .int .i64 x_e] 37))
  go_wp2_with (go_at_call 8; refine (mnum _ _).mono ?_; rintro _ wz ⟨rfl, hwz⟩; replace hwz := hwz.symm; subst hwz)
  have hl := dnum_lit (w := (y1.alloc (.cells #[.bool x_g, .slice x_o x_n x_c, .int .i64 x_e] 37)).alloc (.cells #[.int .i64 25] 3)) (g := y1.heap.size + 1) false (m := 25) (e := 0) (by decide) (by decide) (by decide) (by decide) (heap_new _ (by simp only [size_alloc]))
  have x_E := x_D.keeps (bel_alloc (y1.alloc (.cells #[.bool x_g, .slice x_o x_n x_c, .int .i64 x_e] 37)) (.cells #[.int .i64 25] 3))
  refine (osame_D x_E hl).mono ?_
  rintro _ y2 ⟨rfl, hw2⟩
  have he : decide (V = sg false 25 * pw 0) = true := decide_eq_true hD.out
  rw [he]
  have hb2 := bel_trans (bel_trans hb1 (bel_alloc _ _)) hw2
  clear he hD hl x_E
  go_wp2
  go_ret
  exact ⟨rfl, hb2⟩
end Go.Proofs.YtcpjdgfnblkfpaaGreatDoor
