/- Parts of the proof. -/
import Derived.Test.YtjjihmnbdeeedaaGreatDoorKn11
import Derived.Test.YtjjihmnbdeeedaaGreatDoorKn4
import Derived.Test.YtjjihmnbdeeedaaGreatDoorKn5
set_option maxRecDepth 100000
set_option maxHeartbeats 40000000
set_option linter.unusedVariables false
set_option linter.unusedSimpArgs false
namespace Go.Proofs.YtjjihmnbdeeedaaGreatDoor
open Go Go.RowKit Go.Proofs.YtjjihmnbdeeedaaGreatDoor.M
theorem st8 {W:World} {g:Nat} (h:W.heap[g]?=some (.cells #[.float .f64 0,.float .f64 0,.float .f64 0,.float .f64 0,.float .f64 0,.float .f64 0,.float .f64 0,.float .f64 0] 209 (0,0))) (v0 v1 v2 v3 v4 v5 v6 v7:Nat) :
  (store ⟨g,0,none⟩ (.float .f64 v0)).run Tryz.prog W=.ok () (W.setCell ⟨g,0,none⟩ (.float .f64 v0))∧(store ⟨g,1,none⟩ (.float .f64 v1)).run Tryz.prog (W.setCell ⟨g,0,none⟩ (.float .f64 v0))=.ok () ((W.setCell ⟨g,0,none⟩ (.float .f64 v0)).setCell ⟨g,1,none⟩ (.float .f64 v1))∧(store ⟨g,2,none⟩ (.float .f64 v2)).run Tryz.prog ((W.setCell ⟨g,0,none⟩ (.float .f64 v0)).setCell ⟨g,1,none⟩ (.float .f64 v1))=.ok () (((W.setCell ⟨g,0,none⟩ (.float .f64 v0)).setCell ⟨g,1,none⟩ (.float .f64 v1)).setCell ⟨g,2,none⟩ (.float .f64 v2))∧(store ⟨g,3,none⟩ (.float .f64 v3)).run Tryz.prog (((W.setCell ⟨g,0,none⟩ (.float .f64 v0)).setCell ⟨g,1,none⟩ (.float .f64 v1)).setCell ⟨g,2,none⟩ (.float .f64 v2))=.ok () ((((W.setCell ⟨g,0,none⟩ (.float .f64 v0)).setCell ⟨g,1,none⟩ (.float .f64 v1)).setCell ⟨g,2,none⟩ (.float .f64 v2)).setCell ⟨g,3,none⟩ (.float .f64 v3))∧(store ⟨g,4,none⟩ (.float .f64 v4)).run Tryz.prog ((((W.setCell ⟨g,0,none⟩ (.float .f64 v0)).setCell ⟨g,1,none⟩ (.float .f64 v1)).setCell ⟨g,2,none⟩ (.float .f64 v2)).setCell ⟨g,3,none⟩ (.float .f64 v3))=.ok () (((((W.setCell ⟨g,0,none⟩ (.float .f64 v0)).setCell ⟨g,1,none⟩ (.float .f64 v1)).setCell ⟨g,2,none⟩ (.float .f64 v2)).setCell ⟨g,3,none⟩ (.float .f64 v3)).setCell ⟨g,4,none⟩ (.float .f64 v4))∧(store ⟨g,5,none⟩ (.float .f64 v5)).run Tryz.prog (((((W.setCell ⟨g,0,none⟩ (.float .f64 v0)).setCell ⟨g,1,none⟩ (.float .f64 v1)).setCell ⟨g,2,none⟩ (.float .f64 v2)).setCell ⟨g,3,none⟩ (.float .f64 v3)).setCell ⟨g,4,none⟩ (.float .f64 v4))=.ok () ((((((W.setCell ⟨g,0,none⟩ (.float .f64 v0)).setCell ⟨g,1,none⟩ (.float .f64 v1)).setCell ⟨g,2,none⟩ (.float .f64 v2)).setCell ⟨g,3,none⟩ (.float .f64 v3)).setCell ⟨g,4,none⟩ (.float .f64 v4)).setCell ⟨g,5,none⟩ (.float .f64 v5))∧(store ⟨g,6,none⟩ (.float .f64 v6)).run Tryz.prog ((((((W.setCell ⟨g,0,none⟩ (.float .f64 v0)).setCell ⟨g,1,none⟩ (.float .f64 v1)).setCell ⟨g,2,none⟩ (.float .f64 v2)).setCell ⟨g,3,none⟩ (.float .f64 v3)).setCell ⟨g,4,none⟩ (.float .f64 v4)).setCell ⟨g,5,none⟩ (.float .f64 v5))=.ok () (((((((W.setCell ⟨g,0,none⟩ (.float .f64 v0)).setCell ⟨g,1,none⟩ (.float .f64 v1)).setCell ⟨g,2,none⟩ (.float .f64 v2)).setCell ⟨g,3,none⟩ (.float .f64 v3)).setCell ⟨g,4,none⟩ (.float .f64 v4)).setCell ⟨g,5,none⟩ (.float .f64 v5)).setCell ⟨g,6,none⟩ (.float .f64 v6))∧(store ⟨g,7,none⟩ (.float .f64 v7)).run Tryz.prog (((((((W.setCell ⟨g,0,none⟩ (.float .f64 v0)).setCell ⟨g,1,none⟩ (.float .f64 v1)).setCell ⟨g,2,none⟩ (.float .f64 v2)).setCell ⟨g,3,none⟩ (.float .f64 v3)).setCell ⟨g,4,none⟩ (.float .f64 v4)).setCell ⟨g,5,none⟩ (.float .f64 v5)).setCell ⟨g,6,none⟩ (.float .f64 v6))=.ok () ((((((((W.setCell ⟨g,0,none⟩ (.float .f64 v0)).setCell ⟨g,1,none⟩ (.float .f64 v1)).setCell ⟨g,2,none⟩ (.float .f64 v2)).setCell ⟨g,3,none⟩ (.float .f64 v3)).setCell ⟨g,4,none⟩ (.float .f64 v4)).setCell ⟨g,5,none⟩ (.float .f64 v5)).setCell ⟨g,6,none⟩ (.float .f64 v6)).setCell ⟨g,7,none⟩ (.float .f64 v7))∧((((((((W.setCell ⟨g,0,none⟩ (.float .f64 v0)).setCell ⟨g,1,none⟩ (.float .f64 v1)).setCell ⟨g,2,none⟩ (.float .f64 v2)).setCell ⟨g,3,none⟩ (.float .f64 v3)).setCell ⟨g,4,none⟩ (.float .f64 v4)).setCell ⟨g,5,none⟩ (.float .f64 v5)).setCell ⟨g,6,none⟩ (.float .f64 v6)).setCell ⟨g,7,none⟩ (.float .f64 v7)).heap[g]?=some (.cells #[.float .f64 v0,.float .f64 v1,.float .f64 v2,.float .f64 v3,.float .f64 v4,.float .f64 v5,.float .f64 v6,.float .f64 v7] 209 (0,0)):=by
 have d1:(W.setCell ⟨g,0,none⟩ (.float .f64 v0)).heap[g]?=some (.cells #[.float .f64 v0,.float .f64 0,.float .f64 0,.float .f64 0,.float .f64 0,.float .f64 0,.float .f64 0,.float .f64 0] 209 (0,0)):=q_heap_set h 0 (.float .f64 v0)
 have d2:((W.setCell ⟨g,0,none⟩ (.float .f64 v0)).setCell ⟨g,1,none⟩ (.float .f64 v1)).heap[g]?=some (.cells #[.float .f64 v0,.float .f64 v1,.float .f64 0,.float .f64 0,.float .f64 0,.float .f64 0,.float .f64 0,.float .f64 0] 209 (0,0)):=q_heap_set d1 1 (.float .f64 v1)
 have d3:(((W.setCell ⟨g,0,none⟩ (.float .f64 v0)).setCell ⟨g,1,none⟩ (.float .f64 v1)).setCell ⟨g,2,none⟩ (.float .f64 v2)).heap[g]?=some (.cells #[.float .f64 v0,.float .f64 v1,.float .f64 v2,.float .f64 0,.float .f64 0,.float .f64 0,.float .f64 0,.float .f64 0] 209 (0,0)):=q_heap_set d2 2 (.float .f64 v2)
 have d4:((((W.setCell ⟨g,0,none⟩ (.float .f64 v0)).setCell ⟨g,1,none⟩ (.float .f64 v1)).setCell ⟨g,2,none⟩ (.float .f64 v2)).setCell ⟨g,3,none⟩ (.float .f64 v3)).heap[g]?=some (.cells #[.float .f64 v0,.float .f64 v1,.float .f64 v2,.float .f64 v3,.float .f64 0,.float .f64 0,.float .f64 0,.float .f64 0] 209 (0,0)):=q_heap_set d3 3 (.float .f64 v3)
 have d5:(((((W.setCell ⟨g,0,none⟩ (.float .f64 v0)).setCell ⟨g,1,none⟩ (.float .f64 v1)).setCell ⟨g,2,none⟩ (.float .f64 v2)).setCell ⟨g,3,none⟩ (.float .f64 v3)).setCell ⟨g,4,none⟩ (.float .f64 v4)).heap[g]?=some (.cells #[.float .f64 v0,.float .f64 v1,.float .f64 v2,.float .f64 v3,.float .f64 v4,.float .f64 0,.float .f64 0,.float .f64 0] 209 (0,0)):=q_heap_set d4 4 (.float .f64 v4)
 have d6:((((((W.setCell ⟨g,0,none⟩ (.float .f64 v0)).setCell ⟨g,1,none⟩ (.float .f64 v1)).setCell ⟨g,2,none⟩ (.float .f64 v2)).setCell ⟨g,3,none⟩ (.float .f64 v3)).setCell ⟨g,4,none⟩ (.float .f64 v4)).setCell ⟨g,5,none⟩ (.float .f64 v5)).heap[g]?=some (.cells #[.float .f64 v0,.float .f64 v1,.float .f64 v2,.float .f64 v3,.float .f64 v4,.float .f64 v5,.float .f64 0,.float .f64 0] 209 (0,0)):=q_heap_set d5 5 (.float .f64 v5)
 have d7:(((((((W.setCell ⟨g,0,none⟩ (.float .f64 v0)).setCell ⟨g,1,none⟩ (.float .f64 v1)).setCell ⟨g,2,none⟩ (.float .f64 v2)).setCell ⟨g,3,none⟩ (.float .f64 v3)).setCell ⟨g,4,none⟩ (.float .f64 v4)).setCell ⟨g,5,none⟩ (.float .f64 v5)).setCell ⟨g,6,none⟩ (.float .f64 v6)).heap[g]?=some (.cells #[.float .f64 v0,.float .f64 v1,.float .f64 v2,.float .f64 v3,.float .f64 v4,.float .f64 v5,.float .f64 v6,.float .f64 0] 209 (0,0)):=q_heap_set d6 6 (.float .f64 v6)
 have d8:((((((((W.setCell ⟨g,0,none⟩ (.float .f64 v0)).setCell ⟨g,1,none⟩ (.float .f64 v1)).setCell ⟨g,2,none⟩ (.float .f64 v2)).setCell ⟨g,3,none⟩ (.float .f64 v3)).setCell ⟨g,4,none⟩ (.float .f64 v4)).setCell ⟨g,5,none⟩ (.float .f64 v5)).setCell ⟨g,6,none⟩ (.float .f64 v6)).setCell ⟨g,7,none⟩ (.float .f64 v7)).heap[g]?=some (.cells #[.float .f64 v0,.float .f64 v1,.float .f64 v2,.float .f64 v3,.float .f64 v4,.float .f64 v5,.float .f64 v6,.float .f64 v7] 209 (0,0)):=q_heap_set d7 7 (.float .f64 v7)
 refine ⟨?_,?_,?_,?_,?_,?_,?_,?_,d8⟩
 ·have f:=blkC h 0 rfl
  have z:=blkF h 0
  rw [run_store _ _ _ _ _ rfl,f]; simp only [z]; rfl
 ·have f:=blkC d1 1 rfl
  have z:=blkF d1 1
  rw [run_store _ _ _ _ _ rfl,f]; simp only [z]; rfl
 ·have f:=blkC d2 2 rfl
  have z:=blkF d2 2
  rw [run_store _ _ _ _ _ rfl,f]; simp only [z]; rfl
 ·have f:=blkC d3 3 rfl
  have z:=blkF d3 3
  rw [run_store _ _ _ _ _ rfl,f]; simp only [z]; rfl
 ·have f:=blkC d4 4 rfl
  have z:=blkF d4 4
  rw [run_store _ _ _ _ _ rfl,f]; simp only [z]; rfl
 ·have f:=blkC d5 5 rfl
  have z:=blkF d5 5
  rw [run_store _ _ _ _ _ rfl,f]; simp only [z]; rfl
 ·have f:=blkC d6 6 rfl
  have z:=blkF d6 6
  rw [run_store _ _ _ _ _ rfl,f]; simp only [z]; rfl
 ·have f:=blkC d7 7 rfl
  have z:=blkF d7 7
  rw [run_store _ _ _ _ _ rfl,f]; simp only [z]; rfl
theorem sa8 (W:World) (v0 v1 v2 v3 v4 v5 v6 v7:Nat) :
  (store ⟨W.heap.size,0,none⟩ (.float .f64 v0)).run Tryz.prog (W.alloc (.cells #[.float .f64 0,.float .f64 0,.float .f64 0,.float .f64 0,.float .f64 0,.float .f64 0,.float .f64 0,.float .f64 0] 209))=.ok () (W.alloc (.cells #[.float .f64 v0,.float .f64 0,.float .f64 0,.float .f64 0,.float .f64 0,.float .f64 0,.float .f64 0,.float .f64 0] 209))∧(store ⟨W.heap.size,1,none⟩ (.float .f64 v1)).run Tryz.prog (W.alloc (.cells #[.float .f64 v0,.float .f64 0,.float .f64 0,.float .f64 0,.float .f64 0,.float .f64 0,.float .f64 0,.float .f64 0] 209))=.ok () (W.alloc (.cells #[.float .f64 v0,.float .f64 v1,.float .f64 0,.float .f64 0,.float .f64 0,.float .f64 0,.float .f64 0,.float .f64 0] 209))∧(store ⟨W.heap.size,2,none⟩ (.float .f64 v2)).run Tryz.prog (W.alloc (.cells #[.float .f64 v0,.float .f64 v1,.float .f64 0,.float .f64 0,.float .f64 0,.float .f64 0,.float .f64 0,.float .f64 0] 209))=.ok () (W.alloc (.cells #[.float .f64 v0,.float .f64 v1,.float .f64 v2,.float .f64 0,.float .f64 0,.float .f64 0,.float .f64 0,.float .f64 0] 209))∧(store ⟨W.heap.size,3,none⟩ (.float .f64 v3)).run Tryz.prog (W.alloc (.cells #[.float .f64 v0,.float .f64 v1,.float .f64 v2,.float .f64 0,.float .f64 0,.float .f64 0,.float .f64 0,.float .f64 0] 209))=.ok () (W.alloc (.cells #[.float .f64 v0,.float .f64 v1,.float .f64 v2,.float .f64 v3,.float .f64 0,.float .f64 0,.float .f64 0,.float .f64 0] 209))∧(store ⟨W.heap.size,4,none⟩ (.float .f64 v4)).run Tryz.prog (W.alloc (.cells #[.float .f64 v0,.float .f64 v1,.float .f64 v2,.float .f64 v3,.float .f64 0,.float .f64 0,.float .f64 0,.float .f64 0] 209))=.ok () (W.alloc (.cells #[.float .f64 v0,.float .f64 v1,.float .f64 v2,.float .f64 v3,.float .f64 v4,.float .f64 0,.float .f64 0,.float .f64 0] 209))∧(store ⟨W.heap.size,5,none⟩ (.float .f64 v5)).run Tryz.prog (W.alloc (.cells #[.float .f64 v0,.float .f64 v1,.float .f64 v2,.float .f64 v3,.float .f64 v4,.float .f64 0,.float .f64 0,.float .f64 0] 209))=.ok () (W.alloc (.cells #[.float .f64 v0,.float .f64 v1,.float .f64 v2,.float .f64 v3,.float .f64 v4,.float .f64 v5,.float .f64 0,.float .f64 0] 209))∧(store ⟨W.heap.size,6,none⟩ (.float .f64 v6)).run Tryz.prog (W.alloc (.cells #[.float .f64 v0,.float .f64 v1,.float .f64 v2,.float .f64 v3,.float .f64 v4,.float .f64 v5,.float .f64 0,.float .f64 0] 209))=.ok () (W.alloc (.cells #[.float .f64 v0,.float .f64 v1,.float .f64 v2,.float .f64 v3,.float .f64 v4,.float .f64 v5,.float .f64 v6,.float .f64 0] 209))∧(store ⟨W.heap.size,7,none⟩ (.float .f64 v7)).run Tryz.prog (W.alloc (.cells #[.float .f64 v0,.float .f64 v1,.float .f64 v2,.float .f64 v3,.float .f64 v4,.float .f64 v5,.float .f64 v6,.float .f64 0] 209))=.ok () (W.alloc (.cells #[.float .f64 v0,.float .f64 v1,.float .f64 v2,.float .f64 v3,.float .f64 v4,.float .f64 v5,.float .f64 v6,.float .f64 v7] 209)):=by
 refine ⟨?_,?_,?_,?_,?_,?_,?_,?_⟩
 ·have h:=heap_a1 W (.cells #[.float .f64 0,.float .f64 0,.float .f64 0,.float .f64 0,.float .f64 0,.float .f64 0,.float .f64 0,.float .f64 0] 209)
  have f:=blkC h 0 rfl
  have z:=blkF h 0
  have e:(W.alloc (.cells #[.float .f64 0,.float .f64 0,.float .f64 0,.float .f64 0,.float .f64 0,.float .f64 0,.float .f64 0,.float .f64 0] 209)).setCell ⟨W.heap.size,0,none⟩ (.float .f64 v0)=W.alloc (.cells #[.float .f64 v0,.float .f64 0,.float .f64 0,.float .f64 0,.float .f64 0,.float .f64 0,.float .f64 0,.float .f64 0] 209):=by
   rw [World.setCell_alloc_at _ _ _ _ _ rfl]
   rfl
  rw [run_store _ _ _ _ _ rfl,f]; simp only [z]
  rw [<- e]
  rfl
 ·have h:=heap_a1 W (.cells #[.float .f64 v0,.float .f64 0,.float .f64 0,.float .f64 0,.float .f64 0,.float .f64 0,.float .f64 0,.float .f64 0] 209)
  have f:=blkC h 1 rfl
  have z:=blkF h 1
  have e:(W.alloc (.cells #[.float .f64 v0,.float .f64 0,.float .f64 0,.float .f64 0,.float .f64 0,.float .f64 0,.float .f64 0,.float .f64 0] 209)).setCell ⟨W.heap.size,1,none⟩ (.float .f64 v1)=W.alloc (.cells #[.float .f64 v0,.float .f64 v1,.float .f64 0,.float .f64 0,.float .f64 0,.float .f64 0,.float .f64 0,.float .f64 0] 209):=by
   rw [World.setCell_alloc_at _ _ _ _ _ rfl]
   rfl
  rw [run_store _ _ _ _ _ rfl,f]; simp only [z]
  rw [<- e]
  rfl
 ·have h:=heap_a1 W (.cells #[.float .f64 v0,.float .f64 v1,.float .f64 0,.float .f64 0,.float .f64 0,.float .f64 0,.float .f64 0,.float .f64 0] 209)
  have f:=blkC h 2 rfl
  have z:=blkF h 2
  have e:(W.alloc (.cells #[.float .f64 v0,.float .f64 v1,.float .f64 0,.float .f64 0,.float .f64 0,.float .f64 0,.float .f64 0,.float .f64 0] 209)).setCell ⟨W.heap.size,2,none⟩ (.float .f64 v2)=W.alloc (.cells #[.float .f64 v0,.float .f64 v1,.float .f64 v2,.float .f64 0,.float .f64 0,.float .f64 0,.float .f64 0,.float .f64 0] 209):=by
   rw [World.setCell_alloc_at _ _ _ _ _ rfl]
   rfl
  rw [run_store _ _ _ _ _ rfl,f]; simp only [z]
  rw [<- e]
  rfl
 ·have h:=heap_a1 W (.cells #[.float .f64 v0,.float .f64 v1,.float .f64 v2,.float .f64 0,.float .f64 0,.float .f64 0,.float .f64 0,.float .f64 0] 209)
  have f:=blkC h 3 rfl
  have z:=blkF h 3
  have e:(W.alloc (.cells #[.float .f64 v0,.float .f64 v1,.float .f64 v2,.float .f64 0,.float .f64 0,.float .f64 0,.float .f64 0,.float .f64 0] 209)).setCell ⟨W.heap.size,3,none⟩ (.float .f64 v3)=W.alloc (.cells #[.float .f64 v0,.float .f64 v1,.float .f64 v2,.float .f64 v3,.float .f64 0,.float .f64 0,.float .f64 0,.float .f64 0] 209):=by
   rw [World.setCell_alloc_at _ _ _ _ _ rfl]
   rfl
  rw [run_store _ _ _ _ _ rfl,f]; simp only [z]
  rw [<- e]
  rfl
 ·have h:=heap_a1 W (.cells #[.float .f64 v0,.float .f64 v1,.float .f64 v2,.float .f64 v3,.float .f64 0,.float .f64 0,.float .f64 0,.float .f64 0] 209)
  have f:=blkC h 4 rfl
  have z:=blkF h 4
  have e:(W.alloc (.cells #[.float .f64 v0,.float .f64 v1,.float .f64 v2,.float .f64 v3,.float .f64 0,.float .f64 0,.float .f64 0,.float .f64 0] 209)).setCell ⟨W.heap.size,4,none⟩ (.float .f64 v4)=W.alloc (.cells #[.float .f64 v0,.float .f64 v1,.float .f64 v2,.float .f64 v3,.float .f64 v4,.float .f64 0,.float .f64 0,.float .f64 0] 209):=by
   rw [World.setCell_alloc_at _ _ _ _ _ rfl]
   rfl
  rw [run_store _ _ _ _ _ rfl,f]; simp only [z]
  rw [<- e]
  rfl
 ·have h:=heap_a1 W (.cells #[.float .f64 v0,.float .f64 v1,.float .f64 v2,.float .f64 v3,.float .f64 v4,.float .f64 0,.float .f64 0,.float .f64 0] 209)
  have f:=blkC h 5 rfl
  have z:=blkF h 5
  have e:(W.alloc (.cells #[.float .f64 v0,.float .f64 v1,.float .f64 v2,.float .f64 v3,.float .f64 v4,.float .f64 0,.float .f64 0,.float .f64 0] 209)).setCell ⟨W.heap.size,5,none⟩ (.float .f64 v5)=W.alloc (.cells #[.float .f64 v0,.float .f64 v1,.float .f64 v2,.float .f64 v3,.float .f64 v4,.float .f64 v5,.float .f64 0,.float .f64 0] 209):=by
   rw [World.setCell_alloc_at _ _ _ _ _ rfl]
   rfl
  rw [run_store _ _ _ _ _ rfl,f]; simp only [z]
  rw [<- e]
  rfl
 ·have h:=heap_a1 W (.cells #[.float .f64 v0,.float .f64 v1,.float .f64 v2,.float .f64 v3,.float .f64 v4,.float .f64 v5,.float .f64 0,.float .f64 0] 209)
  have f:=blkC h 6 rfl
  have z:=blkF h 6
  have e:(W.alloc (.cells #[.float .f64 v0,.float .f64 v1,.float .f64 v2,.float .f64 v3,.float .f64 v4,.float .f64 v5,.float .f64 0,.float .f64 0] 209)).setCell ⟨W.heap.size,6,none⟩ (.float .f64 v6)=W.alloc (.cells #[.float .f64 v0,.float .f64 v1,.float .f64 v2,.float .f64 v3,.float .f64 v4,.float .f64 v5,.float .f64 v6,.float .f64 0] 209):=by
   rw [World.setCell_alloc_at _ _ _ _ _ rfl]
   rfl
  rw [run_store _ _ _ _ _ rfl,f]; simp only [z]
  rw [<- e]
  rfl
 ·have h:=heap_a1 W (.cells #[.float .f64 v0,.float .f64 v1,.float .f64 v2,.float .f64 v3,.float .f64 v4,.float .f64 v5,.float .f64 v6,.float .f64 0] 209)
  have f:=blkC h 7 rfl
  have z:=blkF h 7
  have e:(W.alloc (.cells #[.float .f64 v0,.float .f64 v1,.float .f64 v2,.float .f64 v3,.float .f64 v4,.float .f64 v5,.float .f64 v6,.float .f64 0] 209)).setCell ⟨W.heap.size,7,none⟩ (.float .f64 v7)=W.alloc (.cells #[.float .f64 v0,.float .f64 v1,.float .f64 v2,.float .f64 v3,.float .f64 v4,.float .f64 v5,.float .f64 v6,.float .f64 v7] 209):=by
   rw [World.setCell_alloc_at _ _ _ _ _ rfl]
   rfl
  rw [run_store _ _ _ _ _ rfl,f]; simp only [z]
  rw [<- e]
  rfl
theorem set8 {w0 w:World} {g:Nat} (h:Below w0.heap.size w0 w) (hg:w0.heap.size<=g) (a b c d e f i j:Value):Below w0.heap.size w0 ((((((((w.setCell ⟨g,0,none⟩ a).setCell ⟨g,1,none⟩ b).setCell ⟨g,2,none⟩ c).setCell ⟨g,3,none⟩ d).setCell ⟨g,4,none⟩ e).setCell ⟨g,5,none⟩ f).setCell ⟨g,6,none⟩ i).setCell ⟨g,7,none⟩ j) :=
 (((((((h.setCell (p:=⟨g,0,none⟩) hg a).setCell (p:=⟨g,1,none⟩) hg b).setCell (p:=⟨g,2,none⟩) hg c).setCell (p:=⟨g,3,none⟩) hg d).setCell (p:=⟨g,4,none⟩) hg e).setCell (p:=⟨g,5,none⟩) hg f).setCell (p:=⟨g,6,none⟩) hg i).setCell (p:=⟨g,7,none⟩) hg j
theorem times_any {a b c d:Nat} (LO HI EL EH:Nat->Nat) (w:World) (H:Hold4 w)
    (S0:Hid (∀ W,Hold4 W->Calls Tryz.prog 188 #[.float .f64 a,.float .f64 c] W fun e w'=>e=.returned (.agg #[.float .f64 (LO 0),.float .f64 (HI 0)])∧Below W.heap.size W w'))
    (S1:Hid (∀ W,Hold4 W->Calls Tryz.prog 188 #[.float .f64 a,.float .f64 d] W fun e w'=>e=.returned (.agg #[.float .f64 (EL 0),.float .f64 (EH 0)])∧Below W.heap.size W w'))
    (S2:Hid (∀ W,Hold4 W->Calls Tryz.prog 188 #[.float .f64 b,.float .f64 c] W fun e w'=>e=.returned (.agg #[.float .f64 (EL 1),.float .f64 (EH 1)])∧Below W.heap.size W w'))
    (S3:Hid (∀ W,Hold4 W->Calls Tryz.prog 188 #[.float .f64 b,.float .f64 d] W fun e w'=>e=.returned (.agg #[.float .f64 (EL 2),.float .f64 (EH 2)])∧Below W.heap.size W w'))
    (J:Hid (∀ k,k<3->∀ W,Calls Tryz.prog 189 #[.agg #[.float .f64 (LO k),.float .f64 (HI k)],.agg #[.float .f64 (EL k),.float .f64 (EH k)]] W fun e w'=>e=.returned (.agg #[.float .f64 (LO (k+1)),.float .f64 (HI (k+1))])∧Below W.heap.size W w')) :
    Calls Tryz.prog 130 #[.agg #[.float .f64 a,.float .f64 b],.agg #[.float .f64 c,.float .f64 d]] w fun e w'=>e=.returned (.agg #[.float .f64 (LO 3),.float .f64 (HI 3)])∧Below w.heap.size w w':=by
  obtain ⟨q0,q1,q2,hs,hb3⟩:=heap3 w (.cells #[.float .f64 a,.float .f64 b] 160) (.cells #[.float .f64 c,.float .f64 d] 160) (.cells #[.float .f64 0,.float .f64 0] 160)
  go_enter Tryz.func130,Tryz.ntmps130
  go_wp2_with fail
  generalize (((w.alloc (.cells #[.float .f64 a,.float .f64 b] 160)).alloc (.cells #[.float .f64 c,.float .f64 d] 160)).alloc (.cells #[.float .f64 0,.float .f64 0] 160))=wx3 at q0 q1 q2 hs hb3 ⊢
  have KK:∀ W,Below wx3.heap.size wx3 W->W.cell? ⟨w.heap.size,0,none⟩=some (.float .f64 a)∧W.cell? ⟨w.heap.size,1,none⟩=some (.float .f64 b)∧W.cell? ⟨w.heap.size+1,0,none⟩=some (.float .f64 c)∧W.cell? ⟨w.heap.size+1,1,none⟩=some (.float .f64 d):=fun W hb=>⟨blkC (blk_up hb q0) 0 rfl,blkC (blk_up hb q0) 1 rfl,blkC (blk_up hb q1) 0 rfl,blkC (blk_up hb q1) 1 rfl⟩
  clear q0 q1 hs
  rename_i Q0 K1 hK1
  have HN:∀ (gE:Nat) (X:World) (t:Array Value),#[t.getD 0 undef,t.getD 1 undef,t.getD 2 undef,t.getD 3 undef,.pointer (some ⟨w.heap.size+1+1,0,none⟩),.pointer (some ⟨gE,0,none⟩),t.getD 6 undef,t.getD 7 undef,t.getD 8 undef,t.getD 9 undef,t.getD 10 undef,t.getD 11 undef,t.getD 12 undef,t.getD 13 undef,t.getD 14 undef,t.getD 15 undef,t.getD 16 undef,t.getD 17 undef,t.getD 18 undef,t.getD 19 undef,t.getD 20 undef,t.getD 21 undef,t.getD 22 undef,t.getD 23 undef,t.getD 24 undef,t.getD 25 undef,t.getD 26 undef,t.getD 27 undef,t.getD 28 undef,t.getD 29 undef,t.getD 30 undef,t.getD 31 undef,t.getD 32 undef,t.getD 33 undef,t.getD 34 undef,t.getD 35 undef,t.getD 36 undef,t.getD 37 undef,t.getD 38 undef,t.getD 39 undef,t.getD 40 undef,t.getD 41 undef,t.getD 42 undef]=t->X.heap[gE]?=some (.cells #[.float .f64 (LO 0),.float .f64 (HI 0),.float .f64 (EL 0),.float .f64 (EH 0),.float .f64 (EL 1),.float .f64 (EH 1),.float .f64 (EL 2),.float .f64 (EH 2)] 209 (0,0))->Below wx3.heap.size wx3 X->wx3.heap.size<=gE->Exit.then K1 Q0 Exit.normal { tmps:=t,defers:=[] } X:=by
    intro gE X t ht n_k hX hgE
    obtain ⟨u,hu⟩:∃ u:Nat->Value,t=#[u 0,u 1,u 2,u 3,.pointer (some ⟨w.heap.size+1+1,0,none⟩),.pointer (some ⟨gE,0,none⟩),u 6,u 7,u 8,u 9,u 10,u 11,u 12,u 13,u 14,u 15,u 16,u 17,u 18,u 19,u 20,u 21,u 22,u 23,u 24,u 25,u 26,u 27,u 28,u 29,u 30,u 31,u 32,u 33,u 34,u 35,u 36,u 37,u 38,u 39,u 40,u 41,u 42]:=⟨fun k=>t.getD k undef,ht.symm⟩
    clear ht
    subst hu
    clear S0 S1 S2 S3 KK
    have hst:∀ (p:Addr) (x:Nat) (m:Mode) (w:World),(store p (.float .f64 x) m).run Tryz.prog w=stored Tryz.prog w p (.float .f64 x) m:=fun p x m w=>run_store _ w p _ m rfl
    have hgl:=(Array.getElem?_eq_some_iff.1 n_k).1
    have c0:=blkC n_k 0 rfl
    have c1:=blkC n_k 1 rfl
    have hA:=heap_a1 X (.cells #[.float .f64 (LO 0),.float .f64 (HI 0)] 160)
    have hE:=heap_past (.cells #[.float .f64 (LO 0),.float .f64 (HI 0)] 160) n_k
    have hB:=al1 hX (.cells #[.float .f64 (LO 0),.float .f64 (HI 0)] 160)
    have hXz:=hX.size
    go_wp2_with fail
    generalize X.alloc (.cells #[.float .f64 (LO 0),.float .f64 (HI 0)] 160)=x5 at hA hE hB ⊢
    clear c0 c1 n_k
    go_loopw [34] (fun iv wr=>∃ k:Nat,k<=3∧iv=.int .i64 k∧Hid (wr.heap[X.heap.size]?=some (.cells #[.float .f64 (LO k),.float .f64 (HI k)] 160 (0,0)))∧Hid (wr.heap[gE]?=some (.cells #[.float .f64 (LO 0),.float .f64 (HI 0),.float .f64 (EL 0),.float .f64 (EH 0),.float .f64 (EL 1),.float .f64 (EH 1),.float .f64 (EL 2),.float .f64 (EH 2)] 209 (0,0)))∧Hid (Below wx3.heap.size wx3 wr)) (fun iv _=>3-(intOf iv).toNat)
    case atStart=>exact ⟨0,by omega,rfl,hA,hE,hB⟩
    case round=>
      obtain ⟨k,hk,rfl,HA,HE,HB⟩:=hrel
      clear hA hE hB
      by_cases hlt:k<3
      · have CJ:Hid _:=J.out k hlt
        have h3:k=0∨k=1∨k=2:=by omega
        rcases h3 with rfl | rfl | rfl
        · have e2:=blkC HE.out 2 rfl
          have e3:=blkC HE.out 3 rfl
          have P0:=heap_a1 wr (.cells #[.float .f64 (EL 0),.float .f64 (EH 0)] 160)
          have A1:=heap_past (.cells #[.float .f64 (EL 0),.float .f64 (EH 0)] 160) HA.out
          have E1:=heap_past (.cells #[.float .f64 (EL 0),.float .f64 (EH 0)] 160) HE.out
          have B1:=al1 HB.out (.cells #[.float .f64 (EL 0),.float .f64 (EH 0)] 160)
          have p0:=blkC P0 0 rfl
          have p1:=blkC P0 1 rfl
          have a0:=blkC A1 0 rfl
          have a1:=blkC A1 1 rfl
          go_wp2_with fail
          refine (CJ.out _).mono ?_
          rintro _ w7 ⟨rfl,hb7⟩
          have A7:=blk_up hb7 A1
          have E7:=blk_up hb7 E1
          have B7:=bel_trans B1 hb7
          have A8:=q_heap_set A7 0 (.float .f64 (LO 1))
          have A9:=q_heap_set A8 1 (.float .f64 (HI 1))
          have f0:=blkC A7 0 rfl
          have z0:=blkF A7 0
          have f1:=blkC A8 1 rfl
          have z1:=blkF A8 1
          have s0:(store ⟨X.heap.size,0,none⟩ (.float .f64 (LO 1))).run Tryz.prog w7=.ok () (w7.setCell ⟨X.heap.size,0,none⟩ (.float .f64 (LO 1))):=by rw [run_store _ _ _ _ _ rfl,f0]; simp only [z0]; rfl
          have s1:(store ⟨X.heap.size,1,none⟩ (.float .f64 (HI 1))).run Tryz.prog (w7.setCell ⟨X.heap.size,0,none⟩ (.float .f64 (LO 1)))=.ok () ((w7.setCell ⟨X.heap.size,0,none⟩ (.float .f64 (LO 1))).setCell ⟨X.heap.size,1,none⟩ (.float .f64 (HI 1))):=by rw [run_store _ _ _ _ _ rfl,f1]; simp only [z1]; rfl
          have HA9:=hideIt A9
          have HE9:Hid (((w7.setCell ⟨X.heap.size,0,none⟩ (.float .f64 (LO 1))).setCell ⟨X.heap.size,1,none⟩ (.float .f64 (HI 1))).heap[gE]?=some (.cells #[.float .f64 (LO 0),.float .f64 (HI 0),.float .f64 (EL 0),.float .f64 (EH 0),.float .f64 (EL 1),.float .f64 (EH 1),.float .f64 (EL 2),.float .f64 (EH 2)] 209 (0,0))):=by
            show _=_
            rw [heap_setCell_other _ ⟨X.heap.size,_,none⟩ gE _ (by show gE≠X.heap.size; omega),heap_setCell_other _ ⟨X.heap.size,_,none⟩ gE _ (by show gE≠X.heap.size; omega)]
            exact E7
          have HB9:=hideIt ((B7.setCell (p:=⟨X.heap.size,0,none⟩) hXz (.float .f64 (LO 1))).setCell (p:=⟨X.heap.size,1,none⟩) hXz (.float .f64 (HI 1)))
          clear A7 A8 A9 E7 B7 A1 E1 B1 P0
          go_wp2
          go_roundw
          case rel=>exact ⟨1,by omega,by go_num,HA9.out,HE9.out,HB9.out⟩
          case measure=>simp [intOf]
        · have e2:=blkC HE.out 4 rfl
          have e3:=blkC HE.out 5 rfl
          have P0:=heap_a1 wr (.cells #[.float .f64 (EL 1),.float .f64 (EH 1)] 160)
          have A1:=heap_past (.cells #[.float .f64 (EL 1),.float .f64 (EH 1)] 160) HA.out
          have E1:=heap_past (.cells #[.float .f64 (EL 1),.float .f64 (EH 1)] 160) HE.out
          have B1:=al1 HB.out (.cells #[.float .f64 (EL 1),.float .f64 (EH 1)] 160)
          have p0:=blkC P0 0 rfl
          have p1:=blkC P0 1 rfl
          have a0:=blkC A1 0 rfl
          have a1:=blkC A1 1 rfl
          go_wp2_with fail
          refine (CJ.out _).mono ?_
          rintro _ w7 ⟨rfl,hb7⟩
          have A7:=blk_up hb7 A1
          have E7:=blk_up hb7 E1
          have B7:=bel_trans B1 hb7
          have A8:=q_heap_set A7 0 (.float .f64 (LO 2))
          have A9:=q_heap_set A8 1 (.float .f64 (HI 2))
          have f0:=blkC A7 0 rfl
          have z0:=blkF A7 0
          have f1:=blkC A8 1 rfl
          have z1:=blkF A8 1
          have s0:(store ⟨X.heap.size,0,none⟩ (.float .f64 (LO 2))).run Tryz.prog w7=.ok () (w7.setCell ⟨X.heap.size,0,none⟩ (.float .f64 (LO 2))):=by rw [run_store _ _ _ _ _ rfl,f0]; simp only [z0]; rfl
          have s1:(store ⟨X.heap.size,1,none⟩ (.float .f64 (HI 2))).run Tryz.prog (w7.setCell ⟨X.heap.size,0,none⟩ (.float .f64 (LO 2)))=.ok () ((w7.setCell ⟨X.heap.size,0,none⟩ (.float .f64 (LO 2))).setCell ⟨X.heap.size,1,none⟩ (.float .f64 (HI 2))):=by rw [run_store _ _ _ _ _ rfl,f1]; simp only [z1]; rfl
          have HA9:=hideIt A9
          have HE9:Hid (((w7.setCell ⟨X.heap.size,0,none⟩ (.float .f64 (LO 2))).setCell ⟨X.heap.size,1,none⟩ (.float .f64 (HI 2))).heap[gE]?=some (.cells #[.float .f64 (LO 0),.float .f64 (HI 0),.float .f64 (EL 0),.float .f64 (EH 0),.float .f64 (EL 1),.float .f64 (EH 1),.float .f64 (EL 2),.float .f64 (EH 2)] 209 (0,0))):=by
            show _=_
            rw [heap_setCell_other _ ⟨X.heap.size,_,none⟩ gE _ (by show gE≠X.heap.size; omega),heap_setCell_other _ ⟨X.heap.size,_,none⟩ gE _ (by show gE≠X.heap.size; omega)]
            exact E7
          have HB9:=hideIt ((B7.setCell (p:=⟨X.heap.size,0,none⟩) hXz (.float .f64 (LO 2))).setCell (p:=⟨X.heap.size,1,none⟩) hXz (.float .f64 (HI 2)))
          clear A7 A8 A9 E7 B7 A1 E1 B1 P0
          go_wp2
          go_roundw
          case rel=>exact ⟨2,by omega,by go_num,HA9.out,HE9.out,HB9.out⟩
          case measure=>simp [intOf]
        · have e2:=blkC HE.out 6 rfl
          have e3:=blkC HE.out 7 rfl
          have P0:=heap_a1 wr (.cells #[.float .f64 (EL 2),.float .f64 (EH 2)] 160)
          have A1:=heap_past (.cells #[.float .f64 (EL 2),.float .f64 (EH 2)] 160) HA.out
          have E1:=heap_past (.cells #[.float .f64 (EL 2),.float .f64 (EH 2)] 160) HE.out
          have B1:=al1 HB.out (.cells #[.float .f64 (EL 2),.float .f64 (EH 2)] 160)
          have p0:=blkC P0 0 rfl
          have p1:=blkC P0 1 rfl
          have a0:=blkC A1 0 rfl
          have a1:=blkC A1 1 rfl
          go_wp2_with fail
          refine (CJ.out _).mono ?_
          rintro _ w7 ⟨rfl,hb7⟩
          have A7:=blk_up hb7 A1
          have E7:=blk_up hb7 E1
          have B7:=bel_trans B1 hb7
          have A8:=q_heap_set A7 0 (.float .f64 (LO 3))
          have A9:=q_heap_set A8 1 (.float .f64 (HI 3))
          have f0:=blkC A7 0 rfl
          have z0:=blkF A7 0
          have f1:=blkC A8 1 rfl
          have z1:=blkF A8 1
          have s0:(store ⟨X.heap.size,0,none⟩ (.float .f64 (LO 3))).run Tryz.prog w7=.ok () (w7.setCell ⟨X.heap.size,0,none⟩ (.float .f64 (LO 3))):=by rw [run_store _ _ _ _ _ rfl,f0]; simp only [z0]; rfl
          have s1:(store ⟨X.heap.size,1,none⟩ (.float .f64 (HI 3))).run Tryz.prog (w7.setCell ⟨X.heap.size,0,none⟩ (.float .f64 (LO 3)))=.ok () ((w7.setCell ⟨X.heap.size,0,none⟩ (.float .f64 (LO 3))).setCell ⟨X.heap.size,1,none⟩ (.float .f64 (HI 3))):=by rw [run_store _ _ _ _ _ rfl,f1]; simp only [z1]; rfl
          have HA9:=hideIt A9
          have HE9:Hid (((w7.setCell ⟨X.heap.size,0,none⟩ (.float .f64 (LO 3))).setCell ⟨X.heap.size,1,none⟩ (.float .f64 (HI 3))).heap[gE]?=some (.cells #[.float .f64 (LO 0),.float .f64 (HI 0),.float .f64 (EL 0),.float .f64 (EH 0),.float .f64 (EL 1),.float .f64 (EH 1),.float .f64 (EL 2),.float .f64 (EH 2)] 209 (0,0))):=by
            show _=_
            rw [heap_setCell_other _ ⟨X.heap.size,_,none⟩ gE _ (by show gE≠X.heap.size; omega),heap_setCell_other _ ⟨X.heap.size,_,none⟩ gE _ (by show gE≠X.heap.size; omega)]
            exact E7
          have HB9:=hideIt ((B7.setCell (p:=⟨X.heap.size,0,none⟩) hXz (.float .f64 (LO 3))).setCell (p:=⟨X.heap.size,1,none⟩) hXz (.float .f64 (HI 3)))
          clear A7 A8 A9 E7 B7 A1 E1 B1 P0
          go_wp2
          go_roundw
          case rel=>exact ⟨3,by omega,by go_num,HA9.out,HE9.out,HB9.out⟩
          case measure=>simp [intOf]
      · obtain rfl:k=3:=by omega
        have a0:=blkC HA.out 0 rfl
        have a1:=blkC HA.out 1 rfl
        have r_k:=blk_up HB.out q2
        have d3:=q_heap_set r_k 0 (.float .f64 (LO 3))
        have d4:=q_heap_set d3 1 (.float .f64 (HI 3))
        have f0:=blkC r_k 0 rfl
        have z0:=blkF r_k 0
        have f1:=blkC d3 1 rfl
        have z1:=blkF d3 1
        have e0:=blkC d4 0 rfl
        have e1:=blkC d4 1 rfl
        have s0:(store ⟨w.heap.size+1+1,0,none⟩ (.float .f64 (LO 3))).run Tryz.prog wr=.ok () (wr.setCell ⟨w.heap.size+1+1,0,none⟩ (.float .f64 (LO 3))):=by rw [run_store _ _ _ _ _ rfl,f0]; simp only [z0]; rfl
        have s1:(store ⟨w.heap.size+1+1,1,none⟩ (.float .f64 (HI 3))).run Tryz.prog (wr.setCell ⟨w.heap.size+1+1,0,none⟩ (.float .f64 (LO 3)))=.ok () ((wr.setCell ⟨w.heap.size+1+1,0,none⟩ (.float .f64 (LO 3))).setCell ⟨w.heap.size+1+1,1,none⟩ (.float .f64 (HI 3))):=by rw [run_store _ _ _ _ _ rfl,f1]; simp only [z1]; rfl
        have hbe:=((bel_trans hb3 HB.out).setCell (p:=⟨w.heap.size+1+1,0,none⟩) (show w.heap.size<=w.heap.size+1+1 by omega) (.float .f64 (LO 3))).setCell (p:=⟨w.heap.size+1+1,1,none⟩) (show w.heap.size<=w.heap.size+1+1 by omega) (.float .f64 (HI 3))
        clear d3 d4 r_k
        go_wp2
        refine bodyPost_ret (v:=.agg #[.float .f64 (LO 3),.float .f64 (HI 3)]) (by simp [results,Tryz.results130,go_sem,e0,e1]) rfl ⟨rfl,hbe⟩
  have hxr:=bel_refl wx3
  have hx0:=(bel_refl wx3).drew
  go_region_held3 (fun W=>W.cell? ⟨w.heap.size,0,none⟩=some (.float .f64 a)∧W.cell? ⟨w.heap.size,1,none⟩=some (.float .f64 b)∧W.cell? ⟨w.heap.size+1,0,none⟩=some (.float .f64 c)∧W.cell? ⟨w.heap.size+1,1,none⟩=some (.float .f64 d))
    (first | with_reducible assumption | with_reducible exact KK _ (hx0) | with_reducible exact KK _ ((al1 hxr _).drew) | with_reducible exact KK _ (al1 hx0 _) | with_reducible exact KK _ (hw1) | with_reducible exact KK _ (al1 hw1 _) | with_reducible exact KK _ (hw2) | with_reducible exact KK _ (al1 hw2 _) | with_reducible exact KK _ (hw3) | with_reducible exact KK _ (al1 hw3 _) | with_reducible exact KK _ (hw4) | with_reducible exact KK _ (al1 hw4 _) | with_reducible exact KK _ (set8 (g:=y3.heap.size) hw4 (hw3.size) _ _ _ _ _ _ _ _) | with_reducible exact KK _ (set8 (g:=y2.heap.size) hw4 (hw2.size) _ _ _ _ _ _ _ _) | with_reducible exact KK _ (set8 (g:=y1.heap.size) hw4 (hw1.size) _ _ _ _ _ _ _ _) | with_reducible exact KK _ (set8 (g:=wx3.heap.size) hw4 (Nat.le_refl _) _ _ _ _ _ _ _ _) | fail)
    (first
      | (go_at_call 188; have _t:=T3; refine (S3.out _ (H.keeps (bel_trans hb3 (by first | with_reducible exact hw3 | with_reducible exact al1 hw3 _)))).mono ?_; rintro _ y4 ⟨rfl,hc4⟩; have hw4:Below wx3.heap.size wx3 y4:=bel_trans (by first | with_reducible exact hw3 | with_reducible exact al1 hw3 _) hc4; have T4:True:=trivial; first | (have hg:Below (y3.alloc (.cells #[.float .f64 0,.float .f64 0,.float .f64 0,.float .f64 0,.float .f64 0,.float .f64 0,.float .f64 0,.float .f64 0] 209)).heap.size (y3.alloc (.cells #[.float .f64 0,.float .f64 0,.float .f64 0,.float .f64 0,.float .f64 0,.float .f64 0,.float .f64 0,.float .f64 0] 209)) y4:=(by with_reducible exact hc4); have qz:y4.heap[y3.heap.size]?=some (.cells #[.float .f64 0,.float .f64 0,.float .f64 0,.float .f64 0,.float .f64 0,.float .f64 0,.float .f64 0,.float .f64 0] 209 (0,0)):=blk_up hg (show (y3.alloc (.cells #[.float .f64 0,.float .f64 0,.float .f64 0,.float .f64 0,.float .f64 0,.float .f64 0,.float .f64 0,.float .f64 0] 209)).heap[y3.heap.size]?=_ from heap_a1 y3 (.cells #[.float .f64 0,.float .f64 0,.float .f64 0,.float .f64 0,.float .f64 0,.float .f64 0,.float .f64 0,.float .f64 0] 209)); obtain ⟨s_0,s_1,s_2,s_3,s_4,s_5,s_6,s_7,qf⟩:=st8 (qz) (LO 0) (HI 0) (EL 0) (EH 0) (EL 1) (EH 1) (EL 2) (EH 2)) | (have hg:Below (y2.alloc (.cells #[.float .f64 0,.float .f64 0,.float .f64 0,.float .f64 0,.float .f64 0,.float .f64 0,.float .f64 0,.float .f64 0] 209)).heap.size (y2.alloc (.cells #[.float .f64 0,.float .f64 0,.float .f64 0,.float .f64 0,.float .f64 0,.float .f64 0,.float .f64 0,.float .f64 0] 209)) y3:=(by with_reducible exact hc3); have qz:y4.heap[y2.heap.size]?=some (.cells #[.float .f64 0,.float .f64 0,.float .f64 0,.float .f64 0,.float .f64 0,.float .f64 0,.float .f64 0,.float .f64 0] 209 (0,0)):=blk_up hc4 (blk_up hg (show (y2.alloc (.cells #[.float .f64 0,.float .f64 0,.float .f64 0,.float .f64 0,.float .f64 0,.float .f64 0,.float .f64 0,.float .f64 0] 209)).heap[y2.heap.size]?=_ from heap_a1 y2 (.cells #[.float .f64 0,.float .f64 0,.float .f64 0,.float .f64 0,.float .f64 0,.float .f64 0,.float .f64 0,.float .f64 0] 209))); obtain ⟨s_0,s_1,s_2,s_3,s_4,s_5,s_6,s_7,qf⟩:=st8 (qz) (LO 0) (HI 0) (EL 0) (EH 0) (EL 1) (EH 1) (EL 2) (EH 2)) | (have hg:Below (y1.alloc (.cells #[.float .f64 0,.float .f64 0,.float .f64 0,.float .f64 0,.float .f64 0,.float .f64 0,.float .f64 0,.float .f64 0] 209)).heap.size (y1.alloc (.cells #[.float .f64 0,.float .f64 0,.float .f64 0,.float .f64 0,.float .f64 0,.float .f64 0,.float .f64 0,.float .f64 0] 209)) y2:=(by with_reducible exact hc2); have qz:y4.heap[y1.heap.size]?=some (.cells #[.float .f64 0,.float .f64 0,.float .f64 0,.float .f64 0,.float .f64 0,.float .f64 0,.float .f64 0,.float .f64 0] 209 (0,0)):=blk_up hc4 (blk_up hc3 (blk_up hg (show (y1.alloc (.cells #[.float .f64 0,.float .f64 0,.float .f64 0,.float .f64 0,.float .f64 0,.float .f64 0,.float .f64 0,.float .f64 0] 209)).heap[y1.heap.size]?=_ from heap_a1 y1 (.cells #[.float .f64 0,.float .f64 0,.float .f64 0,.float .f64 0,.float .f64 0,.float .f64 0,.float .f64 0,.float .f64 0] 209)))); obtain ⟨s_0,s_1,s_2,s_3,s_4,s_5,s_6,s_7,qf⟩:=st8 (qz) (LO 0) (HI 0) (EL 0) (EH 0) (EL 1) (EH 1) (EL 2) (EH 2)) | (have hg:Below (wx3.alloc (.cells #[.float .f64 0,.float .f64 0,.float .f64 0,.float .f64 0,.float .f64 0,.float .f64 0,.float .f64 0,.float .f64 0] 209)).drew.heap.size (wx3.alloc (.cells #[.float .f64 0,.float .f64 0,.float .f64 0,.float .f64 0,.float .f64 0,.float .f64 0,.float .f64 0,.float .f64 0] 209)).drew y1:=(by with_reducible exact hc1); have qz:y4.heap[wx3.heap.size]?=some (.cells #[.float .f64 0,.float .f64 0,.float .f64 0,.float .f64 0,.float .f64 0,.float .f64 0,.float .f64 0,.float .f64 0] 209 (0,0)):=blk_up hc4 (blk_up hc3 (blk_up hc2 (blk_up hg (show (wx3.alloc (.cells #[.float .f64 0,.float .f64 0,.float .f64 0,.float .f64 0,.float .f64 0,.float .f64 0,.float .f64 0,.float .f64 0] 209)).drew.heap[wx3.heap.size]?=_ from heap_a1 wx3 (.cells #[.float .f64 0,.float .f64 0,.float .f64 0,.float .f64 0,.float .f64 0,.float .f64 0,.float .f64 0,.float .f64 0] 209))))); obtain ⟨s_0,s_1,s_2,s_3,s_4,s_5,s_6,s_7,qf⟩:=st8 (qz) (LO 0) (HI 0) (EL 0) (EH 0) (EL 1) (EH 1) (EL 2) (EH 2)) | (obtain ⟨s_0,s_1,s_2,s_3,s_4,s_5,s_6,s_7⟩:=sa8 y4 (LO 0) (HI 0) (EL 0) (EH 0) (EL 1) (EH 1) (EL 2) (EH 2)))
      | (go_at_call 188; have _t:=T2; refine (S2.out _ (H.keeps (bel_trans hb3 (by first | with_reducible exact hw2 | with_reducible exact al1 hw2 _)))).mono ?_; rintro _ y3 ⟨rfl,hc3⟩; have hw3:Below wx3.heap.size wx3 y3:=bel_trans (by first | with_reducible exact hw2 | with_reducible exact al1 hw2 _) hc3; have T3:True:=trivial)
      | (go_at_call 188; have _t:=T1; refine (S1.out _ (H.keeps (bel_trans hb3 (by first | with_reducible exact hw1 | with_reducible exact al1 hw1 _)))).mono ?_; rintro _ y2 ⟨rfl,hc2⟩; have hw2:Below wx3.heap.size wx3 y2:=bel_trans (by first | with_reducible exact hw1 | with_reducible exact al1 hw1 _) hc2; have T2:True:=trivial)
      | (go_at_call 188; refine (S0.out _ (H.keeps (bel_trans hb3 (by first | with_reducible exact hx0 | with_reducible exact (al1 hxr _).drew | with_reducible exact al1 hx0 _)))).mono ?_; rintro _ y1 ⟨rfl,hc1⟩; have hw1:Below wx3.heap.size wx3 y1:=bel_trans (by first | with_reducible exact hx0 | with_reducible exact (al1 hxr _).drew | with_reducible exact al1 hx0 _) hc1; have T1:True:=trivial))
  · exact HN y4.heap.size _ _ (by kernel_rfl) (heap_a1 _ _) (al1 hw4 _) hw4.size
  · exact HN (y3.heap.size) _ _ (by kernel_rfl) qf (set8 hw4 (hw3.size) _ _ _ _ _ _ _ _) (hw3.size)
  · exact HN (y2.heap.size) _ _ (by kernel_rfl) qf (set8 hw4 (hw2.size) _ _ _ _ _ _ _ _) (hw2.size)
  · exact HN (y1.heap.size) _ _ (by kernel_rfl) qf (set8 hw4 (hw1.size) _ _ _ _ _ _ _ _) (hw1.size)
  · exact HN (wx3.heap.size) _ _ (by kernel_rfl) qf (set8 hw4 (Nat.le_refl _) _ _ _ _ _ _ _ _) (Nat.le_refl _)
theorem ofTwo_H (F:Nat) {a b c d x y:Int} (ha:rng a) (hb:rng b) (hc:rng c) (hd:rng d) (w:World) (HH:Hold4 w)
    (hE:∀ (cap:Array Value) (w:World),(callFunc F cap).run Tryz.prog w=.ok (.enter F cap) w)
    (CF:Hid (vld a b=true->vld c d=true->nn x∧nn y∧∀ W,Hold4 W->Calls Tryz.prog F #[ivl a b,ivl c d] W fun e w'=>e=.returned (ivl x y)∧Below W.heap.size W w')) :
    Calls Tryz.prog 129 #[spn a b,spn c d,.func (.func F) #[] #[]] w fun e w'=>e=.returned (.tuple #[twoV (vld a b && vld c d) (spn (canon x) (canon y)),.int .i64 (errA (vld a b && vld c d))])∧Below w.heap.size w w':=by
  have R1:=fun W=>spanReadX a b W
  have R2:=fun W=>spanReadX c d W
  have V1:Hid (∀ W,Calls Tryz.prog 134 #[ivl a b] W fun e w'=>e=.returned (.bool (vld a b))∧Below W.heap.size W w'):=fun W=>ivlValid ha hb W
  have V2:Hid (∀ W,Calls Tryz.prog 134 #[ivl c d] W fun e w'=>e=.returned (.bool (vld c d))∧Below W.heap.size W w'):=fun W=>ivlValid hc hd W
  unfold spn ivl at *
  obtain ⟨q0,q1,q2,hs,hb3⟩:=heap3 w (.cells #[.int .i64 a,.int .i64 b] 72) (.cells #[.int .i64 c,.int .i64 d] 72) (.cells #[.int .i64 0,.int .i64 0] 72)
  go_enter Tryz.func129,Tryz.ntmps129
  go_wp2_with fail
  have k0:=blkC q0 0 rfl
  have k1:=blkC q0 1 rfl
  have k2:=blkC q1 0 rfl
  have k3:=blkC q1 1 rfl
  generalize ((w.alloc (.cells #[.int .i64 a,.int .i64 b] 72)).alloc (.cells #[.int .i64 c,.int .i64 d] 72)).alloc (.cells #[.int .i64 0,.int .i64 0] 72)=wx at *
  have hst:∀ (p:Addr) (n:Nat) (m:Mode) (w:World),(store p (.float .f64 n) m).run Tryz.prog w=stored Tryz.prog w p (.float .f64 n) m:=fun p n m w=>run_store _ w p _ m rfl
  have hc:(w.heap.size<w.heap.size+3∧w.heap.size+1<w.heap.size+3∧w.heap.size+3<=wx.drew.heap.size)∧wx.drew.cell? ⟨w.heap.size,0,none⟩=some (.int .i64 a)∧wx.drew.cell? ⟨w.heap.size,1,none⟩=some (.int .i64 b)∧wx.drew.cell? ⟨w.heap.size+1,0,none⟩=some (.int .i64 c)∧wx.drew.cell? ⟨w.heap.size+1,1,none⟩=some (.int .i64 d):=⟨⟨by omega,by omega,by show _<=wx.heap.size; omega⟩,k0,k1,k2,k3⟩
  rename_i Q' K haK
  have H:∀ (gi gj:Nat) (W:World),W.heap[gi]?=some (.cells #[.float .f64 (wd a),.float .f64 (wd b)] 160 (0,0))->W.heap[gj]?=some (.cells #[.float .f64 (wd c),.float .f64 (wd d)] 160 (0,0))->Below wx.heap.size wx W ->
      Exit.then K Q' Exit.normal { tmps:=#[.agg #[.int .i64 a,.int .i64 b],.agg #[.int .i64 c,.int .i64 d],.func (.func F) #[] #[],.pointer (some ⟨w.heap.size,0,none⟩),.pointer (some ⟨w.heap.size+1,0,none⟩),undef,.pointer (some ⟨w.heap.size+1+1,0,none⟩),.int .i64 0,.pointer (some ⟨gi,0,none⟩),.pointer (some ⟨gj,0,none⟩),.agg #[.int .i64 a,.int .i64 b],.agg #[.float .f64 (wd a),.float .f64 (wd b)],.agg #[.int .i64 c,.int .i64 d],.agg #[.float .f64 (wd c),.float .f64 (wd d)],undef,undef,undef,undef,undef,undef,undef,undef,undef,undef,undef,undef,undef,undef],defers:=[] } W:=by
    intro gi gj W hgi hgj hbW
    clear hc k0 k1 k2 k3 q0 q1 R1 R2 hst
    have i0:=blkC hgi 0 rfl
    have i1:=blkC hgi 1 rfl
    have j0:=blkC hgj 0 rfl
    have j1:=blkC hgj 1 rfl
    go_wp2_with fail
    refine (V1.out _).mono ?_
    rintro _ w1 ⟨rfl,hb4⟩
    have hgi1:=(hb4.block _ (Array.getElem?_eq_some_iff.1 hgi).1).trans hgi
    have hgj1:=(hb4.block _ (Array.getElem?_eq_some_iff.1 hgj).1).trans hgj
    clear i0 i1 j0 j1
    have j0:=blkC hgj1 0 rfl
    have j1:=blkC hgj1 1 rfl
    by_cases h1:vld a b=false
    · rw [h1]
      have hbR:=bel_trans hbW hb4
      have d2:=(hbR.block _ (Array.getElem?_eq_some_iff.1 q2).1).trans q2
      have d3:=q_heap_set d2 0 (.int .i64 0)
      have d4:=q_heap_set d3 1 (.int .i64 0)
      have f0:=blkC d2 0 rfl
      have z0:=blkF d2 0
      have f1:=blkC d3 1 rfl
      have z1:=blkF d3 1
      have e0:=blkC d4 0 rfl
      have e1:=blkC d4 1 rfl
      have hbe:=((bel_trans hb3 hbR).setCell (p:=⟨w.heap.size+1+1,0,none⟩) (show w.heap.size<=w.heap.size+1+1 by omega) (.int .i64 0)).setCell (p:=⟨w.heap.size+1+1,1,none⟩) (show w.heap.size<=w.heap.size+1+1 by omega) (.int .i64 0)
      clear d2 d3 d4
      go_wp2
      refine bodyPost_ret (v:=.tuple #[.agg #[.int .i64 0,.int .i64 0],.int .i64 1]) (by simp [results,Tryz.results129,go_sem,e0,e1]) rfl ⟨by rw [h1]; rfl,hbe⟩
    replace h1:vld a b=true:=by simpa using h1
    rw [h1]
    go_wp2_with fail
    refine (V2.out _).mono ?_
    rintro _ w2 ⟨rfl,hb5⟩
    have hgi2:=(hb5.block _ (Array.getElem?_eq_some_iff.1 hgi1).1).trans hgi1
    have hgj2:=(hb5.block _ (Array.getElem?_eq_some_iff.1 hgj1).1).trans hgj1
    clear j0 j1
    have i0:=blkC hgi2 0 rfl
    have i1:=blkC hgi2 1 rfl
    have j0:=blkC hgj2 0 rfl
    have j1:=blkC hgj2 1 rfl
    have hbR:=bel_trans hbW (bel_trans hb4 hb5)
    by_cases h2:vld c d=false
    · rw [h2]
      have d2:=(hbR.block _ (Array.getElem?_eq_some_iff.1 q2).1).trans q2
      have d3:=q_heap_set d2 0 (.int .i64 0)
      have d4:=q_heap_set d3 1 (.int .i64 0)
      have f0:=blkC d2 0 rfl
      have z0:=blkF d2 0
      have f1:=blkC d3 1 rfl
      have z1:=blkF d3 1
      have e0:=blkC d4 0 rfl
      have e1:=blkC d4 1 rfl
      have hbe:=((bel_trans hb3 hbR).setCell (p:=⟨w.heap.size+1+1,0,none⟩) (show w.heap.size<=w.heap.size+1+1 by omega) (.int .i64 0)).setCell (p:=⟨w.heap.size+1+1,1,none⟩) (show w.heap.size<=w.heap.size+1+1 by omega) (.int .i64 0)
      clear d2 d3 d4
      go_wp2
      refine bodyPost_ret (v:=.tuple #[.agg #[.int .i64 0,.int .i64 0],.int .i64 1]) (by simp [results,Tryz.results129,go_sem,e0,e1]) rfl ⟨by rw [h2,Bool.and_false]; rfl,hbe⟩
    replace h2:vld c d=true:=by simpa using h2
    rw [h2]
    obtain ⟨nx,ny,CF'⟩:=CF.out h1 h2
    have L2:=HH.keeps (bel_trans hb3 hbR)
    have CT:=fun W LW=>spanTold nx ny W LW
    unfold ivl spn at CT
    go_wp2_with fail
    refine (CF' _ L2).mono ?_
    rintro _ w3 ⟨rfl,hb6⟩
    have L3:=L2.keeps hb6
    go_wp2_with fail
    refine (CT _ L3.env.lays).mono ?_
    rintro _ w4 ⟨rfl,hb7⟩
    replace hbR:=bel_trans hbR (bel_trans hb6 hb7)
    have d2:=(hbR.block _ (Array.getElem?_eq_some_iff.1 q2).1).trans q2
    generalize hX:canon x=X at *
    generalize hY:canon y=Y at *
    have d3:=q_heap_set d2 0 (.int .i64 X)
    have d4:=q_heap_set d3 1 (.int .i64 Y)
    have f0:=blkC d2 0 rfl
    have z0:=blkF d2 0
    have f1:=blkC d3 1 rfl
    have z1:=blkF d3 1
    have e0:=blkC d4 0 rfl
    have e1:=blkC d4 1 rfl
    have hbe:=((bel_trans hb3 hbR).setCell (p:=⟨w.heap.size+1+1,0,none⟩) (show w.heap.size<=w.heap.size+1+1 by omega) (.int .i64 X)).setCell (p:=⟨w.heap.size+1+1,1,none⟩) (show w.heap.size<=w.heap.size+1+1 by omega) (.int .i64 Y)
    clear d2 d3 d4 CT CF CF'
    go_wp2
    refine bodyPost_ret (v:=.tuple #[.agg #[.int .i64 X,.int .i64 Y],.int .i64 0]) (by simp [results,Tryz.results129,go_sem,e0,e1]) rfl ⟨by rw [h1,h2,hX,hY]; rfl,hbe⟩
  go_region_held3 (fun W=>(w.heap.size<w.heap.size+3∧w.heap.size+1<w.heap.size+3∧w.heap.size+3<=W.heap.size)∧W.cell? ⟨w.heap.size,0,none⟩=some (.int .i64 a)∧W.cell? ⟨w.heap.size,1,none⟩=some (.int .i64 b)∧W.cell? ⟨w.heap.size+1,0,none⟩=some (.int .i64 c)∧W.cell? ⟨w.heap.size+1,1,none⟩=some (.int .i64 d))
    (first | assumption | (repeat (first | exact hc | refine s4_drew ?_ | refine s4_alloc _ ?_ | refine s4_set (by first | omega | (simp; omega)) ?_)))
    (first
      | (go_at_call 133; have _t:=T1; refine (R2 _).mono ?_; rintro _ _ ⟨rfl,rfl⟩)
      | (go_at_call 133; refine (R1 _).mono ?_; rintro _ _ ⟨rfl,rfl⟩; have T1:True:=trivial))
  all_goals
    refine H _ _ _ ?_ ?_ hl6_b
    all_goals first
      | exact hl6_0 hs rfl
      | exact hl6_1 hs rfl
      | exact hl6_2 hs rfl
      | exact hl6_3 hs rfl
      | exact hl6_4 hs rfl
      | exact hl6_5 hs rfl
def tmLo (a b c d:Int):Int:=minP (minP (minP (prLo a c) (prLo a d)) (prLo b c)) (prLo b d)
def tmHi (a b c d:Int):Int:=maxP (maxP (maxP (prHi a c) (prHi a d)) (prHi b c)) (prHi b d)
theorem tm_nn {a b c d:Int} (ha:nn a) (hb:nn b) (hc:nn c) (hd:nn d):nn (tmLo a b c d)∧nn (tmHi a b c d) :=
 ⟨(minP_nn (minP_nn (minP_nn (prLo_nn ha hc).1 (prLo_nn ha hd).1).1 (prLo_nn hb hc).1).1 (prLo_nn hb hd).1).1,(maxP_nn (maxP_nn (maxP_nn (prLo_nn ha hc).2 (prLo_nn ha hd).2).1 (prLo_nn hb hc).2).1 (prLo_nn hb hd).2).1⟩
theorem ivlTimes {a b c d:Int} (ha:nn a) (hb:nn b) (hc:nn c) (hd:nn d) (w:World) (H:Hold4 w) :
    Calls Tryz.prog 130 #[ivl a b,ivl c d] w fun e w'=>e=.returned (ivl (tmLo a b c d) (tmHi a b c d))∧Below w.heap.size w w':=by
  obtain ⟨n0,n0'⟩:=prLo_nn ha hc
  obtain ⟨n1,n1'⟩:=prLo_nn ha hd
  obtain ⟨n2,n2'⟩:=prLo_nn hb hc
  obtain ⟨n3,n3'⟩:=prLo_nn hb hd
  have m1:=(minP_nn n0 n1).1
  have m1':=(maxP_nn n0' n1').1
  have m2:=(minP_nn m1 n2).1
  have m2':=(maxP_nn m1' n2').1
  exact times_any (fun k=>match k with | 0=>wd (prLo a c) | 1=>wd (minP (prLo a c) (prLo a d)) | 2=>wd (minP (minP (prLo a c) (prLo a d)) (prLo b c)) | _=>wd (tmLo a b c d))
    (fun k=>match k with | 0=>wd (prHi a c) | 1=>wd (maxP (prHi a c) (prHi a d)) | 2=>wd (maxP (maxP (prHi a c) (prHi a d)) (prHi b c)) | _=>wd (tmHi a b c d))
    (fun k=>match k with | 0=>wd (prLo a d) | 1=>wd (prLo b c) | _=>wd (prLo b d))
    (fun k=>match k with | 0=>wd (prHi a d) | 1=>wd (prHi b c) | _=>wd (prHi b d)) w H
    (fun W hW=>spProduct ha hc W hW) (fun W hW=>spProduct ha hd W hW) (fun W hW=>spProduct hb hc W hW) (fun W hW=>spProduct hb hd W hW)
    (fun k hk W=>by
      match k,hk with
      | 0,_=>exact ivlJoined n0 n0' n1 n1' W
      | 1,_=>exact ivlJoined m1 m1' n2 n2' W
      | 2,_=>exact ivlJoined m2 m2' n3 n3' W)
theorem spanMulH {a b c d:Int} (ha:rng a) (hb:rng b) (hc:rng c) (hd:rng d) (w:World) (H:Hold4 w) :
    Calls Tryz.prog 66 #[spn a b,spn c d] w fun e w'=>e=.returned (.tuple #[twoV (vld a b && vld c d) (spn (canon (tmLo a b c d)) (canon (tmHi a b c d))),.int .i64 (errA (vld a b && vld c d))])∧Below w.heap.size w w':=by
  have hE:∀ (cap:Array Value) (w:World),(callFunc 130 cap).run Tryz.prog w=.ok (.enter 130 cap) w:=by
    intro cap w
    simp [go_sem]
  have CJ:Hid (∀ W,Hold4 W->Calls Tryz.prog 129 #[spn a b,spn c d,.func (.func 130) #[] #[]] W fun e w'=>e=.returned (.tuple #[twoV (vld a b && vld c d) (spn (canon (tmLo a b c d)) (canon (tmHi a b c d))),.int .i64 (errA (vld a b && vld c d))])∧Below W.heap.size W w'):=fun W LW=>
    ofTwo_H _ ha hb hc hd W LW hE (fun h1 h2=>by
      obtain ⟨va,vb,_,_,_⟩:=vld_iff.1 h1
      obtain ⟨vc,vd,_,_,_⟩:=vld_iff.1 h2
      exact ⟨(tm_nn ⟨ha,va⟩ ⟨hb,vb⟩ ⟨hc,vc⟩ ⟨hd,vd⟩).1,(tm_nn ⟨ha,va⟩ ⟨hb,vb⟩ ⟨hc,vc⟩ ⟨hd,vd⟩).2,fun W' hW=>ivlTimes ⟨ha,va⟩ ⟨hb,vb⟩ ⟨hc,vc⟩ ⟨hd,vd⟩ W' hW⟩)
  have hx:∃ X Y,twoV (vld a b && vld c d) (spn (canon (tmLo a b c d)) (canon (tmHi a b c d)))=.agg #[.int .i64 X,.int .i64 Y]:=by
    unfold twoV spn; split
    · exact ⟨_,_,rfl⟩
    · exact ⟨_,_,rfl⟩
  obtain ⟨X,Y,hXY⟩:=hx
  rw [hXY] at CJ ⊢
  clear hXY
  unfold spn at *
  generalize errA (vld a b && vld c d)=E at *
  obtain ⟨q0,q1,q2,hs,hb3⟩:=heap3 w (.cells #[.int .i64 a,.int .i64 b] 72) (.cells #[.int .i64 c,.int .i64 d] 72) (.cells #[.int .i64 0,.int .i64 0] 72)
  have L2:=H.keeps hb3
  go_enter Tryz.func66,Tryz.ntmps66
  go_wp2_with fail
  generalize ((w.alloc (.cells #[.int .i64 a,.int .i64 b] 72)).alloc (.cells #[.int .i64 c,.int .i64 d] 72)).alloc (.cells #[.int .i64 0,.int .i64 0] 72)=wx at *
  refine (CJ.out _ L2).mono ?_
  rintro _ w1 ⟨rfl,hb4⟩
  have d2:=(hb4.block _ (Array.getElem?_eq_some_iff.1 q2).1).trans q2
  have d3:=q_heap_set d2 0 (.int .i64 X)
  have d4:=q_heap_set d3 1 (.int .i64 Y)
  have f0:=blkC d2 0 rfl
  have z0:=blkF d2 0
  have f1:=blkC d3 1 rfl
  have z1:=blkF d3 1
  have e0:=blkC d4 0 rfl
  have e1:=blkC d4 1 rfl
  have hbe:=((bel_trans hb3 hb4).setCell (p:=⟨w.heap.size+1+1,0,none⟩) (show w.heap.size<=w.heap.size+1+1 by omega) (.int .i64 X)).setCell (p:=⟨w.heap.size+1+1,1,none⟩) (show w.heap.size<=w.heap.size+1+1 by omega) (.int .i64 Y)
  clear d2 d3 d4 q0 q1 q2
  go_wp2
  refine bodyPost_ret (v:=.tuple #[.agg #[.int .i64 X,.int .i64 Y],.int .i64 E]) (by simp [results,Tryz.results66,go_sem,e0,e1]) rfl ⟨rfl,hbe⟩
structure En where
 i:Int
 v:Int
def En.le (a b:En):Prop:=a.i<b.i∨(a.i=b.i∧a.v<=b.v)
def En.ok (a:En):Prop:=a.i=0∨((a.i=1∨a.i=-1)∧a.v=0)
def eLo (a:En):Int:=if 0<a.i then 9218868437227405312 else if a.i<0 then -4503599627370496 else cLo a.v
def eHi (a:En):Int:=if 0<a.i then 9218868437227405312 else if a.i<0 then -4503599627370496 else cHi a.v
def eOf (p:Int):En:=if rg p=9218868437227405312 then ⟨if p<0 then -1 else 1,0⟩ else ⟨0,patV p⟩
theorem En.eq {a b:En} (h:a.i=b.i) (k:a.v=b.v):a=b:=by cases a; cases b; cases h; cases k; rfl
theorem En.le_refl (a:En):a.le a:=.inr ⟨rfl,Int.le_refl _⟩
theorem En.le_trans {a b c:En} (h:a.le b) (k:b.le c):a.le c:=by
 unfold En.le at *
 omega
theorem En.le.le_trans {a b c:En} (h:a.le b) (k:b.le c):a.le c:=En.le_trans h k
theorem En.le_total (a b:En):a.le b∨b.le a:=by
 unfold En.le
 omega
theorem rdof_ex (V:Int):∃ (ng:Bool) (f:Int->Int × Bool),RdOf V ng f:=by
 by_cases h0:V=0
 ·subst h0
  exact ⟨false,fun way=>(patS (false && decide (0<rTo way false 0 0)) (rTo way false 0 0),decide ((0:Int)≠0) || decide (9218868437227405312<=((0:Nat):Int))),0,0,0,rfl,(fun h=>by cases h),rung_zero,fun way=>rfl⟩
 ·obtain ⟨g,A,r0,left,e,hA,hR,_,_⟩:=c_rung h0
  exact ⟨g,fun way=>(patS (g && decide (0<rTo way g r0 left)) (rTo way g r0 left),decide (left≠0) || decide (9218868437227405312<=(r0:Int))),A,r0,left,e,fun _=>hA,hR,fun way=>rfl⟩
theorem c_nn (V:Int):nn (cLo V)∧nn (cHi V):=by
 obtain ⟨ng,f,h⟩:=rdof_ex V
 obtain ⟨c1,c2⟩:=around_c h
 obtain ⟨A,r0,left,e,hn,hR,hf⟩:=h
 obtain ⟨_,a2,a3⟩:=RdOf.key (V:=V) (A:=A) (hf 1)
 obtain ⟨_,b2,b3⟩:=RdOf.key (V:=V) (A:=A) (hf 2)
 rw [c1] at a2 a3
 rw [c2] at b2 b3
 exact ⟨⟨a3,a2⟩,⟨b3,b2⟩⟩
theorem not_less {a b:Int} (ha:nn a) (hb:nn b) (h:less a b=false):key b<=key a:=by
 unfold less at h
 simp [ha.2,hb.2] at h
 exact h
theorem c_mono {V U:Int} (h:V<=U):key (cLo V)<=key (cLo U)∧key (cHi V)<=key (cHi U):=by
 obtain ⟨ng,f,k⟩:=rdof_ex V
 obtain ⟨mg,g,l⟩:=rdof_ex U
 obtain ⟨c1,c2⟩:=around_c k
 obtain ⟨d1,d2⟩:=around_c l
 have m1:=rd_mono k l h 1
 have m2:=rd_mono k l h 2
 rw [c1,d1] at m1
 rw [c2,d2] at m2
 exact ⟨not_less (c_nn U).1 (c_nn V).1 m1,not_less (c_nn U).2 (c_nn V).2 m2⟩
theorem nn_inf:nn 9218868437227405312∧nn (-4503599627370496):=⟨⟨by unfold rng; omega,by decide⟩,⟨by unfold rng; omega,by decide⟩⟩
theorem key_bd {p:Int} (h:nn p):-9218868437227405312<=key p∧key p<=9218868437227405312:=by
 have:=nn_rg h
 unfold rg at this
 unfold key
 split at this <;> (split <;> omega)
theorem e_nn (a:En):nn (eLo a)∧nn (eHi a):=by
 unfold eLo eHi
 split
 ·exact ⟨nn_inf.1,nn_inf.1⟩
 ·split
  ·exact ⟨nn_inf.2,nn_inf.2⟩
  ·exact c_nn _
theorem key_infs:key 9218868437227405312=9218868437227405312∧key (-4503599627370496)=-9218868437227405312:=⟨by decide,by decide⟩
theorem e_mono {a b:En} (h:a.le b):key (eLo a)<=key (eLo b)∧key (eHi a)<=key (eHi b):=by
 obtain ⟨k1,k2⟩:=key_infs
 have n1:=key_bd (c_nn a.v).1
 have n2:=key_bd (c_nn a.v).2
 have n3:=key_bd (c_nn b.v).1
 have n4:=key_bd (c_nn b.v).2
 have m:=fun q=>@c_mono a.v b.v q
 unfold eLo eHi
 rcases h with h | ⟨h,h'⟩
 ·by_cases p1:0<a.i
  ·have p2:0<b.i:=by omega
   rw [if_pos p1,if_pos p1,if_pos p2,if_pos p2]
   exact ⟨Int.le_refl _,Int.le_refl _⟩
  ·by_cases p2:0<b.i
   ·rw [if_neg p1,if_neg p1,if_pos p2,if_pos p2]
    split <;> (rw [k1]; first | (rw [k2]; omega) | omega)
   ·have p3:a.i<0:=by omega
    rw [if_neg p1,if_neg p1,if_pos p3,if_pos p3,if_neg p2,if_neg p2]
    split <;> (rw [k2]; first | omega | skip)
 ·rw [h]
  split
  ·exact ⟨Int.le_refl _,Int.le_refl _⟩
  ·split
   ·exact ⟨Int.le_refl _,Int.le_refl _⟩
   ·exact m h'
theorem canon_canon (p:Int):canon (canon p)=canon p:=by
 have c1:canon 9221120237041090561=9221120237041090561:=by decide
 have c2:canon 0=0:=by decide
 by_cases h4:cls p=4
 ·have:canon p=9221120237041090561:=by unfold canon; rw [if_pos h4]
  rw [this,c1]
 ·by_cases h0:cls p=0
  ·have:canon p=0:=by unfold canon; rw [if_neg h4,if_pos h0]
   rw [this,c2]
  ·have:canon p=p:=by unfold canon; rw [if_neg h4,if_neg h0]
   rw [this,this]
theorem e_canon (a:En):canon (eLo a)=eLo a∧canon (eHi a)=eHi a:=by
 unfold eLo eHi
 split
 ·exact ⟨by decide,by decide⟩
 ·split
  ·exact ⟨by decide,by decide⟩
  ·unfold cLo cHi
   split
   ·exact ⟨by decide,by decide⟩
   ·exact ⟨canon_canon _,canon_canon _⟩
theorem canon_key {p q:Int} (hp:nn p) (hq:nn q) (h:key p=key q):canon p=canon q:=by
 by_cases e:p=q
 ·rw [e]
 ·rcases key_zeros hp.1 hq.1 h e with ⟨rfl,rfl⟩ | ⟨rfl,rfl⟩ <;> decide
theorem lo_of {p:Int} {a:En} (hp:nn p) (h:key p=key (eLo a)):canon p=eLo a:=(canon_key hp (e_nn a).1 h).trans (e_canon a).1
theorem hi_of {p:Int} {a:En} (hp:nn p) (h:key p=key (eHi a)):canon p=eHi a:=(canon_key hp (e_nn a).2 h).trans (e_canon a).2
theorem of_lo {p:Int} {a:En} (hp:nn p) (h:canon p=eLo a):key p=key (eLo a):=by rw [<- h,(key_canon hp).1]
theorem of_hi {p:Int} {a:En} (hp:nn p) (h:canon p=eHi a):key p=key (eHi a):=by rw [<- h,(key_canon hp).1]
theorem pat_of {p:Int} (hp:rng p):p=patS (decide (p<0)) (rg p):=by
 unfold rng at hp
 unfold patS rg
 by_cases h:p<0
 ·rw [if_pos h,decide_eq_true h]; simp
 ·rw [if_neg h,decide_eq_false h]; simp
theorem rg_zero {p:Int} (hp:rng p) (h:rg p=0):p=0∨p=-9223372036854775808:=by
 unfold rg at h
 split at h <;> omega
theorem patV_zeroE:patV 0=0∧patV (-9223372036854775808)=0:=by
 refine ⟨?_,?_⟩
 ·unfold patV
  rw [show pmag 0=0 by decide,show pneg 0=false by decide]
  exact Int.zero_mul _
 ·unfold patV
  rw [show pmag (-9223372036854775808)=0 by decide]
  show sg (pneg (-9223372036854775808)) 0*_=0
  cases pneg (-9223372036854775808) <;> exact Int.zero_mul _
theorem c_zero:cLo 0=0∧cHi 0=0:=by unfold cLo cHi; rw [if_pos rfl,if_pos rfl]; exact ⟨rfl,rfl⟩
theorem e_of {p:Int} (hp:nn p):eLo (eOf p)=canon p∧eHi (eOf p)=canon p:=by
 have hr:=nn_rg hp
 obtain ⟨c1,c2⟩:=cls_rg hp.1
 unfold eOf
 by_cases hi:rg p=9218868437227405312
 ·rw [if_pos hi]
  have hc:canon p=p:=by
   unfold canon
   rw [if_neg hp.2,if_neg (fun k=>by have:=c2.1 k; omega)]
  rw [hc]
  have h2:=hp.1
  unfold rng at h2
  unfold rg at hi
  unfold eLo eHi
  by_cases h0:p<0
  ·rw [if_pos h0] at hi
   simp only [if_pos h0]
   exact ⟨by simp; omega,by simp; omega⟩
  ·rw [if_neg h0] at hi
   simp only [if_neg h0]
   exact ⟨by simp; omega,by simp; omega⟩
 ·rw [if_neg hi]
  have hf:pok p=true:=rg_pat0 hp hi
  unfold eLo eHi
  simp only [Int.lt_irrefl,if_false]
  by_cases h0:rg p=0
  ·have hz:=rg_zero hp.1 h0
   have hc:canon p=0:=by
    unfold canon
    rw [if_neg hp.2,if_pos (c2.2 h0)]
   have hv:patV p=0:=by
    rcases hz with rfl | rfl
    ·exact patV_zeroE.1
    ·exact patV_zeroE.2
   rw [hv,hc]
   exact c_zero
  ·have hc:canon p=p:=by
    unfold canon
    rw [if_neg hp.2,if_neg (fun k=>h0 (c2.1 k))]
   have hv:=patV_dec hp.1 hf
   have hn:((rg p).toNat:Int)=rg p:=Int.toNat_of_nonneg hr.1
   obtain ⟨a1,a2⟩:=c_at (g:=decide (p<0)) (r:=(rg p).toNat) (by omega) (by omega)
   rw [<- hv,hn,<- pat_of hp.1] at a1 a2
   rw [hc]
   exact ⟨a1,a2⟩
theorem key_rg {p:Int} (hp:rng p):key p=if p<0 then-rg p else rg p:=by
 unfold key rg
 split <;> rfl
theorem iV_le {p q:Int} (hp:rng p) (hq:rng q) (h:key p<=key q):iV p<=iV q:=by
 rcases Int.lt_or_eq_of_le h with h | h
 ·exact Int.le_of_lt (iV_mono hp hq h)
 ·by_cases e:p=q
  ·rw [e]; exact Int.le_refl _
  ·rcases key_zeros hp hq h e with ⟨rfl,rfl⟩ | ⟨rfl,rfl⟩ <;> decide
theorem patV_le {p q:Int} (hp:rng p) (hq:rng q) (pp:pok p=true) (pq:pok q=true) (h:key p<=key q):patV p<=patV q:=by
 rw [patV_iV hp pp,patV_iV hq pq]
 exact Int.mul_le_mul_of_nonneg_right (iV_le hp hq h) (Int.le_of_lt (pw_pos _))
theorem of_le {p q:Int} (hp:nn p) (hq:nn q) (h:key p<=key q):(eOf p).le (eOf q):=by
 have kp:=key_rg hp.1
 have kq:=key_rg hq.1
 have rp:=nn_rg hp
 have rq:=nn_rg hq
 unfold eOf
 by_cases ip:rg p=9218868437227405312
 ·by_cases iq:rg q=9218868437227405312
  ·rw [if_pos ip,if_pos iq]
   unfold En.le
   show (if p<0 then (-1:Int) else 1)<(if q<0 then (-1:Int) else 1)∨((if p<0 then (-1:Int) else 1)=(if q<0 then (-1:Int) else 1)∧(0:Int)<=0)
   split at kp <;> split at kq <;> simp_all <;> omega
  ·rw [if_pos ip,if_neg iq]
   unfold En.le
   show (if p<0 then (-1:Int) else 1)<0∨_
   split at kp
   ·rw [if_pos (by assumption)]; exact .inl (by decide)
   ·exfalso; split at kq <;> omega
 ·by_cases iq:rg q=9218868437227405312
  ·rw [if_neg ip,if_pos iq]
   unfold En.le
   show 0<(if q<0 then (-1:Int) else 1)∨_
   split at kq
   ·exfalso; split at kp <;> omega
   ·rw [if_neg (by assumption)]; exact .inl (by decide)
  ·rw [if_neg ip,if_neg iq]
   exact .inr ⟨rfl,patV_le hp.1 hq.1 (rg_pat0 hp ip) (rg_pat0 hq iq) h⟩
theorem eOf_ok (p:Int):(eOf p).ok:=by
 unfold eOf En.ok
 split
 ·show (if p<0 then (-1:Int) else 1)=0∨_
  split
  ·exact .inr ⟨.inr rfl,rfl⟩
  ·exact .inr ⟨.inl rfl,rfl⟩
 ·exact .inl rfl
def ePlus (a b:En):En:=if a.i≠0 then a else if b.i≠0 then b else ⟨0,a.v+b.v⟩
theorem of_fin {p:Int} (h:¬ rg p=9218868437227405312):eOf p=⟨0,patV p⟩:=if_neg h
theorem of_inf {p:Int} (h:rg p=9218868437227405312):eOf p=⟨if p<0 then -1 else 1,0⟩:=if_pos h
theorem infs {p:Int} (h:rg p=9218868437227405312):(if p<0 then (-1:Int) else 1)≠0:=by split <;> decide
theorem plus_e {p q:Int} (hp:nn p) (hq:nn q) (hno:¬ (rg p=9218868437227405312∧rg q=9218868437227405312∧decide (p<0)≠decide (q<0))) :
  nn (suN p q)∧canon (beLo (suN p q) (suL p q))=eLo (ePlus (eOf p) (eOf q))∧canon (beHi (suN p q) (suL p q))=eHi (ePlus (eOf p) (eOf q)):=by
 have rp:=nn_rg hp
 have rq:=nn_rg hq
 by_cases ip:rg p=9218868437227405312
 ·have hE:ePlus (eOf p) (eOf q)=eOf p:=by
   rw [of_inf ip]; unfold ePlus; exact if_pos (infs ip)
  rw [hE]
  by_cases iq:rg q=9218868437227405312
  ·have hpq:p=q:=by
    have hd:decide (p<0)=decide (q<0):=Classical.byContradiction fun c=>hno ⟨ip,iq,c⟩
    rw [pat_of hp.1,pat_of hq.1,ip,iq,hd]
   subst hpq
   have hh:hiM p p=p:=by unfold hiM; split <;> rfl
   obtain ⟨e1,e2,e3⟩:=su_infEnd hp hp (by rw [hh]; exact ip) hno
   rw [e2,e3,e1,hh]
   exact ⟨hp,(e_of hp).1.symm,(e_of hp).2.symm⟩
  ·have hh:hiM p q=p:=by unfold hiM; rw [if_neg (by omega)]
   obtain ⟨e1,e2,e3⟩:=su_infEnd hp hq (by rw [hh]; exact ip) hno
   rw [e2,e3,e1,hh]
   exact ⟨hp,(e_of hp).1.symm,(e_of hp).2.symm⟩
 ·by_cases iq:rg q=9218868437227405312
  ·have hE:ePlus (eOf p) (eOf q)=eOf q:=by
    rw [of_fin ip,of_inf iq]; unfold ePlus
    rw [if_neg (by simp),if_pos (infs iq)]
   rw [hE]
   have hh:hiM p q=q:=by unfold hiM; rw [if_pos (by omega)]
   obtain ⟨e1,e2,e3⟩:=su_infEnd hp hq (by rw [hh]; exact iq) hno
   rw [e2,e3,e1,hh]
   exact ⟨hq,(e_of hq).1.symm,(e_of hq).2.symm⟩
  ·have hE:ePlus (eOf p) (eOf q)=⟨0,patV p+patV q⟩:=by
    rw [of_fin ip,of_fin iq]; unfold ePlus
    rw [if_neg (by simp),if_neg (by simp)]
   rw [hE]
   obtain ⟨a,b,c⟩:=sum_c hp.1 hq.1 (rg_pat0 hp ip) (rg_pat0 hq iq)
   unfold eLo eHi
   simp only [Int.lt_irrefl,if_false]
   exact ⟨a,b,c⟩
def sig (v:Int):Int:=if v<0 then -1 else if 0<v then 1 else 0
def eSg (a:En):Int:=if a.i≠0 then a.i else sig a.v
def mulS (x y:Int):Int:=x*y/2^4194304
theorem mulS_comm (x y:Int):mulS x y=mulS y x:=by unfold mulS; rw [Int.mul_comm]
theorem mulS_zero (y:Int):mulS 0 y=0:=by unfold mulS; rw [Int.zero_mul]; exact Int.zero_ediv _
theorem div_mono {D x y:Int} (hD:0<D) (h:x<=y):x/D<=y/D:=Int.ediv_le_ediv hD h
theorem mulS_mono {x y c:Int} (h:x<=y) (hc:0<=c):mulS x c<=mulS y c:=div_mono (two_pos _) (Int.mul_le_mul_of_nonneg_right h hc)
theorem mulS_anti {x y c:Int} (h:x<=y) (hc:c<=0):mulS y c<=mulS x c:=div_mono (two_pos _) (Int.mul_le_mul_of_nonpos_right h hc)
def eTimes (a b:En):En:=if eSg a*eSg b=0 then ⟨0,0⟩ else if a.i≠0∨b.i≠0 then ⟨eSg a*eSg b,0⟩ else ⟨0,mulS a.v b.v⟩
theorem sig_zero {v:Int} (h:sig v=0):v=0:=by unfold sig at h; split at h; (· omega); split at h <;> omega
theorem sig_le {v u:Int} (h:v<=u):sig v<=sig u:=by unfold sig; repeat' split; all_goals omega
theorem sig_bd (v:Int):-1<=sig v∧sig v<=1∧(0<=sig v ↔ 0<=v)∧(sig v<=0 ↔ v<=0):=by unfold sig; repeat' split; all_goals omega
theorem eSg_bd {a:En} (h:a.ok):-1<=eSg a∧eSg a<=1:=by
 unfold eSg
 have:=sig_bd a.v
 rcases h with h | ⟨h,_⟩
 ·rw [if_neg (by omega)]; exact ⟨this.1,this.2.1⟩
 ·rw [if_pos (by omega)]; omega
theorem sg_fin {a:En} (h:a.i=0):eSg a=sig a.v:=if_neg (fun k=>k h)
theorem sg_inf {a:En} (h:a.i≠0):eSg a=a.i:=if_pos h
theorem eSg_mono {a b:En} (ha:a.ok) (hb:b.ok) (h:a.le b):eSg a<=eSg b:=by
 have b1:=eSg_bd ha
 have b2:=eSg_bd hb
 unfold En.le at h
 by_cases ia:a.i=0
 ·by_cases ib:b.i=0
  ·rw [sg_fin ia,sg_fin ib]
   exact sig_le (by omega)
  ·have:b.i=1:=by unfold En.ok at hb; omega
   rw [sg_inf ib]; omega
 ·by_cases ib:b.i=0
  ·have:a.i=-1:=by unfold En.ok at ha; omega
   rw [sg_inf ia]; omega
  ·rw [sg_inf ia,sg_inf ib]; omega
theorem times_fin {a b:En} (ha:a.i=0) (hb:b.i=0):eTimes a b=⟨0,mulS a.v b.v⟩:=by
 unfold eTimes
 rw [sg_fin ha,sg_fin hb]
 by_cases h:sig a.v*sig b.v=0
 ·rw [if_pos h]
  rcases Int.mul_eq_zero.1 h with k | k
  ·rw [sig_zero k,mulS_zero]
  ·rw [sig_zero k,mulS_comm,mulS_zero]
 ·rw [if_neg h,if_neg (by omega)]
theorem times_infr {a c:En} (hc:c.i≠0):eTimes a c=⟨eSg a*c.i,0⟩:=by
 unfold eTimes
 rw [sg_inf hc]
 by_cases h:eSg a*c.i=0
 ·rw [if_pos h,h]
 ·rw [if_neg h,if_pos (.inr hc)]
theorem times_comm (a b:En):eTimes a b=eTimes b a:=by
 unfold eTimes
 rw [Int.mul_comm (eSg a),mulS_comm a.v]
 by_cases h:eSg b*eSg a=0
 ·rw [if_pos h,if_pos h]
 ·rw [if_neg h,if_neg h]
  by_cases k:a.i≠0∨b.i≠0
  ·rw [if_pos k,if_pos k.symm]
  ·rw [if_neg k,if_neg (fun q=>k q.symm)]
theorem times_infl {a c:En} (ha:a.i≠0):eTimes a c=⟨eSg c*a.i,0⟩:=by rw [times_comm,times_infr ha]
theorem times_zero (a:En):eTimes ⟨0,0⟩ a=⟨0,0⟩:=by
 unfold eTimes
 have:eSg ⟨0,0⟩=0:=rfl
 rw [this,Int.zero_mul,if_pos rfl]
theorem times_mono {a b c:En} (ha:a.ok) (hb:b.ok) (hc:c.ok) (h:a.le b) (hs:0<=eSg c):(eTimes a c).le (eTimes b c):=by
 have hm:=eSg_mono ha hb h
 by_cases ic:c.i=0
 ·rw [sg_fin ic] at hs
  have hv:=(sig_bd c.v).2.2.1.1 hs
  by_cases ia:a.i=0
  ·by_cases ib:b.i=0
   ·rw [times_fin ia ic,times_fin ib ic]
    exact .inr ⟨rfl,mulS_mono (by unfold En.le at h; omega) hv⟩
   ·have eb:b.i=1:=by unfold En.ok En.le at *; omega
    rw [times_fin ia ic,times_infl ib,eb,sg_fin ic]
    rcases Int.lt_or_eq_of_le hs with q | q
    ·exact .inl (by show 0<sig c.v*1; omega)
    ·exact .inr ⟨by show 0=sig c.v*1; omega,by show mulS _ _<=0; rw [sig_zero q.symm,mulS_comm,mulS_zero]; exact Int.le_refl _⟩
  ·by_cases ib:b.i=0
   ·have ea:a.i=-1:=by unfold En.ok En.le at *; omega
    rw [times_fin ib ic,times_infl ia,ea,sg_fin ic]
    rcases Int.lt_or_eq_of_le hs with q | q
    ·exact .inl (by show sig c.v * -1<0; omega)
    ·exact .inr ⟨by show sig c.v * -1=0; omega,by show 0<=mulS _ _; rw [sig_zero q.symm,mulS_comm,mulS_zero]; exact Int.le_refl _⟩
   ·rw [times_infl ia,times_infl ib]
    have:a.i<=b.i:=by unfold En.le at h; omega
    have hq:eSg c*a.i<=eSg c*b.i:=Int.mul_le_mul_of_nonneg_left this (by rw [sg_fin ic]; exact hs)
    rcases Int.lt_or_eq_of_le hq with q | q
    ·exact .inl q
    ·exact .inr ⟨q,Int.le_refl _⟩
 ·rw [sg_inf ic] at hs
  rw [times_infr ic,times_infr ic]
  have hq:eSg a*c.i<=eSg b*c.i:=Int.mul_le_mul_of_nonneg_right hm hs
  rcases Int.lt_or_eq_of_le hq with q | q
  ·exact .inl q
  ·exact .inr ⟨q,Int.le_refl _⟩
theorem times_anti {a b c:En} (ha:a.ok) (hb:b.ok) (hc:c.ok) (h:a.le b) (hs:eSg c<=0):(eTimes b c).le (eTimes a c):=by
 have hm:=eSg_mono ha hb h
 by_cases ic:c.i=0
 ·rw [sg_fin ic] at hs
  have hv:=(sig_bd c.v).2.2.2.1 hs
  by_cases ia:a.i=0
  ·by_cases ib:b.i=0
   ·rw [times_fin ia ic,times_fin ib ic]
    exact .inr ⟨rfl,mulS_anti (by unfold En.le at h; omega) hv⟩
   ·have eb:b.i=1:=by unfold En.ok En.le at *; omega
    rw [times_fin ia ic,times_infl ib,eb,sg_fin ic]
    rcases Int.lt_or_eq_of_le hs with q | q
    ·exact .inl (by show sig c.v*1<0; omega)
    ·exact .inr ⟨by show sig c.v*1=0; omega,by show 0<=mulS _ _; rw [sig_zero q,mulS_comm,mulS_zero]; exact Int.le_refl _⟩
  ·by_cases ib:b.i=0
   ·have ea:a.i=-1:=by unfold En.ok En.le at *; omega
    rw [times_fin ib ic,times_infl ia,ea,sg_fin ic]
    rcases Int.lt_or_eq_of_le hs with q | q
    ·exact .inl (by show 0<sig c.v * -1; omega)
    ·exact .inr ⟨by show 0=sig c.v * -1; omega,by show mulS _ _<=0; rw [sig_zero q,mulS_comm,mulS_zero]; exact Int.le_refl _⟩
   ·rw [times_infl ia,times_infl ib]
    have:a.i<=b.i:=by unfold En.le at h; omega
    have hq:eSg c*b.i<=eSg c*a.i:=Int.mul_le_mul_of_nonpos_left (by rw [sg_fin ic]; exact hs) this
    rcases Int.lt_or_eq_of_le hq with q | q
    ·exact .inl q
    ·exact .inr ⟨q,Int.le_refl _⟩
 ·rw [sg_inf ic] at hs
  rw [times_infr ic,times_infr ic]
  have hq:eSg b*c.i<=eSg a*c.i:=Int.mul_le_mul_of_nonpos_right hm hs
  rcases Int.lt_or_eq_of_le hq with q | q
  ·exact .inl q
  ·exact .inr ⟨q,Int.le_refl _⟩
def eMin (a b:En):En:=if b.i<a.i∨(b.i=a.i∧b.v<a.v) then b else a
def eMax (a b:En):En:=if a.i<b.i∨(a.i=b.i∧a.v<b.v) then b else a
theorem eMin_le (a b:En):(eMin a b).le a∧(eMin a b).le b∧(eMin a b=a∨eMin a b=b):=by
 unfold eMin
 split
 ·rename_i h
  exact ⟨by unfold En.le; omega,En.le_refl _,.inr rfl⟩
 ·rename_i h
  exact ⟨En.le_refl _,by unfold En.le; omega,.inl rfl⟩
theorem eMax_le (a b:En):a.le (eMax a b)∧b.le (eMax a b)∧(eMax a b=a∨eMax a b=b):=by
 unfold eMax
 split
 ·rename_i h
  exact ⟨by unfold En.le; omega,En.le_refl _,.inr rfl⟩
 ·rename_i h
  exact ⟨En.le_refl _,by unfold En.le; omega,.inl rfl⟩
theorem lo_min {x y:Int} {e f:En} (hx:nn x) (hy:nn y) (kx:key x=key (eLo e)) (ky:key y=key (eLo f)):nn (minP x y)∧key (minP x y)=key (eLo (eMin e f)):=by
 obtain ⟨a,b,c,d⟩:=minP_nn hx hy
 obtain ⟨l1,l2,l3⟩:=eMin_le e f
 have m1:=(e_mono l1).1
 have m2:=(e_mono l2).1
 refine ⟨a,?_⟩
 rcases l3 with q | q <;> (rw [q] at m1 m2 ⊢; omega)
theorem hi_max {x y:Int} {e f:En} (hx:nn x) (hy:nn y) (kx:key x=key (eHi e)) (ky:key y=key (eHi f)):nn (maxP x y)∧key (maxP x y)=key (eHi (eMax e f)):=by
 obtain ⟨a,b,c,d⟩:=maxP_nn hx hy
 obtain ⟨l1,l2,l3⟩:=eMax_le e f
 have m1:=(e_mono l1).2
 have m2:=(e_mono l2).2
 refine ⟨a,?_⟩
 rcases l3 with q | q <;> (rw [q] at m1 m2 ⊢; omega)
theorem times_btw {a b x c:En} (ha:a.ok) (hb:b.ok) (hx:x.ok) (hc:c.ok) (h1:a.le x) (h2:x.le b):(eMin (eTimes a c) (eTimes b c)).le (eTimes x c)∧(eTimes x c).le (eMax (eTimes a c) (eTimes b c)):=by
 obtain ⟨l1,l2,_⟩:=eMin_le (eTimes a c) (eTimes b c)
 obtain ⟨g1,g2,_⟩:=eMax_le (eTimes a c) (eTimes b c)
 rcases Int.le_total 0 (eSg c) with s | s
 ·exact ⟨l1.le_trans (times_mono ha hx hc h1 s),(times_mono hx hb hc h2 s).le_trans g2⟩
 ·exact ⟨l2.le_trans (times_anti hx hb hc h2 s),(times_anti ha hx hc h1 s).le_trans g1⟩
def eTmLo (a b c d:En):En:=eMin (eMin (eMin (eTimes a c) (eTimes a d)) (eTimes b c)) (eTimes b d)
def eTmHi (a b c d:En):En:=eMax (eMax (eMax (eTimes a c) (eTimes a d)) (eTimes b c)) (eTimes b d)
theorem eTmLo_le (a b c d:En):(eTmLo a b c d).le (eTimes a c)∧(eTmLo a b c d).le (eTimes a d)∧(eTmLo a b c d).le (eTimes b c)∧(eTmLo a b c d).le (eTimes b d):=by
 unfold eTmLo
 have h1:=eMin_le (eTimes a c) (eTimes a d)
 have h2:=eMin_le (eMin (eTimes a c) (eTimes a d)) (eTimes b c)
 have h3:=eMin_le (eMin (eMin (eTimes a c) (eTimes a d)) (eTimes b c)) (eTimes b d)
 exact ⟨h3.1.le_trans (h2.1.le_trans h1.1),h3.1.le_trans (h2.1.le_trans h1.2.1),h3.1.le_trans h2.2.1,h3.2.1⟩
theorem eTmHi_le (a b c d:En):(eTimes a c).le (eTmHi a b c d)∧(eTimes a d).le (eTmHi a b c d)∧(eTimes b c).le (eTmHi a b c d)∧(eTimes b d).le (eTmHi a b c d):=by
 unfold eTmHi
 have h1:=eMax_le (eTimes a c) (eTimes a d)
 have h2:=eMax_le (eMax (eTimes a c) (eTimes a d)) (eTimes b c)
 have h3:=eMax_le (eMax (eMax (eTimes a c) (eTimes a d)) (eTimes b c)) (eTimes b d)
 exact ⟨(h1.1.le_trans h2.1).le_trans h3.1,(h1.2.1.le_trans h2.1).le_trans h3.1,h2.2.1.le_trans h3.1,h3.2.1⟩
theorem min_ge {a b x:En} (h:x.le a) (k:x.le b):x.le (eMin a b):=by rcases (eMin_le a b).2.2 with q | q <;> (rw [q]; assumption)
theorem max_le {a b x:En} (h:a.le x) (k:b.le x):(eMax a b).le x:=by rcases (eMax_le a b).2.2 with q | q <;> (rw [q]; assumption)
theorem tm_btw {a b c d x y:En} (ha:a.ok) (hb:b.ok) (hc:c.ok) (hd:d.ok) (hx:x.ok) (hy:y.ok) (h1:a.le x) (h2:x.le b) (h3:c.le y) (h4:y.le d) :
  (eTmLo a b c d).le (eTimes x y)∧(eTimes x y).le (eTmHi a b c d):=by
 obtain ⟨l1,l2,l3,l4⟩:=eTmLo_le a b c d
 obtain ⟨g1,g2,g3,g4⟩:=eTmHi_le a b c d
 have p:=times_btw hc hd hy hx h3 h4
 rw [times_comm c,times_comm d,times_comm y] at p
 have pc:=times_btw ha hb hx hc h1 h2
 have pd:=times_btw ha hb hx hd h1 h2
 exact ⟨(min_ge ((min_ge l1 l3).le_trans pc.1) ((min_ge l2 l4).le_trans pd.1)).le_trans p.1,p.2.le_trans (max_le (pc.2.le_trans (max_le g1 g3)) (pd.2.le_trans (max_le g2 g4)))⟩
def eSqLo (a b:En):En:=if eSg a<=0∧0<=eSg b then ⟨0,0⟩ else eMin (eTimes a a) (eTimes b b)
def eSqHi (a b:En):En:=eMax (eTimes a a) (eTimes b b)
theorem sq_pos {a:En} (h:a.ok):(⟨0,0⟩:En).le (eTimes a a):=by
 rcases Int.le_total 0 (eSg a) with s | s
 ·have hz:(⟨0,0⟩:En).le a:=by
   by_cases ia:a.i=0
   ·rw [sg_fin ia] at s
    exact .inr ⟨ia.symm,(sig_bd a.v).2.2.1.1 s⟩
   ·rw [sg_inf ia] at s
    exact .inl (by show 0<a.i; omega)
  have:=times_mono (.inl rfl) h h hz s
  rw [times_zero] at this
  exact this
 ·have hz:a.le (⟨0,0⟩:En):=by
   by_cases ia:a.i=0
   ·rw [sg_fin ia] at s
    exact .inr ⟨ia,(sig_bd a.v).2.2.2.1 s⟩
   ·rw [sg_inf ia] at s
    exact .inl (by show a.i<0; omega)
  have:=times_anti h (.inl rfl) h hz s
  rw [times_zero] at this
  exact this
theorem sq_btw {a b x:En} (ha:a.ok) (hb:b.ok) (hx:x.ok) (h1:a.le x) (h2:x.le b):(eSqLo a b).le (eTimes x x)∧(eTimes x x).le (eSqHi a b):=by
 have m1:=eSg_mono ha hx h1
 have m2:=eSg_mono hx hb h2
 obtain ⟨l1,l2,_⟩:=eMin_le (eTimes a a) (eTimes b b)
 obtain ⟨g1,g2,_⟩:=eMax_le (eTimes a a) (eTimes b b)
 have hi:(eTimes x x).le (eSqHi a b):=by
  unfold eSqHi
  rcases Int.le_total 0 (eSg x) with s | s
  ·have p1:=times_mono hx hb hx h2 s
   have p2:=times_mono hx hb hb h2 (by omega)
   rw [times_comm x b] at p2
   exact (p1.le_trans p2).le_trans g2
  ·have p1:=times_anti ha hx hx h1 s
   have p2:=times_anti ha hx ha h1 (by omega)
   rw [times_comm x a] at p2
   exact (p1.le_trans p2).le_trans g1
 refine ⟨?_,hi⟩
 unfold eSqLo
 split
 ·exact sq_pos hx
 ·rename_i hs
  by_cases s:0<eSg a
  ·have p1:=times_mono ha hx ha h1 (by omega)
   have p2:=times_mono ha hx hx h1 (by omega)
   rw [times_comm x a] at p1
   exact l1.le_trans (p1.le_trans p2)
  ·have s2:eSg b<0:=by omega
   have p1:=times_anti hx hb hb h2 (by omega)
   have p2:=times_anti hx hb hx h2 (by omega)
   rw [times_comm x b] at p1
   exact l2.le_trans (p1.le_trans p2)
theorem sg_of {p:Int} (hp:nn p):eSg (eOf p)=if rg p=0 then 0 else if p<0 then -1 else 1:=by
 by_cases hi:rg p=9218868437227405312
 ·have h0:¬ rg p=0:=by omega
  rw [of_inf hi,sg_inf (by exact infs hi),if_neg h0]
 ·rw [of_fin hi,sg_fin rfl]
  show sig (patV p)=_
  have hv:=patV_iV hp.1 (rg_pat0 hp hi)
  obtain ⟨k1,k2⟩:=iV_key hp.1
  have hk:=key_rg hp.1
  have hr:=nn_rg hp
  have hpw:=pw_pos (-1074)
  unfold sig
  by_cases h0:rg p=0
  ·have hz:iV p=0:=by
    have:key p=0:=by rw [hk,h0]; split <;> rfl
    omega
   rw [if_pos h0,hv,hz,Int.zero_mul]
   simp
  ·rw [if_neg h0]
   by_cases hn:p<0
   ·have:iV p<0:=k1.2 (by rw [hk,if_pos hn]; omega)
    have:patV p<0:=by rw [hv]; exact Int.mul_neg_of_neg_of_pos this hpw
    rw [if_pos this,if_pos hn]
   ·have:0<iV p:=k2.2 (by rw [hk,if_neg hn]; omega)
    have:0<patV p:=by rw [hv]; exact Int.mul_pos this hpw
    rw [if_neg (by omega),if_pos this,if_neg hn]
theorem prod_e {p q:Int} (hp:nn p) (hq:nn q):canon (prLo p q)=eLo (eTimes (eOf p) (eOf q))∧canon (prHi p q)=eHi (eTimes (eOf p) (eOf q)):=by
 have sp:=sg_of hp
 have sq:=sg_of hq
 have c0:canon 0=0:=by decide
 have c1:canon 9218868437227405312=9218868437227405312:=by decide
 have c2:canon (-4503599627370496)=-4503599627370496:=by decide
 by_cases h0:rg p=0∨rg q=0
 ·have hE:eTimes (eOf p) (eOf q)=⟨0,0⟩:=by
   unfold eTimes
   rw [sp,sq]
   rw [if_pos]
   rcases h0 with h | h
   ·rw [if_pos h]; exact Int.zero_mul _
   ·rw [if_pos h]; exact Int.mul_zero _
  rw [hE]
  unfold prLo prHi eLo eHi
  rw [if_pos h0,if_pos h0]
  simp only [Int.lt_irrefl,if_false]
  rw [c0]
  exact ⟨c_zero.1.symm,c_zero.2.symm⟩
 ·by_cases hi:rg p=9218868437227405312∨rg q=9218868437227405312
  ·have hn1:rg p≠0:=fun k=>h0 (.inl k)
   have hn2:rg q≠0:=fun k=>h0 (.inr k)
   rw [if_neg hn1] at sp
   rw [if_neg hn2] at sq
   have hE:eTimes (eOf p) (eOf q)=⟨(if p<0 then -1 else 1)*(if q<0 then -1 else 1),0⟩:=by
    unfold eTimes
    rw [sp,sq]
    rw [if_neg (by split <;> split <;> decide),if_pos]
    rcases hi with h | h
    ·left; rw [of_inf h]; exact infs h
    ·right; rw [of_inf h]; exact infs h
   rw [hE]
   unfold prLo prHi eLo eHi
   rw [if_neg h0,if_pos hi,if_neg h0,if_pos hi]
   unfold xsg patS
   by_cases a:p<0 <;> by_cases b:q<0 <;> simp [a,b] <;> decide
  ·have ip:¬ rg p=9218868437227405312:=fun k=>hi (.inl k)
   have iq:¬ rg q=9218868437227405312:=fun k=>hi (.inr k)
   obtain ⟨e1,e2⟩:=prod_c hp.1 hq.1 (rg_pat0 hp ip) (rg_pat0 hq iq)
   rw [of_fin ip,of_fin iq,times_fin rfl rfl]
   have hm:mulS (patV p) (patV q)=prV p q:=prV_eq.symm
   unfold eLo eHi
   simp only [Int.lt_irrefl,if_false]
   rw [hm]
   exact ⟨e1,e2⟩
theorem pr_keys {p q:Int} (hp:nn p) (hq:nn q):key (prLo p q)=key (eLo (eTimes (eOf p) (eOf q)))∧key (prHi p q)=key (eHi (eTimes (eOf p) (eOf q))) :=
 ⟨of_lo (prLo_nn hp hq).1 (prod_e hp hq).1,of_hi (prLo_nn hp hq).2 (prod_e hp hq).2⟩
theorem tm_e {a b c d:Int} (ha:nn a) (hb:nn b) (hc:nn c) (hd:nn d):canon (tmLo a b c d)=eLo (eTmLo (eOf a) (eOf b) (eOf c) (eOf d))∧canon (tmHi a b c d)=eHi (eTmHi (eOf a) (eOf b) (eOf c) (eOf d)):=by
 obtain ⟨n1,m1⟩:=prLo_nn ha hc
 obtain ⟨n2,m2⟩:=prLo_nn ha hd
 obtain ⟨n3,m3⟩:=prLo_nn hb hc
 obtain ⟨n4,m4⟩:=prLo_nn hb hd
 obtain ⟨k1,l1⟩:=pr_keys ha hc
 obtain ⟨k2,l2⟩:=pr_keys ha hd
 obtain ⟨k3,l3⟩:=pr_keys hb hc
 obtain ⟨k4,l4⟩:=pr_keys hb hd
 have A1:=lo_min n1 n2 k1 k2
 have A2:=lo_min A1.1 n3 A1.2 k3
 have A3:=lo_min A2.1 n4 A2.2 k4
 have B1:=hi_max m1 m2 l1 l2
 have B2:=hi_max B1.1 m3 B1.2 l3
 have B3:=hi_max B2.1 m4 B2.2 l4
 exact ⟨lo_of A3.1 A3.2,hi_of B3.1 B3.2⟩
def eNeg (a:En):En:=⟨-a.i,-a.v⟩
theorem sg_flip {a b:Bool} (h:a≠b) (X:Int):sg a X=- sg b X:=by
 cases a <;> cases b <;> simp [sg] at h ⊢
theorem patV_negP {p:Int} (hp:nn p) (hf:pok p=true) (hn:pok (neg p)=true):patV (neg p)=- patV p:=by
 obtain ⟨g1,g2⟩:=su_neg hp
 rw [patV_dec hp.1 hf,patV_dec (nn_neg hp).1.1 hn,g1]
 exact sg_flip g2 _
theorem neg_mk (x:Int):eNeg ⟨0,x⟩=⟨0,-x⟩:=rfl
theorem of_neg {p:Int} (hp:nn p):eOf (neg p)=eNeg (eOf p):=by
 obtain ⟨hn,hk⟩:=nn_neg hp
 obtain ⟨g1,g2⟩:=su_neg hp
 by_cases hi:rg p=9218868437227405312
 ·rw [of_inf hi,of_inf (by rw [g1]; exact hi)]
  unfold eNeg
  have:(neg p<0) ↔ ¬ p<0:=by
   by_cases a:neg p<0 <;> by_cases b:p<0 <;> simp [a,b] at g2 ⊢
  by_cases b:p<0
  ·rw [if_pos b,if_neg (fun k=>this.1 k b)]; rfl
  ·rw [if_neg b,if_pos (this.2 b)]; rfl
 ·have hi':¬ rg (neg p)=9218868437227405312:=by rw [g1]; exact hi
  rw [of_fin hi,of_fin hi',neg_mk,patV_negP hp (rg_pat0 hp hi) (rg_pat0 hn hi')]
theorem run_eqF {P:Program} (w:World) (d:Nat) (t:TypeId) (k:FloatKind) (a b:Nat) (h:P.underlying t=some (.float k)):(Op.equalIn (d+1) t (.float .f64 a) (.float .f64 b)).run P w=.ok (FloatKind.f64.format.order a b == some .eq) w:=by
 simp [Op.equalIn,run_underlying h,Op.floatEq]
theorem le_sgF {x y:Int} (h:x<=y):(⟨0,sg false x⟩:En).le ⟨0,sg false y⟩:=.inr ⟨rfl,h⟩
theorem le_sgT {x y:Int} (h:y<=x):(⟨0,sg true x⟩:En).le ⟨0,sg true y⟩:=.inr ⟨rfl,Int.neg_le_neg h⟩
theorem le_up (x:Int):(⟨0,x⟩:En).le ⟨1,0⟩:=.inl (by show (0:Int)<1; decide)
theorem le_dn (x:Int):(⟨-1,0⟩:En).le ⟨0,x⟩:=.inl (by show (-1:Int)<0; decide)
theorem of_pat (g:Bool) {r:Nat} (h:(r:Int)<9218868437227405312):eOf (patS (g && decide (0<(r:Int))) (r:Int))=⟨0,sg g (vS r)⟩:=by
 obtain ⟨a,b,c⟩:=patS_parts (ng:=g && decide (0<(r:Int))) (r:=(r:Int)) (by omega) (by omega)
 rw [of_fin (by rw [b]; omega)]
 refine En.eq rfl ?_
 show patV _=sg g (vS r)
 rw [patV_dec a ((pok_rg a).2 (by rw [b]; exact h)),b,c,Int.toNat_natCast]
 by_cases h0:0<r
 ·rw [decide_eq_true (by omega),Bool.and_true]
 ·have:r=0:=by omega
  subst this
  rw [vS_zero]
  cases g <;> rfl
theorem of_patI (g:Bool):eOf (patS (g && decide ((0:Int)<9218868437227405312)) 9218868437227405312)=⟨if g then -1 else 1,0⟩:=by
 cases g
 ·rw [of_inf (by decide)]; rfl
 ·rw [of_inf (by decide)]; rfl
theorem vS_mono {r s:Nat} (h:r<=s):vS r<=vS s:=by
 rcases Nat.lt_or_eq_of_le h with g | g
 ·exact Int.le_of_lt (vS_lt g)
 ·rw [g]; exact Int.le_refl _
theorem b_low:bRung 1 false=9218868437227405311∧bRung 1 true=9218868437227405312∧bRung 2 false=9218868437227405312∧bRung 2 true=9218868437227405311:=⟨by decide,by decide,by decide,by decide⟩
theorem rTo_high {ng:Bool} {r0:Nat} {left:Int} (way:Int) (h:¬ (r0:Int)<9218868437227405312):rTo way ng r0 left=bRung way ng:=by
 unfold rTo; rw [if_neg h]
theorem low_end {g:Bool} {A:Int} {r0:Nat} {left:Int} (hR:Rung A r0 left) :
  (eOf (patS (g && decide (0<rTo 1 g r0 left)) (rTo 1 g r0 left))).le ⟨0,sg g A⟩∧(⟨0,sg g A⟩:En).le (eOf (patS (g && decide (0<rTo 2 g r0 left)) (rTo 2 g r0 left))):=by
 obtain ⟨h1,h2,h3⟩:=And.intro hR.lo (And.intro hR.hi hR.l0)
 obtain ⟨b1,b2,b3,b4⟩:=b_low
 by_cases hr:(r0:Int)<9218868437227405312
 ·obtain ⟨u1,u2,u3,u4,u5⟩:=rUp_dn (decide (r0 % 2=1)) left
  rw [rTo_low 1 hr,rTo_low 2 hr]
  by_cases hl:left=0
  ·have hA:=h3.1 hl
   rw [u5 1 g hl,u5 2 g hl,hA]
   simp only [Bool.false_eq_true,if_false,Int.add_zero]
   rw [of_pat g hr]
   exact ⟨En.le_refl _,En.le_refl _⟩
  ·have hup:∀ s:Bool,(eOf (patS (s && decide (0<(r0:Int)+1)) ((r0:Int)+1)))=if (r0:Int)+1<9218868437227405312 then ⟨0,sg s (vS (r0+1))⟩ else ⟨if s then -1 else 1,0⟩:=fun s=>by
    by_cases q:(r0:Int)+1<9218868437227405312
    ·rw [if_pos q]
     have:=of_pat s (r:=r0+1) (by omega)
     rw [Int.natCast_add] at this
     exact this
    ·rw [if_neg q]
     have e:(r0:Int)+1=9218868437227405312:=by omega
     rw [e]
     exact of_patI s
   cases g
   ·rw [u1,u4 hl]
    simp only [Bool.false_eq_true,if_false,if_true,Int.add_zero]
    rw [of_pat false hr,hup false]
    refine ⟨le_sgF h1,?_⟩
    split
    ·exact le_sgF (Int.le_of_lt h2)
    ·exact le_up _
   ·rw [u2 hl,u3]
    simp only [Bool.false_eq_true,if_false,if_true,Int.add_zero]
    rw [of_pat true hr,hup true]
    refine ⟨?_,le_sgT h1⟩
    split
    ·exact le_sgT (Int.le_of_lt h2)
    ·exact le_dn _
 ·rw [rTo_high 1 hr,rTo_high 2 hr]
  have hm:=of_pat g (r:=9218868437227405311) (by decide)
  have hv:vS 9218868437227405311<=A:=Int.le_trans (vS_mono (by omega)) h1
  have hm':eOf (patS (g && decide ((0:Int)<9218868437227405311)) 9218868437227405311)=⟨0,sg g (vS 9218868437227405311)⟩:=hm
  clear hm
  generalize vS 9218868437227405311=X at hm' hv
  cases g
  ·rw [b1,b3,hm',of_patI false]
   exact ⟨le_sgF hv,le_up _⟩
  ·rw [b2,b4,hm',of_patI true]
   exact ⟨le_dn _,le_sgT hv⟩
theorem of_zero:eOf 0=⟨0,0⟩:=by rw [of_fin (by decide),patV_zeroE.1]
theorem c_btw (V:Int):(eOf (cLo V)).le ⟨0,V⟩∧(⟨0,V⟩:En).le (eOf (cHi V)):=by
 by_cases h0:V=0
 ·subst h0
  rw [c_zero.1,c_zero.2,of_zero]
  exact ⟨En.le_refl _,En.le_refl _⟩
 ·obtain ⟨g,A,r0,left,e,hA,hR,c1,c2⟩:=c_rung h0
  rw [c1,c2,e]
  exact low_end hR
theorem le_of {p q:Int} (hp:nn p) (hq:nn q) (h:(eOf p).le (eOf q)):key p<=key q:=by
 have:=(e_mono h).1
 rw [(e_of hp).1,(e_of hq).1,(key_canon hp).1,(key_canon hq).1] at this
 exact this
theorem c_le (V:Int):key (cLo V)<=key (cHi V):=le_of (c_nn V).1 (c_nn V).2 ((c_btw V).1.le_trans (c_btw V).2)
theorem e_le (a:En):key (eLo a)<=key (eHi a):=by
 unfold eLo eHi
 split
 ·exact Int.le_refl _
 ·split
  ·exact Int.le_refl _
  ·exact c_le _
theorem c_fin (V:Int):key (cLo V)<9218868437227405312∧-9218868437227405312<key (cHi V):=by
 obtain ⟨h1,h2⟩:=c_btw V
 have n1:=(c_nn V).1
 have n2:=(c_nn V).2
 have i1:=of_le nn_inf.1 n1
 have i2:=of_le n2 nn_inf.2
 rw [key_infs.1] at i1
 rw [key_infs.2] at i2
 rw [of_inf (show rg 9218868437227405312=9218868437227405312 by decide)] at i1
 rw [of_inf (show rg (-4503599627370496)=9218868437227405312 by decide)] at i2
 constructor
 ·refine Int.lt_of_not_ge fun q=>?_
  have:=(i1 q).le_trans h1
  unfold En.le at this
  simp at this
 ·refine Int.lt_of_not_ge fun q=>?_
  have:=h2.le_trans (i2 q)
  unfold En.le at this
  simp at this
theorem e_vld {e f:En} (h:e.le f) (h1:e.i<=0) (h2:0<=f.i):vld (eLo e) (eHi f)=true:=by
 have n1:=(e_nn e).1
 have n2:=(e_nn f).2
 refine vld_iff.2 ⟨n1.2,n2.2,Int.le_trans (e_mono h).1 (e_le f),?_,?_⟩
 ·unfold eLo
  rw [if_neg (by omega)]
  split
  ·decide
  ·exact (c_fin _).1
 ·unfold eHi
  split
  ·decide
  ·rw [if_neg (by omega)]
   exact (c_fin _).2
structure Holds (e f:En) (V:Int):Prop where
 lo:e.le ⟨0,V⟩
 hi:(⟨0,V⟩:En).le f
theorem Holds.vld {e f:En} {V:Int} (h:Holds e f V):vld (eLo e) (eHi f)=true:=by
 refine e_vld (h.lo.le_trans h.hi) ?_ ?_
 ·have:=h.lo; unfold En.le at this; simp at this; omega
 ·have:=h.hi; unfold En.le at this; simp at this; omega
theorem Holds.keys {e f:En} {V:Int} (h:Holds e f V):key (eLo e)<=key (cLo V)∧key (cHi V)<=key (eHi f):=by
 have h1:=(e_mono h.lo).1
 have h2:=(e_mono h.hi).2
 unfold eLo at h1 ⊢
 unfold eHi at h2 ⊢
 exact ⟨h1,h2⟩
theorem plus_fin {a c:En} (ha:a.i=0) (hc:c.i=0):ePlus a c=⟨0,a.v+c.v⟩:=by
 unfold ePlus; rw [if_neg (fun k=>k ha),if_neg (fun k=>k hc)]
theorem plus_l {a c:En} (ha:a.i≠0):ePlus a c=a:=if_pos ha
theorem plus_r {a c:En} (ha:a.i=0) (hc:c.i≠0):ePlus a c=c:=by
 unfold ePlus; rw [if_neg (fun k=>k ha),if_pos hc]
theorem Holds.plus {a b c d:En} {x y:Int} (h:Holds a b x) (k:Holds c d y):Holds (ePlus a c) (ePlus b d) (x+y):=by
 have h1:=h.lo
 have h2:=h.hi
 have k1:=k.lo
 have k2:=k.hi
 unfold En.le at h1 h2 k1 k2
 simp only at h1 h2 k1 k2
 constructor
 ·by_cases ia:a.i=0
  ·by_cases ic:c.i=0
   ·rw [plus_fin ia ic]; exact .inr ⟨rfl,by show a.v+c.v<=x+y; omega⟩
   ·rw [plus_r ia ic]; exact .inl (by show c.i<0; omega)
  ·rw [plus_l ia]; exact .inl (by show a.i<0; omega)
 ·by_cases ib:b.i=0
  ·by_cases id:d.i=0
   ·rw [plus_fin ib id]; exact .inr ⟨rfl,by show x+y<=b.v+d.v; omega⟩
   ·rw [plus_r ib id]; exact .inl (by show 0<d.i; omega)
  ·rw [plus_l ib]; exact .inl (by show 0<b.i; omega)
theorem Holds.neg {a b:En} {x:Int} (h:Holds a b x):Holds (eNeg b) (eNeg a) (-x):=by
 have h1:=h.lo
 have h2:=h.hi
 unfold En.le at h1 h2
 simp only at h1 h2
 constructor
 ·unfold eNeg En.le; simp only; omega
 ·unfold eNeg En.le; simp only; omega
theorem Holds.times {a b c d:En} {x y:Int} (ha:a.ok) (hb:b.ok) (hc:c.ok) (hd:d.ok) (h:Holds a b x) (k:Holds c d y):Holds (eTmLo a b c d) (eTmHi a b c d) (mulS x y):=by
 have:=tm_btw ha hb hc hd (.inl rfl) (.inl rfl) h.lo h.hi k.lo k.hi
 rw [times_fin rfl rfl] at this
 exact ⟨this.1,this.2⟩
theorem Holds.square {a b:En} {x:Int} (ha:a.ok) (hb:b.ok) (h:Holds a b x):Holds (eSqLo a b) (eSqHi a b) (mulS x x):=by
 have:=sq_btw ha hb (.inl rfl) h.lo h.hi
 rw [times_fin rfl rfl] at this
 exact ⟨this.1,this.2⟩
theorem Holds.of {lo hi b:Int} (hl:nn lo) (hh:nn hi) (hb:nn b) (pb:pok b=true) (h:key lo<=key b) (k:key b<=key hi):Holds (eOf lo) (eOf hi) (patV b):=by
 have hf:¬ rg b=9218868437227405312:=by have:=(pok_rg hb.1).1 pb; omega
 have h1:=of_le hl hb h
 have h2:=of_le hb hh k
 rw [of_fin hf] at h1 h2
 exact ⟨h1,h2⟩
theorem Holds.vldP {lo hi:Int} {V:Int} (hl:nn lo) (hh:nn hi) (h:Holds (eOf lo) (eOf hi) V):M.vld lo hi=true:=by
 have hv:=h.vld
 rw [(e_of hl).1,(e_of hh).2] at hv
 obtain ⟨v1,v2,v3,v4,v5⟩:=vld_iff.1 hv
 rw [(key_canon hl).1] at v3 v4
 rw [(key_canon hh).1] at v3 v5
 exact vld_iff.2 ⟨hl.2,hh.2,v3,v4,v5⟩
theorem of_canon {p:Int} (h:nn p):eOf (canon p)=eOf p:=by
 by_cases h0:cls p=0
 ·have hz:=(cls_rg h.1).2.1 h0
  have hc:canon p=0:=by unfold canon; rw [if_neg h.2,if_pos h0]
  rw [hc,of_zero,of_fin (by omega)]
  rcases rg_zero h.1 hz with rfl | rfl
  ·rw [patV_zeroE.1]
  ·rw [patV_zeroE.2]
 ·have hc:canon p=p:=by unfold canon; rw [if_neg h.2,if_neg h0]
  rw [hc]
theorem c_sign (V:Int):(0<key (cLo V)->0<V)∧(key (cHi V)<0->V<0)∧(key (cLo V)<=0->0<=key (cHi V)->key (cLo V)=0->key (cHi V)=0->V=0):=by
 have k0:key 0=0:=by decide
 obtain ⟨h1,h2⟩:=c_btw V
 have n1:=(c_nn V).1
 have n2:=(c_nn V).2
 refine ⟨fun h=>?_,fun h=>?_,fun _ _ h k=>?_⟩
 ·refine Int.lt_of_not_ge fun q=>?_
  have:=(c_mono q).1
  rw [c_zero.1,k0] at this
  omega
 ·refine Int.lt_of_not_ge fun q=>?_
  have:=(c_mono q).2
  rw [c_zero.2,k0] at this
  omega
 ·have a:=(of_le nn0.1 n1 (by rw [k0,h]; exact Int.le_refl _)).le_trans h1
  have b:=h2.le_trans (of_le n2 nn0.1 (by rw [k0,k]; exact Int.le_refl _))
  rw [of_zero] at a b
  unfold En.le at a b
  simp only at a b
  omega
def sgV (a b:Int):Int:=if vld a b then (if 0<key a then 1 else if key b<0 then -1 else 0) else 0
def sgK (a b:Int):Bool:=vld a b && (decide (0<key a) || (decide (key b<0) || (decide (key a=0) && decide (key b=0))))
theorem ord0 {a:Int} (ha:nn a):(0<key a->FloatKind.f64.format.order (wd a) 0=some .gt)∧(key a=0->FloatKind.f64.format.order (wd a) 0=some .eq)∧(key a<0->FloatKind.f64.format.order (wd a) 0=some .lt):=by
 have w0:wd 0=0:=by decide
 have k0:key 0=0:=by decide
 refine ⟨fun g=>?_,fun g=>?_,fun g=>?_⟩
 ·have:=q_gt ha.1 nn0.1.1 ha.2 nn0.1.2 (by rw [k0]; exact g); rw [w0] at this; exact this
 ·have:=q_eq ha.1 nn0.1.1 ha.2 nn0.1.2 (by rw [k0]; exact g); rw [w0] at this; exact this
 ·have:=q_lt ha.1 nn0.1.1 ha.2 nn0.1.2 (by rw [k0]; exact g); rw [w0] at this; exact this
theorem sign_core {a b:Int} (A B:Nat) (v kn:Bool) (n:Int) (er:Int) (w:World)
  (R1:Hid (∀ W,Calls Tryz.prog 133 #[.agg #[.int .i64 a,.int .i64 b]] W fun e w'=>e=.returned (.agg #[.float .f64 A,.float .f64 B])∧Below W.heap.size W w'))
  (V1:Hid (∀ W,Calls Tryz.prog 134 #[.agg #[.float .f64 A,.float .f64 B]] W fun e w'=>e=.returned (.bool v)∧Below W.heap.size W w'))
  (O:(v=false∧n=0∧kn=false∧er=1)∨(v=true∧er=0∧((FloatKind.f64.format.order A 0=some .gt∧n=1∧kn=true)∨((FloatKind.f64.format.order A 0=some .lt∨FloatKind.f64.format.order A 0=some .eq)∧FloatKind.f64.format.order B 0=some .lt∧n=-1∧kn=true)∨(FloatKind.f64.format.order A 0=some .lt∧(FloatKind.f64.format.order B 0=some .gt∨FloatKind.f64.format.order B 0=some .eq)∧n=0∧kn=false)∨(FloatKind.f64.format.order A 0=some .eq∧FloatKind.f64.format.order B 0=some .gt∧n=0∧kn=false)∨(FloatKind.f64.format.order A 0=some .eq∧FloatKind.f64.format.order B 0=some .eq∧n=0∧kn=true)))) :
  Calls Tryz.prog 69 #[.agg #[.int .i64 a,.int .i64 b]] w fun e w'=>e=.returned (.tuple #[.int .i64 n,.bool kn,.int .i64 er])∧Below w.heap.size w w':=by
 have hst:∀ (p:Addr) (n:Nat) (m:Mode) (w:World),(store p (.float .f64 n) m).run Tryz.prog w=stored Tryz.prog w p (.float .f64 n) m:=fun p n m w=>run_store _ w p _ m rfl
 have QX:∀ (x:Nat) W,(Op.equalIn 9999 59 (.float .f64 x) (.float .f64 0)).run Tryz.prog W=.ok (FloatKind.f64.format.order x 0 == some .eq) W:=fun x W=>by rw [run_eqF W 9998 59 _ x 0 Tryz.underlying59]
 have hb:=bel_alloc w (.cells #[.int .i64 a,.int .i64 b] 72)
 rcases O with ⟨rfl,rfl,rfl,rfl⟩ | ⟨rfl,rfl,O⟩
 ·go_enter Tryz.func69,Tryz.ntmps69
  go_wp2_with fail
  generalize w.alloc (.cells #[.int .i64 a,.int .i64 b] 72)=wx at *
  refine (R1.out _).mono ?_
  rintro _ w1 ⟨rfl,hb1⟩
  have hba:=bel_alloc w1 (.cells #[.float .f64 A,.float .f64 B] 160)
  have hg:=hl_last w1 (.cells #[.float .f64 A,.float .f64 B] 160) rfl
  go_wp2_with fail
  generalize w1.alloc (.cells #[.float .f64 A,.float .f64 B] 160)=w2 at *
  refine (V1.out _).mono ?_
  rintro _ w3 ⟨rfl,hb2⟩
  go_wp2
  refine bodyPost_ret (v:=.tuple #[.int .i64 0,.bool false,.int .i64 1]) (by simp [results,Tryz.results69,go_sem]) rfl ⟨rfl,bel_trans hb (bel_trans hb1 (bel_trans hba hb2))⟩
 ·rcases O with ⟨o1,rfl,rfl⟩ | ⟨o1 | o1,o2,rfl,rfl⟩ | ⟨o1,o2 | o2,rfl,rfl⟩ | ⟨o1,o2,rfl,rfl⟩ | ⟨o1,o2,rfl,rfl⟩
  all_goals
   go_enter Tryz.func69,Tryz.ntmps69
   go_wp2_with fail
   generalize w.alloc (.cells #[.int .i64 a,.int .i64 b] 72)=wx at *
   refine (R1.out _).mono ?_
   rintro _ w1 ⟨rfl,hb1⟩
   have hba:=bel_alloc w1 (.cells #[.float .f64 A,.float .f64 B] 160)
   have hg:=hl_last w1 (.cells #[.float .f64 A,.float .f64 B] 160) rfl
   go_wp2_with fail
   generalize w1.alloc (.cells #[.float .f64 A,.float .f64 B] 160)=w2 at *
   refine (V1.out _).mono ?_
   rintro _ w3 ⟨rfl,hb2⟩
   have hg3:=(hb2.block _ (Array.getElem?_eq_some_iff.1 hg).1).trans hg
   have c0:w3.cell? ⟨w1.heap.size,0,none⟩=some (.float .f64 A):=blkC hg3 0 rfl
   have c1:w3.cell? ⟨w1.heap.size,1,none⟩=some (.float .f64 B):=blkC hg3 1 rfl
   have kd:w3.drew.cell? ⟨w1.heap.size,0,none⟩=some (.float .f64 A)∧w3.drew.cell? ⟨w1.heap.size,1,none⟩=some (.float .f64 B):=⟨c0,c1⟩
  ·go_wp2
   refine bodyPost_ret (v:=.tuple #[.int .i64 1,.bool true,.int .i64 0]) (by simp [results,Tryz.results69,go_sem]) rfl ⟨rfl,bel_trans hb (bel_trans hb1 (bel_trans hba hb2))⟩
  iterate 2
   ·go_wp2
    refine bodyPost_ret (v:=.tuple #[.int .i64 (-1),.bool true,.int .i64 0]) (by simp [results,Tryz.results69,go_sem]) rfl ⟨rfl,bel_trans hb (bel_trans hb1 (bel_trans hba hb2))⟩
  all_goals
   have QA:=fun W=>QX A W
   have QB:=fun W=>QX B W
   rw [o1] at QA
   rw [o2] at QB
   clear QX
   go_wp2_with fail
   go_region_held3 (fun W=>W.cell? ⟨w1.heap.size,0,none⟩=some (.float .f64 A)∧W.cell? ⟨w1.heap.size,1,none⟩=some (.float .f64 B)) (first | assumption | exact kd) (fail)
   go_wp2
  iterate 3
   ·exact bodyPost_ret (v:=.tuple #[.int .i64 0,.bool false,.int .i64 0]) (by simp [results,Tryz.results69,go_sem]) rfl ⟨rfl,(bel_trans hb (bel_trans hb1 (bel_trans hba hb2))).drew⟩
  ·exact bodyPost_ret (v:=.tuple #[.int .i64 0,.bool true,.int .i64 0]) (by simp [results,Tryz.results69,go_sem]) rfl ⟨rfl,(bel_trans hb (bel_trans hb1 (bel_trans hba hb2))).drew⟩
theorem spanSignE {a b:Int} (ha:rng a) (hb:rng b) (w:World) :
  Calls Tryz.prog 69 #[spn a b] w fun e w'=>e=.returned (.tuple #[.int .i64 (sgV a b),.bool (sgK a b),.int .i64 (errA (vld a b))])∧Below w.heap.size w w':=by
 refine sign_core (wd a) (wd b) (vld a b) (sgK a b) (sgV a b) (errA (vld a b)) w (fun W=>spanRead a b W) (fun W=>ivlValid ha hb W) ?_
 cases hv:vld a b
 ·left
  unfold sgV sgK errA
  rw [hv]
  simp
 ·right
  obtain ⟨va,vb,h1,h2,h3⟩:=vld_iff.1 hv
  obtain ⟨a1,a2,a3⟩:=ord0 ⟨ha,va⟩
  obtain ⟨b1,b2,b3⟩:=ord0 ⟨hb,vb⟩
  refine ⟨rfl,rfl,?_⟩
  unfold sgV sgK
  rw [hv]
  simp only [if_true,Bool.true_and]
  by_cases p1:0<key a
  ·left
   exact ⟨a1 p1,if_pos p1,by simp [p1]⟩
  ·right
   have p1':key a<0∨key a=0:=by omega
   by_cases p2:key b<0
   ·left
    exact ⟨p1'.imp a3 a2,b3 p2,by rw [if_neg p1,if_pos p2],by simp [p2]⟩
   ·right
    have q0:decide (0<key a)=false:=decide_eq_false p1
    have q1:decide (key b<0)=false:=decide_eq_false p2
    rw [if_neg p1,if_neg p2,q0,q1]
    simp only [Bool.false_or]
    rcases p1' with p3 | p3
    ·left
     refine ⟨a3 p3,?_,by first | rfl | trivial,by rw [decide_eq_false (by omega)]; rfl⟩
     rcases (show 0<key b∨key b=0 by omega) with q | q
     ·exact .inl (b1 q)
     ·exact .inr (b2 q)
    ·right
     rcases (show 0<key b∨key b=0 by omega) with q | q
     ·left
      exact ⟨a2 p3,b1 q,by first | rfl | trivial,by rw [decide_eq_false (show ¬ key b=0 by omega)]; simp⟩
     ·right
      exact ⟨a2 p3,b2 q,by first | rfl | trivial,by rw [decide_eq_true p3,decide_eq_true q]; rfl⟩
end Go.Proofs.YtjjihmnbdeeedaaGreatDoor
