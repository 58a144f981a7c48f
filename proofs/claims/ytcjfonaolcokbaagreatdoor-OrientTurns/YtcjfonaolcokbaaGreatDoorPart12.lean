/- Parts of the proof. -/
import Derived.Test.YtcjfonaolcokbaaGreatDoorPart11
set_option maxRecDepth 100000
set_option maxHeartbeats 8000000
set_option linter.unusedVariables false
set_option linter.unusedSimpArgs false
namespace Go.Proofs.YtcjfonaolcokbaaGreatDoor
open Go Go.RowKit Go.Proofs.YtcjfonaolcokbaaGreatDoor.M
theorem IE {W:World} {g:Nat} (h:W.heap[g]?=some (.cells #[.float .f64 0,.float .f64 0,.float .f64 0,.float .f64 0,.float .f64 0,.float .f64 0,.float .f64 0,.float .f64 0] 114 (0,0))) (v0 v1 v2 v3 v4 v5 v6 v7:Nat) :
  (store ⟨g,0,none⟩ (.float .f64 v0)).run Tryz.prog W=.ok () (W.setCell ⟨g,0,none⟩ (.float .f64 v0))∧(store ⟨g,1,none⟩ (.float .f64 v1)).run Tryz.prog (W.setCell ⟨g,0,none⟩ (.float .f64 v0))=.ok () ((W.setCell ⟨g,0,none⟩ (.float .f64 v0)).setCell ⟨g,1,none⟩ (.float .f64 v1))∧(store ⟨g,2,none⟩ (.float .f64 v2)).run Tryz.prog ((W.setCell ⟨g,0,none⟩ (.float .f64 v0)).setCell ⟨g,1,none⟩ (.float .f64 v1))=.ok () (((W.setCell ⟨g,0,none⟩ (.float .f64 v0)).setCell ⟨g,1,none⟩ (.float .f64 v1)).setCell ⟨g,2,none⟩ (.float .f64 v2))∧(store ⟨g,3,none⟩ (.float .f64 v3)).run Tryz.prog (((W.setCell ⟨g,0,none⟩ (.float .f64 v0)).setCell ⟨g,1,none⟩ (.float .f64 v1)).setCell ⟨g,2,none⟩ (.float .f64 v2))=.ok () ((((W.setCell ⟨g,0,none⟩ (.float .f64 v0)).setCell ⟨g,1,none⟩ (.float .f64 v1)).setCell ⟨g,2,none⟩ (.float .f64 v2)).setCell ⟨g,3,none⟩ (.float .f64 v3))∧(store ⟨g,4,none⟩ (.float .f64 v4)).run Tryz.prog ((((W.setCell ⟨g,0,none⟩ (.float .f64 v0)).setCell ⟨g,1,none⟩ (.float .f64 v1)).setCell ⟨g,2,none⟩ (.float .f64 v2)).setCell ⟨g,3,none⟩ (.float .f64 v3))=.ok () (((((W.setCell ⟨g,0,none⟩ (.float .f64 v0)).setCell ⟨g,1,none⟩ (.float .f64 v1)).setCell ⟨g,2,none⟩ (.float .f64 v2)).setCell ⟨g,3,none⟩ (.float .f64 v3)).setCell ⟨g,4,none⟩ (.float .f64 v4))∧(store ⟨g,5,none⟩ (.float .f64 v5)).run Tryz.prog (((((W.setCell ⟨g,0,none⟩ (.float .f64 v0)).setCell ⟨g,1,none⟩ (.float .f64 v1)).setCell ⟨g,2,none⟩ (.float .f64 v2)).setCell ⟨g,3,none⟩ (.float .f64 v3)).setCell ⟨g,4,none⟩ (.float .f64 v4))=.ok () ((((((W.setCell ⟨g,0,none⟩ (.float .f64 v0)).setCell ⟨g,1,none⟩ (.float .f64 v1)).setCell ⟨g,2,none⟩ (.float .f64 v2)).setCell ⟨g,3,none⟩ (.float .f64 v3)).setCell ⟨g,4,none⟩ (.float .f64 v4)).setCell ⟨g,5,none⟩ (.float .f64 v5))∧(store ⟨g,6,none⟩ (.float .f64 v6)).run Tryz.prog ((((((W.setCell ⟨g,0,none⟩ (.float .f64 v0)).setCell ⟨g,1,none⟩ (.float .f64 v1)).setCell ⟨g,2,none⟩ (.float .f64 v2)).setCell ⟨g,3,none⟩ (.float .f64 v3)).setCell ⟨g,4,none⟩ (.float .f64 v4)).setCell ⟨g,5,none⟩ (.float .f64 v5))=.ok () (((((((W.setCell ⟨g,0,none⟩ (.float .f64 v0)).setCell ⟨g,1,none⟩ (.float .f64 v1)).setCell ⟨g,2,none⟩ (.float .f64 v2)).setCell ⟨g,3,none⟩ (.float .f64 v3)).setCell ⟨g,4,none⟩ (.float .f64 v4)).setCell ⟨g,5,none⟩ (.float .f64 v5)).setCell ⟨g,6,none⟩ (.float .f64 v6))∧(store ⟨g,7,none⟩ (.float .f64 v7)).run Tryz.prog (((((((W.setCell ⟨g,0,none⟩ (.float .f64 v0)).setCell ⟨g,1,none⟩ (.float .f64 v1)).setCell ⟨g,2,none⟩ (.float .f64 v2)).setCell ⟨g,3,none⟩ (.float .f64 v3)).setCell ⟨g,4,none⟩ (.float .f64 v4)).setCell ⟨g,5,none⟩ (.float .f64 v5)).setCell ⟨g,6,none⟩ (.float .f64 v6))=.ok () ((((((((W.setCell ⟨g,0,none⟩ (.float .f64 v0)).setCell ⟨g,1,none⟩ (.float .f64 v1)).setCell ⟨g,2,none⟩ (.float .f64 v2)).setCell ⟨g,3,none⟩ (.float .f64 v3)).setCell ⟨g,4,none⟩ (.float .f64 v4)).setCell ⟨g,5,none⟩ (.float .f64 v5)).setCell ⟨g,6,none⟩ (.float .f64 v6)).setCell ⟨g,7,none⟩ (.float .f64 v7))∧((((((((W.setCell ⟨g,0,none⟩ (.float .f64 v0)).setCell ⟨g,1,none⟩ (.float .f64 v1)).setCell ⟨g,2,none⟩ (.float .f64 v2)).setCell ⟨g,3,none⟩ (.float .f64 v3)).setCell ⟨g,4,none⟩ (.float .f64 v4)).setCell ⟨g,5,none⟩ (.float .f64 v5)).setCell ⟨g,6,none⟩ (.float .f64 v6)).setCell ⟨g,7,none⟩ (.float .f64 v7)).heap[g]?=some (.cells #[.float .f64 v0,.float .f64 v1,.float .f64 v2,.float .f64 v3,.float .f64 v4,.float .f64 v5,.float .f64 v6,.float .f64 v7] 114 (0,0)):=by
 have d1:(W.setCell ⟨g,0,none⟩ (.float .f64 v0)).heap[g]?=some (.cells #[.float .f64 v0,.float .f64 0,.float .f64 0,.float .f64 0,.float .f64 0,.float .f64 0,.float .f64 0,.float .f64 0] 114 (0,0)):=aM h 0 (.float .f64 v0)
 have d2:((W.setCell ⟨g,0,none⟩ (.float .f64 v0)).setCell ⟨g,1,none⟩ (.float .f64 v1)).heap[g]?=some (.cells #[.float .f64 v0,.float .f64 v1,.float .f64 0,.float .f64 0,.float .f64 0,.float .f64 0,.float .f64 0,.float .f64 0] 114 (0,0)):=aM d1 1 (.float .f64 v1)
 have d3:(((W.setCell ⟨g,0,none⟩ (.float .f64 v0)).setCell ⟨g,1,none⟩ (.float .f64 v1)).setCell ⟨g,2,none⟩ (.float .f64 v2)).heap[g]?=some (.cells #[.float .f64 v0,.float .f64 v1,.float .f64 v2,.float .f64 0,.float .f64 0,.float .f64 0,.float .f64 0,.float .f64 0] 114 (0,0)):=aM d2 2 (.float .f64 v2)
 have d4:((((W.setCell ⟨g,0,none⟩ (.float .f64 v0)).setCell ⟨g,1,none⟩ (.float .f64 v1)).setCell ⟨g,2,none⟩ (.float .f64 v2)).setCell ⟨g,3,none⟩ (.float .f64 v3)).heap[g]?=some (.cells #[.float .f64 v0,.float .f64 v1,.float .f64 v2,.float .f64 v3,.float .f64 0,.float .f64 0,.float .f64 0,.float .f64 0] 114 (0,0)):=aM d3 3 (.float .f64 v3)
 have d5:(((((W.setCell ⟨g,0,none⟩ (.float .f64 v0)).setCell ⟨g,1,none⟩ (.float .f64 v1)).setCell ⟨g,2,none⟩ (.float .f64 v2)).setCell ⟨g,3,none⟩ (.float .f64 v3)).setCell ⟨g,4,none⟩ (.float .f64 v4)).heap[g]?=some (.cells #[.float .f64 v0,.float .f64 v1,.float .f64 v2,.float .f64 v3,.float .f64 v4,.float .f64 0,.float .f64 0,.float .f64 0] 114 (0,0)):=aM d4 4 (.float .f64 v4)
 have d6:((((((W.setCell ⟨g,0,none⟩ (.float .f64 v0)).setCell ⟨g,1,none⟩ (.float .f64 v1)).setCell ⟨g,2,none⟩ (.float .f64 v2)).setCell ⟨g,3,none⟩ (.float .f64 v3)).setCell ⟨g,4,none⟩ (.float .f64 v4)).setCell ⟨g,5,none⟩ (.float .f64 v5)).heap[g]?=some (.cells #[.float .f64 v0,.float .f64 v1,.float .f64 v2,.float .f64 v3,.float .f64 v4,.float .f64 v5,.float .f64 0,.float .f64 0] 114 (0,0)):=aM d5 5 (.float .f64 v5)
 have d7:(((((((W.setCell ⟨g,0,none⟩ (.float .f64 v0)).setCell ⟨g,1,none⟩ (.float .f64 v1)).setCell ⟨g,2,none⟩ (.float .f64 v2)).setCell ⟨g,3,none⟩ (.float .f64 v3)).setCell ⟨g,4,none⟩ (.float .f64 v4)).setCell ⟨g,5,none⟩ (.float .f64 v5)).setCell ⟨g,6,none⟩ (.float .f64 v6)).heap[g]?=some (.cells #[.float .f64 v0,.float .f64 v1,.float .f64 v2,.float .f64 v3,.float .f64 v4,.float .f64 v5,.float .f64 v6,.float .f64 0] 114 (0,0)):=aM d6 6 (.float .f64 v6)
 have d8:((((((((W.setCell ⟨g,0,none⟩ (.float .f64 v0)).setCell ⟨g,1,none⟩ (.float .f64 v1)).setCell ⟨g,2,none⟩ (.float .f64 v2)).setCell ⟨g,3,none⟩ (.float .f64 v3)).setCell ⟨g,4,none⟩ (.float .f64 v4)).setCell ⟨g,5,none⟩ (.float .f64 v5)).setCell ⟨g,6,none⟩ (.float .f64 v6)).setCell ⟨g,7,none⟩ (.float .f64 v7)).heap[g]?=some (.cells #[.float .f64 v0,.float .f64 v1,.float .f64 v2,.float .f64 v3,.float .f64 v4,.float .f64 v5,.float .f64 v6,.float .f64 v7] 114 (0,0)):=aM d7 7 (.float .f64 v7)
 refine ⟨?_,?_,?_,?_,?_,?_,?_,?_,d8⟩
 ·have f:=ac h 0 rfl
  have z:=aw h 0
  rw [run_store _ _ _ _ _ rfl,f]; simp only [z]; rfl
 ·have f:=ac d1 1 rfl
  have z:=aw d1 1
  rw [run_store _ _ _ _ _ rfl,f]; simp only [z]; rfl
 ·have f:=ac d2 2 rfl
  have z:=aw d2 2
  rw [run_store _ _ _ _ _ rfl,f]; simp only [z]; rfl
 ·have f:=ac d3 3 rfl
  have z:=aw d3 3
  rw [run_store _ _ _ _ _ rfl,f]; simp only [z]; rfl
 ·have f:=ac d4 4 rfl
  have z:=aw d4 4
  rw [run_store _ _ _ _ _ rfl,f]; simp only [z]; rfl
 ·have f:=ac d5 5 rfl
  have z:=aw d5 5
  rw [run_store _ _ _ _ _ rfl,f]; simp only [z]; rfl
 ·have f:=ac d6 6 rfl
  have z:=aw d6 6
  rw [run_store _ _ _ _ _ rfl,f]; simp only [z]; rfl
 ·have f:=ac d7 7 rfl
  have z:=aw d7 7
  rw [run_store _ _ _ _ _ rfl,f]; simp only [z]; rfl
theorem Oz (W:World) (v0 v1 v2 v3 v4 v5 v6 v7:Nat) :
  (store ⟨W.heap.size,0,none⟩ (.float .f64 v0)).run Tryz.prog (W.alloc (.cells #[.float .f64 0,.float .f64 0,.float .f64 0,.float .f64 0,.float .f64 0,.float .f64 0,.float .f64 0,.float .f64 0] 114))=.ok () (W.alloc (.cells #[.float .f64 v0,.float .f64 0,.float .f64 0,.float .f64 0,.float .f64 0,.float .f64 0,.float .f64 0,.float .f64 0] 114))∧(store ⟨W.heap.size,1,none⟩ (.float .f64 v1)).run Tryz.prog (W.alloc (.cells #[.float .f64 v0,.float .f64 0,.float .f64 0,.float .f64 0,.float .f64 0,.float .f64 0,.float .f64 0,.float .f64 0] 114))=.ok () (W.alloc (.cells #[.float .f64 v0,.float .f64 v1,.float .f64 0,.float .f64 0,.float .f64 0,.float .f64 0,.float .f64 0,.float .f64 0] 114))∧(store ⟨W.heap.size,2,none⟩ (.float .f64 v2)).run Tryz.prog (W.alloc (.cells #[.float .f64 v0,.float .f64 v1,.float .f64 0,.float .f64 0,.float .f64 0,.float .f64 0,.float .f64 0,.float .f64 0] 114))=.ok () (W.alloc (.cells #[.float .f64 v0,.float .f64 v1,.float .f64 v2,.float .f64 0,.float .f64 0,.float .f64 0,.float .f64 0,.float .f64 0] 114))∧(store ⟨W.heap.size,3,none⟩ (.float .f64 v3)).run Tryz.prog (W.alloc (.cells #[.float .f64 v0,.float .f64 v1,.float .f64 v2,.float .f64 0,.float .f64 0,.float .f64 0,.float .f64 0,.float .f64 0] 114))=.ok () (W.alloc (.cells #[.float .f64 v0,.float .f64 v1,.float .f64 v2,.float .f64 v3,.float .f64 0,.float .f64 0,.float .f64 0,.float .f64 0] 114))∧(store ⟨W.heap.size,4,none⟩ (.float .f64 v4)).run Tryz.prog (W.alloc (.cells #[.float .f64 v0,.float .f64 v1,.float .f64 v2,.float .f64 v3,.float .f64 0,.float .f64 0,.float .f64 0,.float .f64 0] 114))=.ok () (W.alloc (.cells #[.float .f64 v0,.float .f64 v1,.float .f64 v2,.float .f64 v3,.float .f64 v4,.float .f64 0,.float .f64 0,.float .f64 0] 114))∧(store ⟨W.heap.size,5,none⟩ (.float .f64 v5)).run Tryz.prog (W.alloc (.cells #[.float .f64 v0,.float .f64 v1,.float .f64 v2,.float .f64 v3,.float .f64 v4,.float .f64 0,.float .f64 0,.float .f64 0] 114))=.ok () (W.alloc (.cells #[.float .f64 v0,.float .f64 v1,.float .f64 v2,.float .f64 v3,.float .f64 v4,.float .f64 v5,.float .f64 0,.float .f64 0] 114))∧(store ⟨W.heap.size,6,none⟩ (.float .f64 v6)).run Tryz.prog (W.alloc (.cells #[.float .f64 v0,.float .f64 v1,.float .f64 v2,.float .f64 v3,.float .f64 v4,.float .f64 v5,.float .f64 0,.float .f64 0] 114))=.ok () (W.alloc (.cells #[.float .f64 v0,.float .f64 v1,.float .f64 v2,.float .f64 v3,.float .f64 v4,.float .f64 v5,.float .f64 v6,.float .f64 0] 114))∧(store ⟨W.heap.size,7,none⟩ (.float .f64 v7)).run Tryz.prog (W.alloc (.cells #[.float .f64 v0,.float .f64 v1,.float .f64 v2,.float .f64 v3,.float .f64 v4,.float .f64 v5,.float .f64 v6,.float .f64 0] 114))=.ok () (W.alloc (.cells #[.float .f64 v0,.float .f64 v1,.float .f64 v2,.float .f64 v3,.float .f64 v4,.float .f64 v5,.float .f64 v6,.float .f64 v7] 114)):=by
 refine ⟨?_,?_,?_,?_,?_,?_,?_,?_⟩
 ·have h:=aB W (.cells #[.float .f64 0,.float .f64 0,.float .f64 0,.float .f64 0,.float .f64 0,.float .f64 0,.float .f64 0,.float .f64 0] 114)
  have f:=ac h 0 rfl
  have z:=aw h 0
  have e:(W.alloc (.cells #[.float .f64 0,.float .f64 0,.float .f64 0,.float .f64 0,.float .f64 0,.float .f64 0,.float .f64 0,.float .f64 0] 114)).setCell ⟨W.heap.size,0,none⟩ (.float .f64 v0)=W.alloc (.cells #[.float .f64 v0,.float .f64 0,.float .f64 0,.float .f64 0,.float .f64 0,.float .f64 0,.float .f64 0,.float .f64 0] 114):=by
   rw [World.setCell_alloc_at _ _ _ _ _ rfl]
   rfl
  rw [run_store _ _ _ _ _ rfl,f]; simp only [z]
  rw [<- e]
  rfl
 ·have h:=aB W (.cells #[.float .f64 v0,.float .f64 0,.float .f64 0,.float .f64 0,.float .f64 0,.float .f64 0,.float .f64 0,.float .f64 0] 114)
  have f:=ac h 1 rfl
  have z:=aw h 1
  have e:(W.alloc (.cells #[.float .f64 v0,.float .f64 0,.float .f64 0,.float .f64 0,.float .f64 0,.float .f64 0,.float .f64 0,.float .f64 0] 114)).setCell ⟨W.heap.size,1,none⟩ (.float .f64 v1)=W.alloc (.cells #[.float .f64 v0,.float .f64 v1,.float .f64 0,.float .f64 0,.float .f64 0,.float .f64 0,.float .f64 0,.float .f64 0] 114):=by
   rw [World.setCell_alloc_at _ _ _ _ _ rfl]
   rfl
  rw [run_store _ _ _ _ _ rfl,f]; simp only [z]
  rw [<- e]
  rfl
 ·have h:=aB W (.cells #[.float .f64 v0,.float .f64 v1,.float .f64 0,.float .f64 0,.float .f64 0,.float .f64 0,.float .f64 0,.float .f64 0] 114)
  have f:=ac h 2 rfl
  have z:=aw h 2
  have e:(W.alloc (.cells #[.float .f64 v0,.float .f64 v1,.float .f64 0,.float .f64 0,.float .f64 0,.float .f64 0,.float .f64 0,.float .f64 0] 114)).setCell ⟨W.heap.size,2,none⟩ (.float .f64 v2)=W.alloc (.cells #[.float .f64 v0,.float .f64 v1,.float .f64 v2,.float .f64 0,.float .f64 0,.float .f64 0,.float .f64 0,.float .f64 0] 114):=by
   rw [World.setCell_alloc_at _ _ _ _ _ rfl]
   rfl
  rw [run_store _ _ _ _ _ rfl,f]; simp only [z]
  rw [<- e]
  rfl
 ·have h:=aB W (.cells #[.float .f64 v0,.float .f64 v1,.float .f64 v2,.float .f64 0,.float .f64 0,.float .f64 0,.float .f64 0,.float .f64 0] 114)
  have f:=ac h 3 rfl
  have z:=aw h 3
  have e:(W.alloc (.cells #[.float .f64 v0,.float .f64 v1,.float .f64 v2,.float .f64 0,.float .f64 0,.float .f64 0,.float .f64 0,.float .f64 0] 114)).setCell ⟨W.heap.size,3,none⟩ (.float .f64 v3)=W.alloc (.cells #[.float .f64 v0,.float .f64 v1,.float .f64 v2,.float .f64 v3,.float .f64 0,.float .f64 0,.float .f64 0,.float .f64 0] 114):=by
   rw [World.setCell_alloc_at _ _ _ _ _ rfl]
   rfl
  rw [run_store _ _ _ _ _ rfl,f]; simp only [z]
  rw [<- e]
  rfl
 ·have h:=aB W (.cells #[.float .f64 v0,.float .f64 v1,.float .f64 v2,.float .f64 v3,.float .f64 0,.float .f64 0,.float .f64 0,.float .f64 0] 114)
  have f:=ac h 4 rfl
  have z:=aw h 4
  have e:(W.alloc (.cells #[.float .f64 v0,.float .f64 v1,.float .f64 v2,.float .f64 v3,.float .f64 0,.float .f64 0,.float .f64 0,.float .f64 0] 114)).setCell ⟨W.heap.size,4,none⟩ (.float .f64 v4)=W.alloc (.cells #[.float .f64 v0,.float .f64 v1,.float .f64 v2,.float .f64 v3,.float .f64 v4,.float .f64 0,.float .f64 0,.float .f64 0] 114):=by
   rw [World.setCell_alloc_at _ _ _ _ _ rfl]
   rfl
  rw [run_store _ _ _ _ _ rfl,f]; simp only [z]
  rw [<- e]
  rfl
 ·have h:=aB W (.cells #[.float .f64 v0,.float .f64 v1,.float .f64 v2,.float .f64 v3,.float .f64 v4,.float .f64 0,.float .f64 0,.float .f64 0] 114)
  have f:=ac h 5 rfl
  have z:=aw h 5
  have e:(W.alloc (.cells #[.float .f64 v0,.float .f64 v1,.float .f64 v2,.float .f64 v3,.float .f64 v4,.float .f64 0,.float .f64 0,.float .f64 0] 114)).setCell ⟨W.heap.size,5,none⟩ (.float .f64 v5)=W.alloc (.cells #[.float .f64 v0,.float .f64 v1,.float .f64 v2,.float .f64 v3,.float .f64 v4,.float .f64 v5,.float .f64 0,.float .f64 0] 114):=by
   rw [World.setCell_alloc_at _ _ _ _ _ rfl]
   rfl
  rw [run_store _ _ _ _ _ rfl,f]; simp only [z]
  rw [<- e]
  rfl
 ·have h:=aB W (.cells #[.float .f64 v0,.float .f64 v1,.float .f64 v2,.float .f64 v3,.float .f64 v4,.float .f64 v5,.float .f64 0,.float .f64 0] 114)
  have f:=ac h 6 rfl
  have z:=aw h 6
  have e:(W.alloc (.cells #[.float .f64 v0,.float .f64 v1,.float .f64 v2,.float .f64 v3,.float .f64 v4,.float .f64 v5,.float .f64 0,.float .f64 0] 114)).setCell ⟨W.heap.size,6,none⟩ (.float .f64 v6)=W.alloc (.cells #[.float .f64 v0,.float .f64 v1,.float .f64 v2,.float .f64 v3,.float .f64 v4,.float .f64 v5,.float .f64 v6,.float .f64 0] 114):=by
   rw [World.setCell_alloc_at _ _ _ _ _ rfl]
   rfl
  rw [run_store _ _ _ _ _ rfl,f]; simp only [z]
  rw [<- e]
  rfl
 ·have h:=aB W (.cells #[.float .f64 v0,.float .f64 v1,.float .f64 v2,.float .f64 v3,.float .f64 v4,.float .f64 v5,.float .f64 v6,.float .f64 0] 114)
  have f:=ac h 7 rfl
  have z:=aw h 7
  have e:(W.alloc (.cells #[.float .f64 v0,.float .f64 v1,.float .f64 v2,.float .f64 v3,.float .f64 v4,.float .f64 v5,.float .f64 v6,.float .f64 0] 114)).setCell ⟨W.heap.size,7,none⟩ (.float .f64 v7)=W.alloc (.cells #[.float .f64 v0,.float .f64 v1,.float .f64 v2,.float .f64 v3,.float .f64 v4,.float .f64 v5,.float .f64 v6,.float .f64 v7] 114):=by
   rw [World.setCell_alloc_at _ _ _ _ _ rfl]
   rfl
  rw [run_store _ _ _ _ _ rfl,f]; simp only [z]
  rw [<- e]
  rfl
theorem qC {w0 w:World} {g:Nat} (h:Below w0.heap.size w0 w) (hg:w0.heap.size<=g) (a b c d e f i j:Value):Below w0.heap.size w0 ((((((((w.setCell ⟨g,0,none⟩ a).setCell ⟨g,1,none⟩ b).setCell ⟨g,2,none⟩ c).setCell ⟨g,3,none⟩ d).setCell ⟨g,4,none⟩ e).setCell ⟨g,5,none⟩ f).setCell ⟨g,6,none⟩ i).setCell ⟨g,7,none⟩ j) :=
 (((((((h.setCell (p:=⟨g,0,none⟩) hg a).setCell (p:=⟨g,1,none⟩) hg b).setCell (p:=⟨g,2,none⟩) hg c).setCell (p:=⟨g,3,none⟩) hg d).setCell (p:=⟨g,4,none⟩) hg e).setCell (p:=⟨g,5,none⟩) hg f).setCell (p:=⟨g,6,none⟩) hg i).setCell (p:=⟨g,7,none⟩) hg j
theorem EV {a b c d:Nat} (LO HI EL EH:Nat->Nat) (w:World) (H:aD w)
    (S0:Hid (∀ W,aD W->Calls Tryz.prog 76 #[.float .f64 a,.float .f64 c] W fun e w'=>e=.returned (.agg #[.float .f64 (LO 0),.float .f64 (HI 0)])∧Below W.heap.size W w'))
    (S1:Hid (∀ W,aD W->Calls Tryz.prog 76 #[.float .f64 a,.float .f64 d] W fun e w'=>e=.returned (.agg #[.float .f64 (EL 0),.float .f64 (EH 0)])∧Below W.heap.size W w'))
    (S2:Hid (∀ W,aD W->Calls Tryz.prog 76 #[.float .f64 b,.float .f64 c] W fun e w'=>e=.returned (.agg #[.float .f64 (EL 1),.float .f64 (EH 1)])∧Below W.heap.size W w'))
    (S3:Hid (∀ W,aD W->Calls Tryz.prog 76 #[.float .f64 b,.float .f64 d] W fun e w'=>e=.returned (.agg #[.float .f64 (EL 2),.float .f64 (EH 2)])∧Below W.heap.size W w'))
    (J:Hid (∀ k,k<3->∀ W,Calls Tryz.prog 77 #[.agg #[.float .f64 (LO k),.float .f64 (HI k)],.agg #[.float .f64 (EL k),.float .f64 (EH k)]] W fun e w'=>e=.returned (.agg #[.float .f64 (LO (k+1)),.float .f64 (HI (k+1))])∧Below W.heap.size W w')) :
    Calls Tryz.prog 50 #[.agg #[.float .f64 a,.float .f64 b],.agg #[.float .f64 c,.float .f64 d]] w fun e w'=>e=.returned (.agg #[.float .f64 (LO 3),.float .f64 (HI 3)])∧Below w.heap.size w w':=by
  obtain ⟨q0,q1,q2,hs,hb3⟩:=oY w (.cells #[.float .f64 a,.float .f64 b] 87) (.cells #[.float .f64 c,.float .f64 d] 87) (.cells #[.float .f64 0,.float .f64 0] 87)
  go_enter Tryz.func50,Tryz.ntmps50
  go_wp2_with fail
  generalize (((w.alloc (.cells #[.float .f64 a,.float .f64 b] 87)).alloc (.cells #[.float .f64 c,.float .f64 d] 87)).alloc (.cells #[.float .f64 0,.float .f64 0] 87))=wx3 at q0 q1 q2 hs hb3 ⊢
  have KK:∀ W,Below wx3.heap.size wx3 W->W.cell? ⟨w.heap.size,0,none⟩=some (.float .f64 a)∧W.cell? ⟨w.heap.size,1,none⟩=some (.float .f64 b)∧W.cell? ⟨w.heap.size+1,0,none⟩=some (.float .f64 c)∧W.cell? ⟨w.heap.size+1,1,none⟩=some (.float .f64 d):=fun W hb=>⟨ac (cV hb q0) 0 rfl,ac (cV hb q0) 1 rfl,ac (cV hb q1) 0 rfl,ac (cV hb q1) 1 rfl⟩
  clear q0 q1 hs
  rename_i Q0 K1 hK1
  have HN:∀ (gE:Nat) (X:World) (t:Array Value),#[t.getD 0 undef,t.getD 1 undef,t.getD 2 undef,t.getD 3 undef,.pointer (some ⟨w.heap.size+1+1,0,none⟩),.pointer (some ⟨gE,0,none⟩),t.getD 6 undef,t.getD 7 undef,t.getD 8 undef,t.getD 9 undef,t.getD 10 undef,t.getD 11 undef,t.getD 12 undef,t.getD 13 undef,t.getD 14 undef,t.getD 15 undef,t.getD 16 undef,t.getD 17 undef,t.getD 18 undef,t.getD 19 undef,t.getD 20 undef,t.getD 21 undef,t.getD 22 undef,t.getD 23 undef,t.getD 24 undef,t.getD 25 undef,t.getD 26 undef,t.getD 27 undef,t.getD 28 undef,t.getD 29 undef,t.getD 30 undef,t.getD 31 undef,t.getD 32 undef,t.getD 33 undef,t.getD 34 undef,t.getD 35 undef,t.getD 36 undef,t.getD 37 undef,t.getD 38 undef,t.getD 39 undef,t.getD 40 undef,t.getD 41 undef,t.getD 42 undef]=t->X.heap[gE]?=some (.cells #[.float .f64 (LO 0),.float .f64 (HI 0),.float .f64 (EL 0),.float .f64 (EH 0),.float .f64 (EL 1),.float .f64 (EH 1),.float .f64 (EL 2),.float .f64 (EH 2)] 114 (0,0))->Below wx3.heap.size wx3 X->wx3.heap.size<=gE->Exit.then K1 Q0 Exit.normal { tmps:=t,defers:=[] } X:=by
    intro gE X t ht n_k hX hgE
    obtain ⟨u,hu⟩:∃ u:Nat->Value,t=#[u 0,u 1,u 2,u 3,.pointer (some ⟨w.heap.size+1+1,0,none⟩),.pointer (some ⟨gE,0,none⟩),u 6,u 7,u 8,u 9,u 10,u 11,u 12,u 13,u 14,u 15,u 16,u 17,u 18,u 19,u 20,u 21,u 22,u 23,u 24,u 25,u 26,u 27,u 28,u 29,u 30,u 31,u 32,u 33,u 34,u 35,u 36,u 37,u 38,u 39,u 40,u 41,u 42]:=⟨fun k=>t.getD k undef,ht.symm⟩
    clear ht
    subst hu
    clear S0 S1 S2 S3 KK
    have hst:∀ (p:Addr) (x:Nat) (m:Mode) (w:World),(store p (.float .f64 x) m).run Tryz.prog w=stored Tryz.prog w p (.float .f64 x) m:=fun p x m w=>run_store _ w p _ m rfl
    have hgl:=(Array.getElem?_eq_some_iff.1 n_k).1
    have c0:=ac n_k 0 rfl
    have c1:=ac n_k 1 rfl
    have hA:=aB X (.cells #[.float .f64 (LO 0),.float .f64 (HI 0)] 87)
    have hE:=az (.cells #[.float .f64 (LO 0),.float .f64 (HI 0)] 87) n_k
    have hB:=jy hX (.cells #[.float .f64 (LO 0),.float .f64 (HI 0)] 87)
    have hXz:=hX.size
    go_wp2_with fail
    generalize X.alloc (.cells #[.float .f64 (LO 0),.float .f64 (HI 0)] 87)=x5 at hA hE hB ⊢
    clear c0 c1 n_k
    go_loopw [34] (fun iv wr=>∃ k:Nat,k<=3∧iv=.int .i64 k∧Hid (wr.heap[X.heap.size]?=some (.cells #[.float .f64 (LO k),.float .f64 (HI k)] 87 (0,0)))∧Hid (wr.heap[gE]?=some (.cells #[.float .f64 (LO 0),.float .f64 (HI 0),.float .f64 (EL 0),.float .f64 (EH 0),.float .f64 (EL 1),.float .f64 (EH 1),.float .f64 (EL 2),.float .f64 (EH 2)] 114 (0,0)))∧Hid (Below wx3.heap.size wx3 wr)) (fun iv _=>3-(intOf iv).toNat)
    case atStart=>exact ⟨0,by omega,rfl,hA,hE,hB⟩
    case round=>
      obtain ⟨k,hk,rfl,HA,HE,HB⟩:=hrel
      clear hA hE hB
      by_cases hlt:k<3
      · have CJ:Hid _:=J.out k hlt
        have h3:k=0∨k=1∨k=2:=by omega
        rcases h3 with rfl | rfl | rfl
        · have e2:=ac HE.out 2 rfl
          have e3:=ac HE.out 3 rfl
          have P0:=aB wr (.cells #[.float .f64 (EL 0),.float .f64 (EH 0)] 87)
          have A1:=az (.cells #[.float .f64 (EL 0),.float .f64 (EH 0)] 87) HA.out
          have E1:=az (.cells #[.float .f64 (EL 0),.float .f64 (EH 0)] 87) HE.out
          have B1:=jy HB.out (.cells #[.float .f64 (EL 0),.float .f64 (EH 0)] 87)
          have p0:=ac P0 0 rfl
          have p1:=ac P0 1 rfl
          have a0:=ac A1 0 rfl
          have a1:=ac A1 1 rfl
          go_wp2_with fail
          refine (CJ.out _).mono ?_
          rintro _ w7 ⟨rfl,hb7⟩
          have A7:=cV hb7 A1
          have E7:=cV hb7 E1
          have B7:=aa B1 hb7
          have A8:=aM A7 0 (.float .f64 (LO 1))
          have A9:=aM A8 1 (.float .f64 (HI 1))
          have f0:=ac A7 0 rfl
          have z0:=aw A7 0
          have f1:=ac A8 1 rfl
          have z1:=aw A8 1
          have s0:(store ⟨X.heap.size,0,none⟩ (.float .f64 (LO 1))).run Tryz.prog w7=.ok () (w7.setCell ⟨X.heap.size,0,none⟩ (.float .f64 (LO 1))):=by rw [run_store _ _ _ _ _ rfl,f0]; simp only [z0]; rfl
          have s1:(store ⟨X.heap.size,1,none⟩ (.float .f64 (HI 1))).run Tryz.prog (w7.setCell ⟨X.heap.size,0,none⟩ (.float .f64 (LO 1)))=.ok () ((w7.setCell ⟨X.heap.size,0,none⟩ (.float .f64 (LO 1))).setCell ⟨X.heap.size,1,none⟩ (.float .f64 (HI 1))):=by rw [run_store _ _ _ _ _ rfl,f1]; simp only [z1]; rfl
          have HA9:=cH A9
          have HE9:Hid (((w7.setCell ⟨X.heap.size,0,none⟩ (.float .f64 (LO 1))).setCell ⟨X.heap.size,1,none⟩ (.float .f64 (HI 1))).heap[gE]?=some (.cells #[.float .f64 (LO 0),.float .f64 (HI 0),.float .f64 (EL 0),.float .f64 (EH 0),.float .f64 (EL 1),.float .f64 (EH 1),.float .f64 (EL 2),.float .f64 (EH 2)] 114 (0,0))):=by
            show _=_
            rw [heap_setCell_other _ ⟨X.heap.size,_,none⟩ gE _ (by show gE≠X.heap.size; omega),heap_setCell_other _ ⟨X.heap.size,_,none⟩ gE _ (by show gE≠X.heap.size; omega)]
            exact E7
          have HB9:=cH ((B7.setCell (p:=⟨X.heap.size,0,none⟩) hXz (.float .f64 (LO 1))).setCell (p:=⟨X.heap.size,1,none⟩) hXz (.float .f64 (HI 1)))
          clear A7 A8 A9 E7 B7 A1 E1 B1 P0
          go_wp2
          go_roundw
          case rel=>exact ⟨1,by omega,by go_num,HA9.out,HE9.out,HB9.out⟩
          case measure=>simp [intOf]
        · have e2:=ac HE.out 4 rfl
          have e3:=ac HE.out 5 rfl
          have P0:=aB wr (.cells #[.float .f64 (EL 1),.float .f64 (EH 1)] 87)
          have A1:=az (.cells #[.float .f64 (EL 1),.float .f64 (EH 1)] 87) HA.out
          have E1:=az (.cells #[.float .f64 (EL 1),.float .f64 (EH 1)] 87) HE.out
          have B1:=jy HB.out (.cells #[.float .f64 (EL 1),.float .f64 (EH 1)] 87)
          have p0:=ac P0 0 rfl
          have p1:=ac P0 1 rfl
          have a0:=ac A1 0 rfl
          have a1:=ac A1 1 rfl
          go_wp2_with fail
          refine (CJ.out _).mono ?_
          rintro _ w7 ⟨rfl,hb7⟩
          have A7:=cV hb7 A1
          have E7:=cV hb7 E1
          have B7:=aa B1 hb7
          have A8:=aM A7 0 (.float .f64 (LO 2))
          have A9:=aM A8 1 (.float .f64 (HI 2))
          have f0:=ac A7 0 rfl
          have z0:=aw A7 0
          have f1:=ac A8 1 rfl
          have z1:=aw A8 1
          have s0:(store ⟨X.heap.size,0,none⟩ (.float .f64 (LO 2))).run Tryz.prog w7=.ok () (w7.setCell ⟨X.heap.size,0,none⟩ (.float .f64 (LO 2))):=by rw [run_store _ _ _ _ _ rfl,f0]; simp only [z0]; rfl
          have s1:(store ⟨X.heap.size,1,none⟩ (.float .f64 (HI 2))).run Tryz.prog (w7.setCell ⟨X.heap.size,0,none⟩ (.float .f64 (LO 2)))=.ok () ((w7.setCell ⟨X.heap.size,0,none⟩ (.float .f64 (LO 2))).setCell ⟨X.heap.size,1,none⟩ (.float .f64 (HI 2))):=by rw [run_store _ _ _ _ _ rfl,f1]; simp only [z1]; rfl
          have HA9:=cH A9
          have HE9:Hid (((w7.setCell ⟨X.heap.size,0,none⟩ (.float .f64 (LO 2))).setCell ⟨X.heap.size,1,none⟩ (.float .f64 (HI 2))).heap[gE]?=some (.cells #[.float .f64 (LO 0),.float .f64 (HI 0),.float .f64 (EL 0),.float .f64 (EH 0),.float .f64 (EL 1),.float .f64 (EH 1),.float .f64 (EL 2),.float .f64 (EH 2)] 114 (0,0))):=by
            show _=_
            rw [heap_setCell_other _ ⟨X.heap.size,_,none⟩ gE _ (by show gE≠X.heap.size; omega),heap_setCell_other _ ⟨X.heap.size,_,none⟩ gE _ (by show gE≠X.heap.size; omega)]
            exact E7
          have HB9:=cH ((B7.setCell (p:=⟨X.heap.size,0,none⟩) hXz (.float .f64 (LO 2))).setCell (p:=⟨X.heap.size,1,none⟩) hXz (.float .f64 (HI 2)))
          clear A7 A8 A9 E7 B7 A1 E1 B1 P0
          go_wp2
          go_roundw
          case rel=>exact ⟨2,by omega,by go_num,HA9.out,HE9.out,HB9.out⟩
          case measure=>simp [intOf]
        · have e2:=ac HE.out 6 rfl
          have e3:=ac HE.out 7 rfl
          have P0:=aB wr (.cells #[.float .f64 (EL 2),.float .f64 (EH 2)] 87)
          have A1:=az (.cells #[.float .f64 (EL 2),.float .f64 (EH 2)] 87) HA.out
          have E1:=az (.cells #[.float .f64 (EL 2),.float .f64 (EH 2)] 87) HE.out
          have B1:=jy HB.out (.cells #[.float .f64 (EL 2),.float .f64 (EH 2)] 87)
          have p0:=ac P0 0 rfl
          have p1:=ac P0 1 rfl
          have a0:=ac A1 0 rfl
          have a1:=ac A1 1 rfl
          go_wp2_with fail
          refine (CJ.out _).mono ?_
          rintro _ w7 ⟨rfl,hb7⟩
          have A7:=cV hb7 A1
          have E7:=cV hb7 E1
          have B7:=aa B1 hb7
          have A8:=aM A7 0 (.float .f64 (LO 3))
          have A9:=aM A8 1 (.float .f64 (HI 3))
          have f0:=ac A7 0 rfl
          have z0:=aw A7 0
          have f1:=ac A8 1 rfl
          have z1:=aw A8 1
          have s0:(store ⟨X.heap.size,0,none⟩ (.float .f64 (LO 3))).run Tryz.prog w7=.ok () (w7.setCell ⟨X.heap.size,0,none⟩ (.float .f64 (LO 3))):=by rw [run_store _ _ _ _ _ rfl,f0]; simp only [z0]; rfl
          have s1:(store ⟨X.heap.size,1,none⟩ (.float .f64 (HI 3))).run Tryz.prog (w7.setCell ⟨X.heap.size,0,none⟩ (.float .f64 (LO 3)))=.ok () ((w7.setCell ⟨X.heap.size,0,none⟩ (.float .f64 (LO 3))).setCell ⟨X.heap.size,1,none⟩ (.float .f64 (HI 3))):=by rw [run_store _ _ _ _ _ rfl,f1]; simp only [z1]; rfl
          have HA9:=cH A9
          have HE9:Hid (((w7.setCell ⟨X.heap.size,0,none⟩ (.float .f64 (LO 3))).setCell ⟨X.heap.size,1,none⟩ (.float .f64 (HI 3))).heap[gE]?=some (.cells #[.float .f64 (LO 0),.float .f64 (HI 0),.float .f64 (EL 0),.float .f64 (EH 0),.float .f64 (EL 1),.float .f64 (EH 1),.float .f64 (EL 2),.float .f64 (EH 2)] 114 (0,0))):=by
            show _=_
            rw [heap_setCell_other _ ⟨X.heap.size,_,none⟩ gE _ (by show gE≠X.heap.size; omega),heap_setCell_other _ ⟨X.heap.size,_,none⟩ gE _ (by show gE≠X.heap.size; omega)]
            exact E7
          have HB9:=cH ((B7.setCell (p:=⟨X.heap.size,0,none⟩) hXz (.float .f64 (LO 3))).setCell (p:=⟨X.heap.size,1,none⟩) hXz (.float .f64 (HI 3)))
          clear A7 A8 A9 E7 B7 A1 E1 B1 P0
          go_wp2
          go_roundw
          case rel=>exact ⟨3,by omega,by go_num,HA9.out,HE9.out,HB9.out⟩
          case measure=>simp [intOf]
      · obtain rfl:k=3:=by omega
        have a0:=ac HA.out 0 rfl
        have a1:=ac HA.out 1 rfl
        have r_k:=cV HB.out q2
        have d3:=aM r_k 0 (.float .f64 (LO 3))
        have d4:=aM d3 1 (.float .f64 (HI 3))
        have f0:=ac r_k 0 rfl
        have z0:=aw r_k 0
        have f1:=ac d3 1 rfl
        have z1:=aw d3 1
        have e0:=ac d4 0 rfl
        have e1:=ac d4 1 rfl
        have s0:(store ⟨w.heap.size+1+1,0,none⟩ (.float .f64 (LO 3))).run Tryz.prog wr=.ok () (wr.setCell ⟨w.heap.size+1+1,0,none⟩ (.float .f64 (LO 3))):=by rw [run_store _ _ _ _ _ rfl,f0]; simp only [z0]; rfl
        have s1:(store ⟨w.heap.size+1+1,1,none⟩ (.float .f64 (HI 3))).run Tryz.prog (wr.setCell ⟨w.heap.size+1+1,0,none⟩ (.float .f64 (LO 3)))=.ok () ((wr.setCell ⟨w.heap.size+1+1,0,none⟩ (.float .f64 (LO 3))).setCell ⟨w.heap.size+1+1,1,none⟩ (.float .f64 (HI 3))):=by rw [run_store _ _ _ _ _ rfl,f1]; simp only [z1]; rfl
        have hbe:=((aa hb3 HB.out).setCell (p:=⟨w.heap.size+1+1,0,none⟩) (show w.heap.size<=w.heap.size+1+1 by omega) (.float .f64 (LO 3))).setCell (p:=⟨w.heap.size+1+1,1,none⟩) (show w.heap.size<=w.heap.size+1+1 by omega) (.float .f64 (HI 3))
        clear d3 d4 r_k
        go_wp2
        refine bodyPost_ret (v:=.agg #[.float .f64 (LO 3),.float .f64 (HI 3)]) (by simp [results,Tryz.results50,go_sem,e0,e1]) rfl ⟨rfl,hbe⟩
  have hxr:=aA wx3
  have hx0:=(aA wx3).drew
  go_region_held3 (fun W=>W.cell? ⟨w.heap.size,0,none⟩=some (.float .f64 a)∧W.cell? ⟨w.heap.size,1,none⟩=some (.float .f64 b)∧W.cell? ⟨w.heap.size+1,0,none⟩=some (.float .f64 c)∧W.cell? ⟨w.heap.size+1,1,none⟩=some (.float .f64 d))
    (first | with_reducible assumption | with_reducible exact KK _ (hx0) | with_reducible exact KK _ ((jy hxr _).drew) | with_reducible exact KK _ (jy hx0 _) | with_reducible exact KK _ (hw1) | with_reducible exact KK _ (jy hw1 _) | with_reducible exact KK _ (hw2) | with_reducible exact KK _ (jy hw2 _) | with_reducible exact KK _ (hw3) | with_reducible exact KK _ (jy hw3 _) | with_reducible exact KK _ (hw4) | with_reducible exact KK _ (jy hw4 _) | with_reducible exact KK _ (qC (g:=y3.heap.size) hw4 (hw3.size) _ _ _ _ _ _ _ _) | with_reducible exact KK _ (qC (g:=y2.heap.size) hw4 (hw2.size) _ _ _ _ _ _ _ _) | with_reducible exact KK _ (qC (g:=y1.heap.size) hw4 (hw1.size) _ _ _ _ _ _ _ _) | with_reducible exact KK _ (qC (g:=wx3.heap.size) hw4 (Nat.le_refl _) _ _ _ _ _ _ _ _) | fail)
    (first
      | (go_at_call 76; have _t:=T3; refine (S3.out _ (H.keeps (aa hb3 (by first | with_reducible exact hw3 | with_reducible exact jy hw3 _)))).mono ?_; rintro _ y4 ⟨rfl,hc4⟩; have hw4:Below wx3.heap.size wx3 y4:=aa (by first | with_reducible exact hw3 | with_reducible exact jy hw3 _) hc4; have T4:True:=trivial; first | (have hg:Below (y3.alloc (.cells #[.float .f64 0,.float .f64 0,.float .f64 0,.float .f64 0,.float .f64 0,.float .f64 0,.float .f64 0,.float .f64 0] 114)).heap.size (y3.alloc (.cells #[.float .f64 0,.float .f64 0,.float .f64 0,.float .f64 0,.float .f64 0,.float .f64 0,.float .f64 0,.float .f64 0] 114)) y4:=(by with_reducible exact hc4); have qz:y4.heap[y3.heap.size]?=some (.cells #[.float .f64 0,.float .f64 0,.float .f64 0,.float .f64 0,.float .f64 0,.float .f64 0,.float .f64 0,.float .f64 0] 114 (0,0)):=cV hg (show (y3.alloc (.cells #[.float .f64 0,.float .f64 0,.float .f64 0,.float .f64 0,.float .f64 0,.float .f64 0,.float .f64 0,.float .f64 0] 114)).heap[y3.heap.size]?=_ from aB y3 (.cells #[.float .f64 0,.float .f64 0,.float .f64 0,.float .f64 0,.float .f64 0,.float .f64 0,.float .f64 0,.float .f64 0] 114)); obtain ⟨s_0,s_1,s_2,s_3,s_4,s_5,s_6,s_7,qf⟩:=IE (qz) (LO 0) (HI 0) (EL 0) (EH 0) (EL 1) (EH 1) (EL 2) (EH 2)) | (have hg:Below (y2.alloc (.cells #[.float .f64 0,.float .f64 0,.float .f64 0,.float .f64 0,.float .f64 0,.float .f64 0,.float .f64 0,.float .f64 0] 114)).heap.size (y2.alloc (.cells #[.float .f64 0,.float .f64 0,.float .f64 0,.float .f64 0,.float .f64 0,.float .f64 0,.float .f64 0,.float .f64 0] 114)) y3:=(by with_reducible exact hc3); have qz:y4.heap[y2.heap.size]?=some (.cells #[.float .f64 0,.float .f64 0,.float .f64 0,.float .f64 0,.float .f64 0,.float .f64 0,.float .f64 0,.float .f64 0] 114 (0,0)):=cV hc4 (cV hg (show (y2.alloc (.cells #[.float .f64 0,.float .f64 0,.float .f64 0,.float .f64 0,.float .f64 0,.float .f64 0,.float .f64 0,.float .f64 0] 114)).heap[y2.heap.size]?=_ from aB y2 (.cells #[.float .f64 0,.float .f64 0,.float .f64 0,.float .f64 0,.float .f64 0,.float .f64 0,.float .f64 0,.float .f64 0] 114))); obtain ⟨s_0,s_1,s_2,s_3,s_4,s_5,s_6,s_7,qf⟩:=IE (qz) (LO 0) (HI 0) (EL 0) (EH 0) (EL 1) (EH 1) (EL 2) (EH 2)) | (have hg:Below (y1.alloc (.cells #[.float .f64 0,.float .f64 0,.float .f64 0,.float .f64 0,.float .f64 0,.float .f64 0,.float .f64 0,.float .f64 0] 114)).heap.size (y1.alloc (.cells #[.float .f64 0,.float .f64 0,.float .f64 0,.float .f64 0,.float .f64 0,.float .f64 0,.float .f64 0,.float .f64 0] 114)) y2:=(by with_reducible exact hc2); have qz:y4.heap[y1.heap.size]?=some (.cells #[.float .f64 0,.float .f64 0,.float .f64 0,.float .f64 0,.float .f64 0,.float .f64 0,.float .f64 0,.float .f64 0] 114 (0,0)):=cV hc4 (cV hc3 (cV hg (show (y1.alloc (.cells #[.float .f64 0,.float .f64 0,.float .f64 0,.float .f64 0,.float .f64 0,.float .f64 0,.float .f64 0,.float .f64 0] 114)).heap[y1.heap.size]?=_ from aB y1 (.cells #[.float .f64 0,.float .f64 0,.float .f64 0,.float .f64 0,.float .f64 0,.float .f64 0,.float .f64 0,.float .f64 0] 114)))); obtain ⟨s_0,s_1,s_2,s_3,s_4,s_5,s_6,s_7,qf⟩:=IE (qz) (LO 0) (HI 0) (EL 0) (EH 0) (EL 1) (EH 1) (EL 2) (EH 2)) | (have hg:Below (wx3.alloc (.cells #[.float .f64 0,.float .f64 0,.float .f64 0,.float .f64 0,.float .f64 0,.float .f64 0,.float .f64 0,.float .f64 0] 114)).drew.heap.size (wx3.alloc (.cells #[.float .f64 0,.float .f64 0,.float .f64 0,.float .f64 0,.float .f64 0,.float .f64 0,.float .f64 0,.float .f64 0] 114)).drew y1:=(by with_reducible exact hc1); have qz:y4.heap[wx3.heap.size]?=some (.cells #[.float .f64 0,.float .f64 0,.float .f64 0,.float .f64 0,.float .f64 0,.float .f64 0,.float .f64 0,.float .f64 0] 114 (0,0)):=cV hc4 (cV hc3 (cV hc2 (cV hg (show (wx3.alloc (.cells #[.float .f64 0,.float .f64 0,.float .f64 0,.float .f64 0,.float .f64 0,.float .f64 0,.float .f64 0,.float .f64 0] 114)).drew.heap[wx3.heap.size]?=_ from aB wx3 (.cells #[.float .f64 0,.float .f64 0,.float .f64 0,.float .f64 0,.float .f64 0,.float .f64 0,.float .f64 0,.float .f64 0] 114))))); obtain ⟨s_0,s_1,s_2,s_3,s_4,s_5,s_6,s_7,qf⟩:=IE (qz) (LO 0) (HI 0) (EL 0) (EH 0) (EL 1) (EH 1) (EL 2) (EH 2)) | (obtain ⟨s_0,s_1,s_2,s_3,s_4,s_5,s_6,s_7⟩:=Oz y4 (LO 0) (HI 0) (EL 0) (EH 0) (EL 1) (EH 1) (EL 2) (EH 2)))
      | (go_at_call 76; have _t:=T2; refine (S2.out _ (H.keeps (aa hb3 (by first | with_reducible exact hw2 | with_reducible exact jy hw2 _)))).mono ?_; rintro _ y3 ⟨rfl,hc3⟩; have hw3:Below wx3.heap.size wx3 y3:=aa (by first | with_reducible exact hw2 | with_reducible exact jy hw2 _) hc3; have T3:True:=trivial)
      | (go_at_call 76; have _t:=T1; refine (S1.out _ (H.keeps (aa hb3 (by first | with_reducible exact hw1 | with_reducible exact jy hw1 _)))).mono ?_; rintro _ y2 ⟨rfl,hc2⟩; have hw2:Below wx3.heap.size wx3 y2:=aa (by first | with_reducible exact hw1 | with_reducible exact jy hw1 _) hc2; have T2:True:=trivial)
      | (go_at_call 76; refine (S0.out _ (H.keeps (aa hb3 (by first | with_reducible exact hx0 | with_reducible exact (jy hxr _).drew | with_reducible exact jy hx0 _)))).mono ?_; rintro _ y1 ⟨rfl,hc1⟩; have hw1:Below wx3.heap.size wx3 y1:=aa (by first | with_reducible exact hx0 | with_reducible exact (jy hxr _).drew | with_reducible exact jy hx0 _) hc1; have T1:True:=trivial))
  · exact HN y4.heap.size _ _ (by kernel_rfl) (aB _ _) (jy hw4 _) hw4.size
  · exact HN (y3.heap.size) _ _ (by kernel_rfl) qf (qC hw4 (hw3.size) _ _ _ _ _ _ _ _) (hw3.size)
  · exact HN (y2.heap.size) _ _ (by kernel_rfl) qf (qC hw4 (hw2.size) _ _ _ _ _ _ _ _) (hw2.size)
  · exact HN (y1.heap.size) _ _ (by kernel_rfl) qf (qC hw4 (hw1.size) _ _ _ _ _ _ _ _) (hw1.size)
  · exact HN (wx3.heap.size) _ _ (by kernel_rfl) qf (qC hw4 (Nat.le_refl _) _ _ _ _ _ _ _ _) (Nat.le_refl _)
theorem AR (F:Nat) {a b c d x y:Int} (ha:aj a) (hb:aj b) (hc:aj c) (hd:aj d) (w:World) (HH:aD w)
    (hE:∀ (cap:Array Value) (w:World),(callFunc F cap).run Tryz.prog w=.ok (.enter F cap) w)
    (CF:Hid (bT a b=true->bT c d=true->nn x∧nn y∧∀ W,aD W->Calls Tryz.prog F #[eJ a b,eJ c d] W fun e w'=>e=.returned (eJ x y)∧Below W.heap.size W w')) :
    Calls Tryz.prog 49 #[eK a b,eK c d,.func (.func F) #[] #[]] w fun e w'=>e=.returned (.tuple #[lC (bT a b && bT c d) (eK (aI x) (aI y)),.int .i64 (kQ (bT a b && bT c d))])∧Below w.heap.size w w':=by
  have R1:=fun W=>qr a b W
  have R2:=fun W=>qr c d W
  have V1:Hid (∀ W,Calls Tryz.prog 54 #[eJ a b] W fun e w'=>e=.returned (.bool (bT a b))∧Below W.heap.size W w'):=fun W=>sN ha hb W
  have V2:Hid (∀ W,Calls Tryz.prog 54 #[eJ c d] W fun e w'=>e=.returned (.bool (bT c d))∧Below W.heap.size W w'):=fun W=>sN hc hd W
  unfold eK eJ at *
  obtain ⟨q0,q1,q2,hs,hb3⟩:=oY w (.cells #[.int .i64 a,.int .i64 b] 60) (.cells #[.int .i64 c,.int .i64 d] 60) (.cells #[.int .i64 0,.int .i64 0] 60)
  go_enter Tryz.func49,Tryz.ntmps49
  go_wp2_with fail
  have k0:=ac q0 0 rfl
  have k1:=ac q0 1 rfl
  have k2:=ac q1 0 rfl
  have k3:=ac q1 1 rfl
  generalize ((w.alloc (.cells #[.int .i64 a,.int .i64 b] 60)).alloc (.cells #[.int .i64 c,.int .i64 d] 60)).alloc (.cells #[.int .i64 0,.int .i64 0] 60)=wx at *
  have hst:∀ (p:Addr) (n:Nat) (m:Mode) (w:World),(store p (.float .f64 n) m).run Tryz.prog w=stored Tryz.prog w p (.float .f64 n) m:=fun p n m w=>run_store _ w p _ m rfl
  have hc:(w.heap.size<w.heap.size+3∧w.heap.size+1<w.heap.size+3∧w.heap.size+3<=wx.drew.heap.size)∧wx.drew.cell? ⟨w.heap.size,0,none⟩=some (.int .i64 a)∧wx.drew.cell? ⟨w.heap.size,1,none⟩=some (.int .i64 b)∧wx.drew.cell? ⟨w.heap.size+1,0,none⟩=some (.int .i64 c)∧wx.drew.cell? ⟨w.heap.size+1,1,none⟩=some (.int .i64 d):=⟨⟨by omega,by omega,by show _<=wx.heap.size; omega⟩,k0,k1,k2,k3⟩
  rename_i Q' K haK
  have H:∀ (gi gj:Nat) (W:World),W.heap[gi]?=some (.cells #[.float .f64 (wd a),.float .f64 (wd b)] 87 (0,0))->W.heap[gj]?=some (.cells #[.float .f64 (wd c),.float .f64 (wd d)] 87 (0,0))->Below wx.heap.size wx W ->
      Exit.then K Q' Exit.normal { tmps:=#[.agg #[.int .i64 a,.int .i64 b],.agg #[.int .i64 c,.int .i64 d],.func (.func F) #[] #[],.pointer (some ⟨w.heap.size,0,none⟩),.pointer (some ⟨w.heap.size+1,0,none⟩),undef,.pointer (some ⟨w.heap.size+1+1,0,none⟩),.int .i64 0,.pointer (some ⟨gi,0,none⟩),.pointer (some ⟨gj,0,none⟩),.agg #[.int .i64 a,.int .i64 b],.agg #[.float .f64 (wd a),.float .f64 (wd b)],.agg #[.int .i64 c,.int .i64 d],.agg #[.float .f64 (wd c),.float .f64 (wd d)],undef,undef,undef,undef,undef,undef,undef,undef,undef,undef,undef,undef,undef,undef],defers:=[] } W:=by
    intro gi gj W hgi hgj hbW
    clear hc k0 k1 k2 k3 q0 q1 R1 R2 hst
    have i0:=ac hgi 0 rfl
    have i1:=ac hgi 1 rfl
    have j0:=ac hgj 0 rfl
    have j1:=ac hgj 1 rfl
    go_wp2_with fail
    refine (V1.out _).mono ?_
    rintro _ w1 ⟨rfl,hb4⟩
    have hgi1:=(hb4.block _ (Array.getElem?_eq_some_iff.1 hgi).1).trans hgi
    have hgj1:=(hb4.block _ (Array.getElem?_eq_some_iff.1 hgj).1).trans hgj
    clear i0 i1 j0 j1
    have j0:=ac hgj1 0 rfl
    have j1:=ac hgj1 1 rfl
    by_cases h1:bT a b=false
    · rw [h1]
      have hbR:=aa hbW hb4
      have d2:=(hbR.block _ (Array.getElem?_eq_some_iff.1 q2).1).trans q2
      have d3:=aM d2 0 (.int .i64 0)
      have d4:=aM d3 1 (.int .i64 0)
      have f0:=ac d2 0 rfl
      have z0:=aw d2 0
      have f1:=ac d3 1 rfl
      have z1:=aw d3 1
      have e0:=ac d4 0 rfl
      have e1:=ac d4 1 rfl
      have hbe:=((aa hb3 hbR).setCell (p:=⟨w.heap.size+1+1,0,none⟩) (show w.heap.size<=w.heap.size+1+1 by omega) (.int .i64 0)).setCell (p:=⟨w.heap.size+1+1,1,none⟩) (show w.heap.size<=w.heap.size+1+1 by omega) (.int .i64 0)
      clear d2 d3 d4
      go_wp2
      refine bodyPost_ret (v:=.tuple #[.agg #[.int .i64 0,.int .i64 0],.int .i64 1]) (by simp [results,Tryz.results49,go_sem,e0,e1]) rfl ⟨by rw [h1]; rfl,hbe⟩
    replace h1:bT a b=true:=by simpa using h1
    rw [h1]
    go_wp2_with fail
    refine (V2.out _).mono ?_
    rintro _ w2 ⟨rfl,hb5⟩
    have hgi2:=(hb5.block _ (Array.getElem?_eq_some_iff.1 hgi1).1).trans hgi1
    have hgj2:=(hb5.block _ (Array.getElem?_eq_some_iff.1 hgj1).1).trans hgj1
    clear j0 j1
    have i0:=ac hgi2 0 rfl
    have i1:=ac hgi2 1 rfl
    have j0:=ac hgj2 0 rfl
    have j1:=ac hgj2 1 rfl
    have hbR:=aa hbW (aa hb4 hb5)
    by_cases h2:bT c d=false
    · rw [h2]
      have d2:=(hbR.block _ (Array.getElem?_eq_some_iff.1 q2).1).trans q2
      have d3:=aM d2 0 (.int .i64 0)
      have d4:=aM d3 1 (.int .i64 0)
      have f0:=ac d2 0 rfl
      have z0:=aw d2 0
      have f1:=ac d3 1 rfl
      have z1:=aw d3 1
      have e0:=ac d4 0 rfl
      have e1:=ac d4 1 rfl
      have hbe:=((aa hb3 hbR).setCell (p:=⟨w.heap.size+1+1,0,none⟩) (show w.heap.size<=w.heap.size+1+1 by omega) (.int .i64 0)).setCell (p:=⟨w.heap.size+1+1,1,none⟩) (show w.heap.size<=w.heap.size+1+1 by omega) (.int .i64 0)
      clear d2 d3 d4
      go_wp2
      refine bodyPost_ret (v:=.tuple #[.agg #[.int .i64 0,.int .i64 0],.int .i64 1]) (by simp [results,Tryz.results49,go_sem,e0,e1]) rfl ⟨by rw [h2,Bool.and_false]; rfl,hbe⟩
    replace h2:bT c d=true:=by simpa using h2
    rw [h2]
    obtain ⟨nx,ny,CF'⟩:=CF.out h1 h2
    have L2:=HH.keeps (aa hb3 hbR)
    have CT:=fun W LW=>yI nx ny W LW
    unfold eJ eK at CT
    go_wp2_with fail
    refine (CF' _ L2).mono ?_
    rintro _ w3 ⟨rfl,hb6⟩
    have L3:=L2.keeps hb6
    go_wp2_with fail
    refine (CT _ L3.env.lays).mono ?_
    rintro _ w4 ⟨rfl,hb7⟩
    replace hbR:=aa hbR (aa hb6 hb7)
    have d2:=(hbR.block _ (Array.getElem?_eq_some_iff.1 q2).1).trans q2
    generalize hX:aI x=X at *
    generalize hY:aI y=Y at *
    have d3:=aM d2 0 (.int .i64 X)
    have d4:=aM d3 1 (.int .i64 Y)
    have f0:=ac d2 0 rfl
    have z0:=aw d2 0
    have f1:=ac d3 1 rfl
    have z1:=aw d3 1
    have e0:=ac d4 0 rfl
    have e1:=ac d4 1 rfl
    have hbe:=((aa hb3 hbR).setCell (p:=⟨w.heap.size+1+1,0,none⟩) (show w.heap.size<=w.heap.size+1+1 by omega) (.int .i64 X)).setCell (p:=⟨w.heap.size+1+1,1,none⟩) (show w.heap.size<=w.heap.size+1+1 by omega) (.int .i64 Y)
    clear d2 d3 d4 CT CF CF'
    go_wp2
    refine bodyPost_ret (v:=.tuple #[.agg #[.int .i64 X,.int .i64 Y],.int .i64 0]) (by simp [results,Tryz.results49,go_sem,e0,e1]) rfl ⟨by rw [h1,h2,hX,hY]; rfl,hbe⟩
  go_region_held3 (fun W=>(w.heap.size<w.heap.size+3∧w.heap.size+1<w.heap.size+3∧w.heap.size+3<=W.heap.size)∧W.cell? ⟨w.heap.size,0,none⟩=some (.int .i64 a)∧W.cell? ⟨w.heap.size,1,none⟩=some (.int .i64 b)∧W.cell? ⟨w.heap.size+1,0,none⟩=some (.int .i64 c)∧W.cell? ⟨w.heap.size+1,1,none⟩=some (.int .i64 d))
    (first | assumption | (repeat (first | exact hc | refine uY ?_ | refine Hd _ ?_ | refine yx (by first | omega | (simp; omega)) ?_)))
    (first
      | (go_at_call 53; have _t:=T1; refine (R2 _).mono ?_; rintro _ _ ⟨rfl,rfl⟩)
      | (go_at_call 53; refine (R1 _).mono ?_; rintro _ _ ⟨rfl,rfl⟩; have T1:True:=trivial))
  all_goals
    refine H _ _ _ ?_ ?_ M5
    all_goals first
      | exact MV hs rfl
      | exact MW hs rfl
      | exact MX hs rfl
      | exact MY hs rfl
      | exact MZ hs rfl
      | exact M0 hs rfl
def sP (a b c d:Int):Int:=iC (iC (iC (dA a c) (dA a d)) (dA b c)) (dA b d)
def sQ (a b c d:Int):Int:=iD (iD (iD (dC a c) (dC a d)) (dC b c)) (dC b d)
theorem IF {a b c d:Int} (ha:nn a) (hb:nn b) (hc:nn c) (hd:nn d):nn (sP a b c d)∧nn (sQ a b c d) :=
 ⟨(l7 (l7 (l7 (cS ha hc).1 (cS ha hd).1).1 (cS hb hc).1).1 (cS hb hd).1).1,(l8 (l8 (l8 (cS ha hc).2 (cS ha hd).2).1 (cS hb hc).2).1 (cS hb hd).2).1⟩
theorem He {a b c d:Int} (ha:nn a) (hb:nn b) (hc:nn c) (hd:nn d) (w:World) (H:aD w) :
    Calls Tryz.prog 50 #[eJ a b,eJ c d] w fun e w'=>e=.returned (eJ (sP a b c d) (sQ a b c d))∧Below w.heap.size w w':=by
  obtain ⟨n0,n0'⟩:=cS ha hc
  obtain ⟨n1,n1'⟩:=cS ha hd
  obtain ⟨n2,n2'⟩:=cS hb hc
  obtain ⟨n3,n3'⟩:=cS hb hd
  have m1:=(l7 n0 n1).1
  have m1':=(l8 n0' n1').1
  have m2:=(l7 m1 n2).1
  have m2':=(l8 m1' n2').1
  exact EV (fun k=>match k with | 0=>wd (dA a c) | 1=>wd (iC (dA a c) (dA a d)) | 2=>wd (iC (iC (dA a c) (dA a d)) (dA b c)) | _=>wd (sP a b c d))
    (fun k=>match k with | 0=>wd (dC a c) | 1=>wd (iD (dC a c) (dC a d)) | 2=>wd (iD (iD (dC a c) (dC a d)) (dC b c)) | _=>wd (sQ a b c d))
    (fun k=>match k with | 0=>wd (dA a d) | 1=>wd (dA b c) | _=>wd (dA b d))
    (fun k=>match k with | 0=>wd (dC a d) | 1=>wd (dC b c) | _=>wd (dC b d)) w H
    (fun W hW=>mU ha hc W hW) (fun W hW=>mU ha hd W hW) (fun W hW=>mU hb hc W hW) (fun W hW=>mU hb hd W hW)
    (fun k hk W=>by
      match k,hk with
      | 0,_=>exact qt n0 n0' n1 n1' W
      | 1,_=>exact qt m1 m1' n2 n2' W
      | 2,_=>exact qt m2 m2' n3 n3' W)
theorem Hf {a b c d:Int} (ha:aj a) (hb:aj b) (hc:aj c) (hd:aj d) (w:World) (H:aD w) :
    Calls Tryz.prog 29 #[eK a b,eK c d] w fun e w'=>e=.returned (.tuple #[lC (bT a b && bT c d) (eK (aI (sP a b c d)) (aI (sQ a b c d))),.int .i64 (kQ (bT a b && bT c d))])∧Below w.heap.size w w':=by
  have hE:∀ (cap:Array Value) (w:World),(callFunc 50 cap).run Tryz.prog w=.ok (.enter 50 cap) w:=by
    intro cap w
    simp [go_sem]
  have CJ:Hid (∀ W,aD W->Calls Tryz.prog 49 #[eK a b,eK c d,.func (.func 50) #[] #[]] W fun e w'=>e=.returned (.tuple #[lC (bT a b && bT c d) (eK (aI (sP a b c d)) (aI (sQ a b c d))),.int .i64 (kQ (bT a b && bT c d))])∧Below W.heap.size W w'):=fun W LW=>
    AR _ ha hb hc hd W LW hE (fun h1 h2=>by
      obtain ⟨va,vb,_,_,_⟩:=jU.1 h1
      obtain ⟨vc,vd,_,_,_⟩:=jU.1 h2
      exact ⟨(IF ⟨ha,va⟩ ⟨hb,vb⟩ ⟨hc,vc⟩ ⟨hd,vd⟩).1,(IF ⟨ha,va⟩ ⟨hb,vb⟩ ⟨hc,vc⟩ ⟨hd,vd⟩).2,fun W' hW=>He ⟨ha,va⟩ ⟨hb,vb⟩ ⟨hc,vc⟩ ⟨hd,vd⟩ W' hW⟩)
  have hx:∃ X Y,lC (bT a b && bT c d) (eK (aI (sP a b c d)) (aI (sQ a b c d)))=.agg #[.int .i64 X,.int .i64 Y]:=by
    unfold lC eK; split
    · exact ⟨_,_,rfl⟩
    · exact ⟨_,_,rfl⟩
  obtain ⟨X,Y,hXY⟩:=hx
  rw [hXY] at CJ ⊢
  clear hXY
  unfold eK at *
  generalize kQ (bT a b && bT c d)=E at *
  obtain ⟨q0,q1,q2,hs,hb3⟩:=oY w (.cells #[.int .i64 a,.int .i64 b] 60) (.cells #[.int .i64 c,.int .i64 d] 60) (.cells #[.int .i64 0,.int .i64 0] 60)
  have L2:=H.keeps hb3
  go_enter Tryz.func29,Tryz.ntmps29
  go_wp2_with fail
  generalize ((w.alloc (.cells #[.int .i64 a,.int .i64 b] 60)).alloc (.cells #[.int .i64 c,.int .i64 d] 60)).alloc (.cells #[.int .i64 0,.int .i64 0] 60)=wx at *
  refine (CJ.out _ L2).mono ?_
  rintro _ w1 ⟨rfl,hb4⟩
  have d2:=(hb4.block _ (Array.getElem?_eq_some_iff.1 q2).1).trans q2
  have d3:=aM d2 0 (.int .i64 X)
  have d4:=aM d3 1 (.int .i64 Y)
  have f0:=ac d2 0 rfl
  have z0:=aw d2 0
  have f1:=ac d3 1 rfl
  have z1:=aw d3 1
  have e0:=ac d4 0 rfl
  have e1:=ac d4 1 rfl
  have hbe:=((aa hb3 hb4).setCell (p:=⟨w.heap.size+1+1,0,none⟩) (show w.heap.size<=w.heap.size+1+1 by omega) (.int .i64 X)).setCell (p:=⟨w.heap.size+1+1,1,none⟩) (show w.heap.size<=w.heap.size+1+1 by omega) (.int .i64 Y)
  clear d2 d3 d4 q0 q1 q2
  go_wp2
  refine bodyPost_ret (v:=.tuple #[.agg #[.int .i64 X,.int .i64 Y],.int .i64 E]) (by simp [results,Tryz.results29,go_sem,e0,e1]) rfl ⟨rfl,hbe⟩
structure En where
 i:Int
 v:Int
def En.le (a b:En):Prop:=a.i<b.i∨(a.i=b.i∧a.v<=b.v)
def En.ok (a:En):Prop:=a.i=0∨((a.i=1∨a.i=-1)∧a.v=0)
def cD (a:En):Int:=if 0<a.i then 9218868437227405312 else if a.i<0 then -4503599627370496 else gZ a.v
def cE (a:En):Int:=if 0<a.i then 9218868437227405312 else if a.i<0 then -4503599627370496 else g9 a.v
def aN (p:Int):En:=if rg p=9218868437227405312 then ⟨if p<0 then -1 else 1,0⟩ else ⟨0,ar p⟩
theorem En.eq {a b:En} (h:a.i=b.i) (k:a.v=b.v):a=b:=by cases a; cases b; cases h; cases k; rfl
theorem En.le_refl (a:En):a.le a:=.inr ⟨rfl,Int.le_refl _⟩
theorem En.le_trans {a b c:En} (h:a.le b) (k:b.le c):a.le c:=by
 unfold En.le at *
 omega
theorem En.le.le_trans {a b c:En} (h:a.le b) (k:b.le c):a.le c:=En.le_trans h k
theorem En.le_total (a b:En):a.le b∨b.le a:=by
 unfold En.le
 omega
theorem uZ (V:Int):∃ (ng:Bool) (f:Int->Int × Bool),lB V ng f:=by
 by_cases h0:V=0
 ·subst h0
  exact ⟨false,fun way=>(aC (false && decide (0<bk way false 0 0)) (bk way false 0 0),decide ((0:Int)≠0) || decide (9218868437227405312<=((0:Nat):Int))),0,0,0,rfl,(fun h=>by cases h),mM,fun way=>rfl⟩
 ·obtain ⟨g,A,r0,left,e,hA,hR,_,_⟩:=tX h0
  exact ⟨g,fun way=>(aC (g && decide (0<bk way g r0 left)) (bk way g r0 left),decide (left≠0) || decide (9218868437227405312<=(r0:Int))),A,r0,left,e,fun _=>hA,hR,fun way=>rfl⟩
theorem iY (V:Int):nn (gZ V)∧nn (g9 V):=by
 obtain ⟨ng,f,h⟩:=uZ V
 obtain ⟨c1,c2⟩:=sO h
 obtain ⟨A,r0,left,e,hn,hR,hf⟩:=h
 obtain ⟨_,a2,a3⟩:=lB.key (V:=V) (A:=A) (hf 1)
 obtain ⟨_,b2,b3⟩:=lB.key (V:=V) (A:=A) (hf 2)
 rw [c1] at a2 a3
 rw [c2] at b2 b3
 exact ⟨⟨a3,a2⟩,⟨b3,b2⟩⟩
theorem yK {a b:Int} (ha:nn a) (hb:nn b) (h:bE a b=false):au b<=au a:=by
 unfold bE at h
 simp [ha.2,hb.2] at h
 exact h
theorem yL {V U:Int} (h:V<=U):au (gZ V)<=au (gZ U)∧au (g9 V)<=au (g9 U):=by
 obtain ⟨ng,f,k⟩:=uZ V
 obtain ⟨mg,g,l⟩:=uZ U
 obtain ⟨c1,c2⟩:=sO k
 obtain ⟨d1,d2⟩:=sO l
 have m1:=Aj k l h 1
 have m2:=Aj k l h 2
 rw [c1,d1] at m1
 rw [c2,d2] at m2
 exact ⟨yK (iY U).1 (iY V).1 m1,yK (iY U).2 (iY V).2 m2⟩
theorem nU:nn 9218868437227405312∧nn (-4503599627370496):=⟨⟨by unfold aj; omega,by decide⟩,⟨by unfold aj; omega,by decide⟩⟩
theorem tZ {p:Int} (h:nn p):-9218868437227405312<=au p∧au p<=9218868437227405312:=by
 have:=kB h
 unfold rg at this
 unfold au
 split at this <;> (split <;> omega)
theorem u6 (a:En):nn (cD a)∧nn (cE a):=by
 unfold cD cE
 split
 ·exact ⟨nU.1,nU.1⟩
 ·split
  ·exact ⟨nU.2,nU.2⟩
  ·exact iY _
theorem sR:au 9218868437227405312=9218868437227405312∧au (-4503599627370496)=-9218868437227405312:=⟨by decide,by decide⟩
theorem lw {a b:En} (h:a.le b):au (cD a)<=au (cD b)∧au (cE a)<=au (cE b):=by
 obtain ⟨k1,k2⟩:=sR
 have n1:=tZ (iY a.v).1
 have n2:=tZ (iY a.v).2
 have n3:=tZ (iY b.v).1
 have n4:=tZ (iY b.v).2
 have m:=fun q=>@yL a.v b.v q
 unfold cD cE
 rcases h with h | ⟨h,h'⟩
 ·by_cases p1:0<a.i
  ·have p2:0<b.i:=by omega
   rw [if_pos p1,if_pos p1,if_pos p2,if_pos p2]
   exact ⟨Int.le_refl _,Int.le_refl _⟩
  ·by_cases p2:0<b.i
   ·rw [if_neg p1,if_neg p1,if_pos p2,if_pos p2]
    split <;> (rw [k1]; first | (rw [k2]; omega) | omega)
   ·have p3:a.i<0:=by omega
    rw [if_neg p1,if_neg p1,if_pos p3,if_pos p3,if_neg p2,if_neg p2]
    split <;> (rw [k2]; first | omega | skip)
 ·rw [h]
  split
  ·exact ⟨Int.le_refl _,Int.le_refl _⟩
  ·split
   ·exact ⟨Int.le_refl _,Int.le_refl _⟩
   ·exact m h'
theorem rI (p:Int):aI (aI p)=aI p:=by
 have c1:aI 9221120237041090561=9221120237041090561:=by decide
 have c2:aI 0=0:=by decide
 by_cases h4:aG p=4
 ·have:aI p=9221120237041090561:=by unfold aI; rw [if_pos h4]
  rw [this,c1]
 ·by_cases h0:aG p=0
  ·have:aI p=0:=by unfold aI; rw [if_neg h4,if_pos h0]
   rw [this,c2]
  ·have:aI p=p:=by unfold aI; rw [if_neg h4,if_neg h0]
   rw [this,this]
theorem qY (a:En):aI (cD a)=cD a∧aI (cE a)=cE a:=by
 unfold cD cE
 split
 ·exact ⟨by decide,by decide⟩
 ·split
  ·exact ⟨by decide,by decide⟩
  ·unfold gZ g9
   split
   ·exact ⟨by decide,by decide⟩
   ·exact ⟨rI _,rI _⟩
theorem we {p q:Int} (hp:nn p) (hq:nn q) (h:au p=au q):aI p=aI q:=by
 by_cases e:p=q
 ·rw [e]
 ·rcases jT hp.1 hq.1 h e with ⟨rfl,rfl⟩ | ⟨rfl,rfl⟩ <;> decide
theorem M6 {p:Int} {a:En} (hp:nn p) (h:au p=au (cD a)):aI p=cD a:=(we hp (u6 a).1 h).trans (qY a).1
theorem M7 {p:Int} {a:En} (hp:nn p) (h:au p=au (cE a)):aI p=cE a:=(we hp (u6 a).2 h).trans (qY a).2
theorem M8 {p:Int} {a:En} (hp:nn p) (h:aI p=cD a):au p=au (cD a):=by rw [<- h,(jV hp).1]
theorem M9 {p:Int} {a:En} (hp:nn p) (h:aI p=cE a):au p=au (cE a):=by rw [<- h,(jV hp).1]
theorem yM {p:Int} (hp:aj p):p=aC (decide (p<0)) (rg p):=by
 unfold aj at hp
 unfold aC rg
 by_cases h:p<0
 ·rw [if_pos h,decide_eq_true h]; simp
 ·rw [if_neg h,decide_eq_false h]; simp
theorem AT {p:Int} (hp:aj p) (h:rg p=0):p=0∨p=-9223372036854775808:=by
 unfold rg at h
 split at h <;> omega
theorem kC:ar 0=0∧ar (-9223372036854775808)=0:=by
 refine ⟨?_,?_⟩
 ·unfold ar
  rw [show aK 0=0 by decide,show hH 0=false by decide]
  exact Int.zero_mul _
 ·unfold ar
  rw [show aK (-9223372036854775808)=0 by decide]
  show sg (hH (-9223372036854775808)) 0*_=0
  cases hH (-9223372036854775808) <;> exact Int.zero_mul _
theorem mC:gZ 0=0∧g9 0=0:=by unfold gZ g9; rw [if_pos rfl,if_pos rfl]; exact ⟨rfl,rfl⟩
theorem nw {p:Int} (hp:nn p):cD (aN p)=aI p∧cE (aN p)=aI p:=by
 have hr:=kB hp
 obtain ⟨c1,c2⟩:=dZ hp.1
 unfold aN
 by_cases hi:rg p=9218868437227405312
 ·rw [if_pos hi]
  have hc:aI p=p:=by
   unfold aI
   rw [if_neg hp.2,if_neg (fun k=>by have:=c2.1 k; omega)]
  rw [hc]
  have h2:=hp.1
  unfold aj at h2
  unfold rg at hi
  unfold cD cE
  by_cases h0:p<0
  ·rw [if_pos h0] at hi
   simp only [if_pos h0]
   exact ⟨by simp; omega,by simp; omega⟩
  ·rw [if_neg h0] at hi
   simp only [if_neg h0]
   exact ⟨by simp; omega,by simp; omega⟩
 ·rw [if_neg hi]
  have hf:ak p=true:=eM hp hi
  unfold cD cE
  simp only [Int.lt_irrefl,if_false]
  by_cases h0:rg p=0
  ·have hz:=AT hp.1 h0
   have hc:aI p=0:=by
    unfold aI
    rw [if_neg hp.2,if_pos (c2.2 h0)]
   have hv:ar p=0:=by
    rcases hz with rfl | rfl
    ·exact kC.1
    ·exact kC.2
   rw [hv,hc]
   exact mC
  ·have hc:aI p=p:=by
    unfold aI
    rw [if_neg hp.2,if_neg (fun k=>h0 (c2.1 k))]
   have hv:=jF hp.1 hf
   have hn:((rg p).toNat:Int)=rg p:=Int.toNat_of_nonneg hr.1
   obtain ⟨a1,a2⟩:=Oc (g:=decide (p<0)) (r:=(rg p).toNat) (by omega) (by omega)
   rw [<- hv,hn,<- yM hp.1] at a1 a2
   rw [hc]
   exact ⟨a1,a2⟩
theorem mD {p:Int} (hp:aj p):au p=if p<0 then-rg p else rg p:=by
 unfold au rg
 split <;> rfl
theorem qZ {p q:Int} (hp:aj p) (hq:aj q) (h:au p<=au q):iV p<=iV q:=by
 rcases Int.lt_or_eq_of_le h with h | h
 ·exact Int.le_of_lt (uX hp hq h)
 ·by_cases e:p=q
  ·rw [e]; exact Int.le_refl _
  ·rcases jT hp hq h e with ⟨rfl,rfl⟩ | ⟨rfl,rfl⟩ <;> decide
theorem J3 {p q:Int} (hp:aj p) (hq:aj q) (pp:ak p=true) (pq:ak q=true) (h:au p<=au q):ar p<=ar q:=by
 rw [bF hp pp,bF hq pq]
 exact Int.mul_le_mul_of_nonneg_right (qZ hp hq h) (Int.le_of_lt (bD _))
theorem mV {p q:Int} (hp:nn p) (hq:nn q) (h:au p<=au q):(aN p).le (aN q):=by
 have kp:=mD hp.1
 have kq:=mD hq.1
 have rp:=kB hp
 have rq:=kB hq
 unfold aN
 by_cases ip:rg p=9218868437227405312
 ·by_cases iq:rg q=9218868437227405312
  ·rw [if_pos ip,if_pos iq]
   unfold En.le
   show (if p<0 then (-1:Int) else 1)<(if q<0 then (-1:Int) else 1)∨((if p<0 then (-1:Int) else 1)=(if q<0 then (-1:Int) else 1)∧(0:Int)<=0)
   split at kp <;> split at kq <;> simp_all <;> omega
  ·rw [if_pos ip,if_neg iq]
   unfold En.le
   show (if p<0 then (-1:Int) else 1)<0∨_
   split at kp
   ·rw [if_pos (by assumption)]; exact .inl (by decide)
   ·exfalso; split at kq <;> omega
 ·by_cases iq:rg q=9218868437227405312
  ·rw [if_neg ip,if_pos iq]
   unfold En.le
   show 0<(if q<0 then (-1:Int) else 1)∨_
   split at kq
   ·exfalso; split at kp <;> omega
   ·rw [if_neg (by assumption)]; exact .inl (by decide)
  ·rw [if_neg ip,if_neg iq]
   exact .inr ⟨rfl,J3 hp.1 hq.1 (eM hp ip) (eM hq iq) h⟩
theorem t7 (p:Int):(aN p).ok:=by
 unfold aN En.ok
 split
 ·show (if p<0 then (-1:Int) else 1)=0∨_
  split
  ·exact .inr ⟨.inr rfl,rfl⟩
  ·exact .inr ⟨.inl rfl,rfl⟩
 ·exact .inl rfl
def bQ (a b:En):En:=if a.i≠0 then a else if b.i≠0 then b else ⟨0,a.v+b.v⟩
theorem gD {p:Int} (h:¬ rg p=9218868437227405312):aN p=⟨0,ar p⟩:=if_neg h
theorem iZ {p:Int} (h:rg p=9218868437227405312):aN p=⟨if p<0 then -1 else 1,0⟩:=if_pos h
theorem yN {p:Int} (h:rg p=9218868437227405312):(if p<0 then (-1:Int) else 1)≠0:=by split <;> decide
theorem t8 {p q:Int} (hp:nn p) (hq:nn q) (hno:¬ (rg p=9218868437227405312∧rg q=9218868437227405312∧decide (p<0)≠decide (q<0))) :
  nn (bI p q)∧aI (dw (bI p q) (c8 p q))=cD (bQ (aN p) (aN q))∧aI (dz (bI p q) (c8 p q))=cE (bQ (aN p) (aN q)):=by
 have rp:=kB hp
 have rq:=kB hq
 by_cases ip:rg p=9218868437227405312
 ·have hE:bQ (aN p) (aN q)=aN p:=by
   rw [iZ ip]; unfold bQ; exact if_pos (yN ip)
  rw [hE]
  by_cases iq:rg q=9218868437227405312
  ·have hpq:p=q:=by
    have hd:decide (p<0)=decide (q<0):=Classical.byContradiction fun c=>hno ⟨ip,iq,c⟩
    rw [yM hp.1,yM hq.1,ip,iq,hd]
   subst hpq
   have hh:dF p p=p:=by unfold dF; split <;> rfl
   obtain ⟨e1,e2,e3⟩:=qA hp hp (by rw [hh]; exact ip) hno
   rw [e2,e3,e1,hh]
   exact ⟨hp,(nw hp).1.symm,(nw hp).2.symm⟩
  ·have hh:dF p q=p:=by unfold dF; rw [if_neg (by omega)]
   obtain ⟨e1,e2,e3⟩:=qA hp hq (by rw [hh]; exact ip) hno
   rw [e2,e3,e1,hh]
   exact ⟨hp,(nw hp).1.symm,(nw hp).2.symm⟩
 ·by_cases iq:rg q=9218868437227405312
  ·have hE:bQ (aN p) (aN q)=aN q:=by
    rw [gD ip,iZ iq]; unfold bQ
    rw [if_neg (by simp),if_pos (yN iq)]
   rw [hE]
   have hh:dF p q=q:=by unfold dF; rw [if_pos (by omega)]
   obtain ⟨e1,e2,e3⟩:=qA hp hq (by rw [hh]; exact iq) hno
   rw [e2,e3,e1,hh]
   exact ⟨hq,(nw hq).1.symm,(nw hq).2.symm⟩
  ·have hE:bQ (aN p) (aN q)=⟨0,ar p+ar q⟩:=by
    rw [gD ip,gD iq]; unfold bQ
    rw [if_neg (by simp),if_neg (by simp)]
   rw [hE]
   obtain ⟨a,b,c⟩:=MU hp.1 hq.1 (eM hp ip) (eM hq iq)
   unfold cD cE
   simp only [Int.lt_irrefl,if_false]
   exact ⟨a,b,c⟩
def iI (v:Int):Int:=if v<0 then -1 else if 0<v then 1 else 0
def dX (a:En):Int:=if a.i≠0 then a.i else iI a.v
def ej (x y:Int):Int:=x*y/2^4194304
theorem jX (x y:Int):ej x y=ej y x:=by unfold ej; rw [Int.mul_comm]
theorem jY (y:Int):ej 0 y=0:=by unfold ej; rw [Int.zero_mul]; exact Int.zero_ediv _
theorem yO {D x y:Int} (hD:0<D) (h:x<=y):x/D<=y/D:=Int.ediv_le_ediv hD h
theorem EX {x y c:Int} (h:x<=y) (hc:0<=c):ej x c<=ej y c:=yO (aO _) (Int.mul_le_mul_of_nonneg_right h hc)
theorem EY {x y c:Int} (h:x<=y) (hc:c<=0):ej y c<=ej x c:=yO (aO _) (Int.mul_le_mul_of_nonpos_right h hc)
def aJ (a b:En):En:=if dX a*dX b=0 then ⟨0,0⟩ else if a.i≠0∨b.i≠0 then ⟨dX a*dX b,0⟩ else ⟨0,ej a.v b.v⟩
theorem kS {v:Int} (h:iI v=0):v=0:=by unfold iI at h; split at h; (· omega); split at h <;> omega
theorem LC {v u:Int} (h:v<=u):iI v<=iI u:=by unfold iI; repeat' split; all_goals omega
theorem qD (v:Int):-1<=iI v∧iI v<=1∧(0<=iI v ↔ 0<=v)∧(iI v<=0 ↔ v<=0):=by unfold iI; repeat' split; all_goals omega
theorem EZ {a:En} (h:a.ok):-1<=dX a∧dX a<=1:=by
 unfold dX
 have:=qD a.v
 rcases h with h | ⟨h,_⟩
 ·rw [if_neg (by omega)]; exact ⟨this.1,this.2.1⟩
 ·rw [if_pos (by omega)]; omega
theorem fM {a:En} (h:a.i=0):dX a=iI a.v:=if_neg (fun k=>k h)
theorem jA {a:En} (h:a.i≠0):dX a=a.i:=if_pos h
theorem pi {a b:En} (ha:a.ok) (hb:b.ok) (h:a.le b):dX a<=dX b:=by
 have b1:=EZ ha
 have b2:=EZ hb
 unfold En.le at h
 by_cases ia:a.i=0
 ·by_cases ib:b.i=0
  ·rw [fM ia,fM ib]
   exact LC (by omega)
  ·have:b.i=1:=by unfold En.ok at hb; omega
   rw [jA ib]; omega
 ·by_cases ib:b.i=0
  ·have:a.i=-1:=by unfold En.ok at ha; omega
   rw [jA ia]; omega
  ·rw [jA ia,jA ib]; omega
theorem ek {a b:En} (ha:a.i=0) (hb:b.i=0):aJ a b=⟨0,ej a.v b.v⟩:=by
 unfold aJ
 rw [fM ha,fM hb]
 by_cases h:iI a.v*iI b.v=0
 ·rw [if_pos h]
  rcases Int.mul_eq_zero.1 h with k | k
  ·rw [kS k,jY]
  ·rw [kS k,jX,jY]
 ·rw [if_neg h,if_neg (by omega)]
theorem kD {a c:En} (hc:c.i≠0):aJ a c=⟨dX a*c.i,0⟩:=by
 unfold aJ
 rw [jA hc]
 by_cases h:dX a*c.i=0
 ·rw [if_pos h,h]
 ·rw [if_neg h,if_pos (.inr hc)]
theorem gF (a b:En):aJ a b=aJ b a:=by
 unfold aJ
 rw [Int.mul_comm (dX a),jX a.v]
 by_cases h:dX b*dX a=0
 ·rw [if_pos h,if_pos h]
 ·rw [if_neg h,if_neg h]
  by_cases k:a.i≠0∨b.i≠0
  ·rw [if_pos k,if_pos k.symm]
  ·rw [if_neg k,if_neg (fun q=>k q.symm)]
theorem gG {a c:En} (ha:a.i≠0):aJ a c=⟨dX c*a.i,0⟩:=by rw [gF,kD ha]
theorem t9 (a:En):aJ ⟨0,0⟩ a=⟨0,0⟩:=by
 unfold aJ
 have:dX ⟨0,0⟩=0:=rfl
 rw [this,Int.zero_mul,if_pos rfl]
theorem il {a b c:En} (ha:a.ok) (hb:b.ok) (hc:c.ok) (h:a.le b) (hs:0<=dX c):(aJ a c).le (aJ b c):=by
 have hm:=pi ha hb h
 by_cases ic:c.i=0
 ·rw [fM ic] at hs
  have hv:=(qD c.v).2.2.1.1 hs
  by_cases ia:a.i=0
  ·by_cases ib:b.i=0
   ·rw [ek ia ic,ek ib ic]
    exact .inr ⟨rfl,EX (by unfold En.le at h; omega) hv⟩
   ·have eb:b.i=1:=by unfold En.ok En.le at *; omega
    rw [ek ia ic,gG ib,eb,fM ic]
    rcases Int.lt_or_eq_of_le hs with q | q
    ·exact .inl (by show 0<iI c.v*1; omega)
    ·exact .inr ⟨by show 0=iI c.v*1; omega,by show ej _ _<=0; rw [kS q.symm,jX,jY]; exact Int.le_refl _⟩
  ·by_cases ib:b.i=0
   ·have ea:a.i=-1:=by unfold En.ok En.le at *; omega
    rw [ek ib ic,gG ia,ea,fM ic]
    rcases Int.lt_or_eq_of_le hs with q | q
    ·exact .inl (by show iI c.v * -1<0; omega)
    ·exact .inr ⟨by show iI c.v * -1=0; omega,by show 0<=ej _ _; rw [kS q.symm,jX,jY]; exact Int.le_refl _⟩
   ·rw [gG ia,gG ib]
    have:a.i<=b.i:=by unfold En.le at h; omega
    have hq:dX c*a.i<=dX c*b.i:=Int.mul_le_mul_of_nonneg_left this (by rw [fM ic]; exact hs)
    rcases Int.lt_or_eq_of_le hq with q | q
    ·exact .inl q
    ·exact .inr ⟨q,Int.le_refl _⟩
 ·rw [jA ic] at hs
  rw [kD ic,kD ic]
  have hq:dX a*c.i<=dX b*c.i:=Int.mul_le_mul_of_nonneg_right hm hs
  rcases Int.lt_or_eq_of_le hq with q | q
  ·exact .inl q
  ·exact .inr ⟨q,Int.le_refl _⟩
theorem io {a b c:En} (ha:a.ok) (hb:b.ok) (hc:c.ok) (h:a.le b) (hs:dX c<=0):(aJ b c).le (aJ a c):=by
 have hm:=pi ha hb h
 by_cases ic:c.i=0
 ·rw [fM ic] at hs
  have hv:=(qD c.v).2.2.2.1 hs
  by_cases ia:a.i=0
  ·by_cases ib:b.i=0
   ·rw [ek ia ic,ek ib ic]
    exact .inr ⟨rfl,EY (by unfold En.le at h; omega) hv⟩
   ·have eb:b.i=1:=by unfold En.ok En.le at *; omega
    rw [ek ia ic,gG ib,eb,fM ic]
    rcases Int.lt_or_eq_of_le hs with q | q
    ·exact .inl (by show iI c.v*1<0; omega)
    ·exact .inr ⟨by show iI c.v*1=0; omega,by show 0<=ej _ _; rw [kS q,jX,jY]; exact Int.le_refl _⟩
  ·by_cases ib:b.i=0
   ·have ea:a.i=-1:=by unfold En.ok En.le at *; omega
    rw [ek ib ic,gG ia,ea,fM ic]
    rcases Int.lt_or_eq_of_le hs with q | q
    ·exact .inl (by show 0<iI c.v * -1; omega)
    ·exact .inr ⟨by show 0=iI c.v * -1; omega,by show ej _ _<=0; rw [kS q,jX,jY]; exact Int.le_refl _⟩
   ·rw [gG ia,gG ib]
    have:a.i<=b.i:=by unfold En.le at h; omega
    have hq:dX c*b.i<=dX c*a.i:=Int.mul_le_mul_of_nonpos_left (by rw [fM ic]; exact hs) this
    rcases Int.lt_or_eq_of_le hq with q | q
    ·exact .inl q
    ·exact .inr ⟨q,Int.le_refl _⟩
 ·rw [jA ic] at hs
  rw [kD ic,kD ic]
  have hq:dX b*c.i<=dX a*c.i:=Int.mul_le_mul_of_nonpos_right hm hs
  rcases Int.lt_or_eq_of_le hq with q | q
  ·exact .inl q
  ·exact .inr ⟨q,Int.le_refl _⟩
def jH (a b:En):En:=if b.i<a.i∨(b.i=a.i∧b.v<a.v) then b else a
def jI (a b:En):En:=if a.i<b.i∨(a.i=b.i∧a.v<b.v) then b else a
theorem kT (a b:En):(jH a b).le a∧(jH a b).le b∧(jH a b=a∨jH a b=b):=by
 unfold jH
 split
 ·rename_i h
  exact ⟨by unfold En.le; omega,En.le_refl _,.inr rfl⟩
 ·rename_i h
  exact ⟨En.le_refl _,by unfold En.le; omega,.inl rfl⟩
theorem kU (a b:En):a.le (jI a b)∧b.le (jI a b)∧(jI a b=a∨jI a b=b):=by
 unfold jI
 split
 ·rename_i h
  exact ⟨by unfold En.le; omega,En.le_refl _,.inr rfl⟩
 ·rename_i h
  exact ⟨En.le_refl _,by unfold En.le; omega,.inl rfl⟩
theorem yP {x y:Int} {e f:En} (hx:nn x) (hy:nn y) (kx:au x=au (cD e)) (ky:au y=au (cD f)):nn (iC x y)∧au (iC x y)=au (cD (jH e f)):=by
 obtain ⟨a,b,c,d⟩:=l7 hx hy
 obtain ⟨l1,l2,l3⟩:=kT e f
 have m1:=(lw l1).1
 have m2:=(lw l2).1
 refine ⟨a,?_⟩
 rcases l3 with q | q <;> (rw [q] at m1 m2 ⊢; omega)
theorem yQ {x y:Int} {e f:En} (hx:nn x) (hy:nn y) (kx:au x=au (cE e)) (ky:au y=au (cE f)):nn (iD x y)∧au (iD x y)=au (cE (jI e f)):=by
 obtain ⟨a,b,c,d⟩:=l8 hx hy
 obtain ⟨l1,l2,l3⟩:=kU e f
 have m1:=(lw l1).2
 have m2:=(lw l2).2
 refine ⟨a,?_⟩
 rcases l3 with q | q <;> (rw [q] at m1 m2 ⊢; omega)
theorem qE {a b x c:En} (ha:a.ok) (hb:b.ok) (hx:x.ok) (hc:c.ok) (h1:a.le x) (h2:x.le b):(jH (aJ a c) (aJ b c)).le (aJ x c)∧(aJ x c).le (jI (aJ a c) (aJ b c)):=by
 obtain ⟨l1,l2,_⟩:=kT (aJ a c) (aJ b c)
 obtain ⟨g1,g2,_⟩:=kU (aJ a c) (aJ b c)
 rcases Int.le_total 0 (dX c) with s | s
 ·exact ⟨l1.le_trans (il ha hx hc h1 s),(il hx hb hc h2 s).le_trans g2⟩
 ·exact ⟨l2.le_trans (io hx hb hc h2 s),(io ha hx hc h1 s).le_trans g1⟩
def kE (a b c d:En):En:=jH (jH (jH (aJ a c) (aJ a d)) (aJ b c)) (aJ b d)
def kF (a b c d:En):En:=jI (jI (jI (aJ a c) (aJ a d)) (aJ b c)) (aJ b d)
theorem Hg (a b c d:En):(kE a b c d).le (aJ a c)∧(kE a b c d).le (aJ a d)∧(kE a b c d).le (aJ b c)∧(kE a b c d).le (aJ b d):=by
 unfold kE
 have h1:=kT (aJ a c) (aJ a d)
 have h2:=kT (jH (aJ a c) (aJ a d)) (aJ b c)
 have h3:=kT (jH (jH (aJ a c) (aJ a d)) (aJ b c)) (aJ b d)
 exact ⟨h3.1.le_trans (h2.1.le_trans h1.1),h3.1.le_trans (h2.1.le_trans h1.2.1),h3.1.le_trans h2.2.1,h3.2.1⟩
theorem Hh (a b c d:En):(aJ a c).le (kF a b c d)∧(aJ a d).le (kF a b c d)∧(aJ b c).le (kF a b c d)∧(aJ b d).le (kF a b c d):=by
 unfold kF
 have h1:=kU (aJ a c) (aJ a d)
 have h2:=kU (jI (aJ a c) (aJ a d)) (aJ b c)
 have h3:=kU (jI (jI (aJ a c) (aJ a d)) (aJ b c)) (aJ b d)
 exact ⟨(h1.1.le_trans h2.1).le_trans h3.1,(h1.2.1.le_trans h2.1).le_trans h3.1,h2.2.1.le_trans h3.1,h3.2.1⟩
theorem yR {a b x:En} (h:x.le a) (k:x.le b):x.le (jH a b):=by rcases (kT a b).2.2 with q | q <;> (rw [q]; assumption)
theorem yS {a b x:En} (h:a.le x) (k:b.le x):(jI a b).le x:=by rcases (kU a b).2.2 with q | q <;> (rw [q]; assumption)
theorem LD {a b c d x y:En} (ha:a.ok) (hb:b.ok) (hc:c.ok) (hd:d.ok) (hx:x.ok) (hy:y.ok) (h1:a.le x) (h2:x.le b) (h3:c.le y) (h4:y.le d) :
  (kE a b c d).le (aJ x y)∧(aJ x y).le (kF a b c d):=by
 obtain ⟨l1,l2,l3,l4⟩:=Hg a b c d
 obtain ⟨g1,g2,g3,g4⟩:=Hh a b c d
 have p:=qE hc hd hy hx h3 h4
 rw [gF c,gF d,gF y] at p
 have pc:=qE ha hb hx hc h1 h2
 have pd:=qE ha hb hx hd h1 h2
 exact ⟨(yR ((yR l1 l3).le_trans pc.1) ((yR l2 l4).le_trans pd.1)).le_trans p.1,p.2.le_trans (yS (pc.2.le_trans (yS g1 g3)) (pd.2.le_trans (yS g2 g4)))⟩
def Ca (a b:En):En:=if dX a<=0∧0<=dX b then ⟨0,0⟩ else jH (aJ a a) (aJ b b)
def wG (a b:En):En:=jI (aJ a a) (aJ b b)
theorem LE {a:En} (h:a.ok):(⟨0,0⟩:En).le (aJ a a):=by
 rcases Int.le_total 0 (dX a) with s | s
 ·have hz:(⟨0,0⟩:En).le a:=by
   by_cases ia:a.i=0
   ·rw [fM ia] at s
    exact .inr ⟨ia.symm,(qD a.v).2.2.1.1 s⟩
   ·rw [jA ia] at s
    exact .inl (by show 0<a.i; omega)
  have:=il (.inl rfl) h h hz s
  rw [t9] at this
  exact this
 ·have hz:a.le (⟨0,0⟩:En):=by
   by_cases ia:a.i=0
   ·rw [fM ia] at s
    exact .inr ⟨ia,(qD a.v).2.2.2.1 s⟩
   ·rw [jA ia] at s
    exact .inl (by show a.i<0; omega)
  have:=io h (.inl rfl) h hz s
  rw [t9] at this
  exact this
theorem LF {a b x:En} (ha:a.ok) (hb:b.ok) (hx:x.ok) (h1:a.le x) (h2:x.le b):(Ca a b).le (aJ x x)∧(aJ x x).le (wG a b):=by
 have m1:=pi ha hx h1
 have m2:=pi hx hb h2
 obtain ⟨l1,l2,_⟩:=kT (aJ a a) (aJ b b)
 obtain ⟨g1,g2,_⟩:=kU (aJ a a) (aJ b b)
 have hi:(aJ x x).le (wG a b):=by
  unfold wG
  rcases Int.le_total 0 (dX x) with s | s
  ·have p1:=il hx hb hx h2 s
   have p2:=il hx hb hb h2 (by omega)
   rw [gF x b] at p2
   exact (p1.le_trans p2).le_trans g2
  ·have p1:=io ha hx hx h1 s
   have p2:=io ha hx ha h1 (by omega)
   rw [gF x a] at p2
   exact (p1.le_trans p2).le_trans g1
 refine ⟨?_,hi⟩
 unfold Ca
 split
 ·exact LE hx
 ·rename_i hs
  by_cases s:0<dX a
  ·have p1:=il ha hx ha h1 (by omega)
   have p2:=il ha hx hx h1 (by omega)
   rw [gF x a] at p1
   exact l1.le_trans (p1.le_trans p2)
  ·have s2:dX b<0:=by omega
   have p1:=io hx hb hb h2 (by omega)
   have p2:=io hx hb hx h2 (by omega)
   rw [gF x b] at p1
   exact l2.le_trans (p1.le_trans p2)
theorem IG {p:Int} (hp:nn p):dX (aN p)=if rg p=0 then 0 else if p<0 then -1 else 1:=by
 by_cases hi:rg p=9218868437227405312
 ·have h0:¬ rg p=0:=by omega
  rw [iZ hi,jA (by exact yN hi),if_neg h0]
 ·rw [gD hi,fM rfl]
  show iI (ar p)=_
  have hv:=bF hp.1 (eM hp hi)
  obtain ⟨k1,k2⟩:=my hp.1
  have hk:=mD hp.1
  have hr:=kB hp
  have hpw:=bD (-1074)
  unfold iI
  by_cases h0:rg p=0
  ·have hz:iV p=0:=by
    have:au p=0:=by rw [hk,h0]; split <;> rfl
    omega
   rw [if_pos h0,hv,hz,Int.zero_mul]
   simp
  ·rw [if_neg h0]
   by_cases hn:p<0
   ·have:iV p<0:=k1.2 (by rw [hk,if_pos hn]; omega)
    have:ar p<0:=by rw [hv]; exact Int.mul_neg_of_neg_of_pos this hpw
    rw [if_pos this,if_pos hn]
   ·have:0<iV p:=k2.2 (by rw [hk,if_neg hn]; omega)
    have:0<ar p:=by rw [hv]; exact Int.mul_pos this hpw
    rw [if_neg (by omega),if_pos this,if_neg hn]
theorem E0 {p q:Int} (hp:nn p) (hq:nn q):aI (dA p q)=cD (aJ (aN p) (aN q))∧aI (dC p q)=cE (aJ (aN p) (aN q)):=by
 have sp:=IG hp
 have sq:=IG hq
 have c0:aI 0=0:=by decide
 have c1:aI 9218868437227405312=9218868437227405312:=by decide
 have c2:aI (-4503599627370496)=-4503599627370496:=by decide
 by_cases h0:rg p=0∨rg q=0
 ·have hE:aJ (aN p) (aN q)=⟨0,0⟩:=by
   unfold aJ
   rw [sp,sq]
   rw [if_pos]
   rcases h0 with h | h
   ·rw [if_pos h]; exact Int.zero_mul _
   ·rw [if_pos h]; exact Int.mul_zero _
  rw [hE]
  unfold dA dC cD cE
  rw [if_pos h0,if_pos h0]
  simp only [Int.lt_irrefl,if_false]
  rw [c0]
  exact ⟨mC.1.symm,mC.2.symm⟩
 ·by_cases hi:rg p=9218868437227405312∨rg q=9218868437227405312
  ·have hn1:rg p≠0:=fun k=>h0 (.inl k)
   have hn2:rg q≠0:=fun k=>h0 (.inr k)
   rw [if_neg hn1] at sp
   rw [if_neg hn2] at sq
   have hE:aJ (aN p) (aN q)=⟨(if p<0 then -1 else 1)*(if q<0 then -1 else 1),0⟩:=by
    unfold aJ
    rw [sp,sq]
    rw [if_neg (by split <;> split <;> decide),if_pos]
    rcases hi with h | h
    ·left; rw [iZ h]; exact yN h
    ·right; rw [iZ h]; exact yN h
   rw [hE]
   unfold dA dC cD cE
   rw [if_neg h0,if_pos hi,if_neg h0,if_pos hi]
   unfold bv aC
   by_cases a:p<0 <;> by_cases b:q<0 <;> simp [a,b] <;> decide
  ·have ip:¬ rg p=9218868437227405312:=fun k=>hi (.inl k)
   have iq:¬ rg q=9218868437227405312:=fun k=>hi (.inr k)
   obtain ⟨e1,e2⟩:=Lz hp.1 hq.1 (eM hp ip) (eM hq iq)
   rw [gD ip,gD iq,ek rfl rfl]
   have hm:ej (ar p) (ar q)=ce p q:=Lm.symm
   unfold cD cE
   simp only [Int.lt_irrefl,if_false]
   rw [hm]
   exact ⟨e1,e2⟩
theorem q5 {p q:Int} (hp:nn p) (hq:nn q):au (dA p q)=au (cD (aJ (aN p) (aN q)))∧au (dC p q)=au (cE (aJ (aN p) (aN q))) :=
 ⟨M8 (cS hp hq).1 (E0 hp hq).1,M9 (cS hp hq).2 (E0 hp hq).2⟩
theorem LG {a b c d:Int} (ha:nn a) (hb:nn b) (hc:nn c) (hd:nn d):aI (sP a b c d)=cD (kE (aN a) (aN b) (aN c) (aN d))∧aI (sQ a b c d)=cE (kF (aN a) (aN b) (aN c) (aN d)):=by
 obtain ⟨n1,m1⟩:=cS ha hc
 obtain ⟨n2,m2⟩:=cS ha hd
 obtain ⟨n3,m3⟩:=cS hb hc
 obtain ⟨n4,m4⟩:=cS hb hd
 obtain ⟨k1,l1⟩:=q5 ha hc
 obtain ⟨k2,l2⟩:=q5 ha hd
 obtain ⟨k3,l3⟩:=q5 hb hc
 obtain ⟨k4,l4⟩:=q5 hb hd
 have A1:=yP n1 n2 k1 k2
 have A2:=yP A1.1 n3 A1.2 k3
 have A3:=yP A2.1 n4 A2.2 k4
 have B1:=yQ m1 m2 l1 l2
 have B2:=yQ B1.1 m3 B1.2 l3
 have B3:=yQ B2.1 m4 B2.2 l4
 exact ⟨M6 A3.1 A3.2,M7 B3.1 B3.2⟩
def c6 (a:En):En:=⟨-a.i,-a.v⟩
theorem J4 {a b:Bool} (h:a≠b) (X:Int):sg a X=- sg b X:=by
 cases a <;> cases b <;> simp [sg] at h ⊢
theorem E5 {p:Int} (hp:nn p) (hf:ak p=true) (hn:ak (neg p)=true):ar (neg p)=- ar p:=by
 obtain ⟨g1,g2⟩:=nQ hp
 rw [jF hp.1 hf,jF (fj hp).1.1 hn,g1]
 exact J4 g2 _
theorem LH (x:Int):c6 ⟨0,x⟩=⟨0,-x⟩:=rfl
theorem E6 {p:Int} (hp:nn p):aN (neg p)=c6 (aN p):=by
 obtain ⟨hn,hk⟩:=fj hp
 obtain ⟨g1,g2⟩:=nQ hp
 by_cases hi:rg p=9218868437227405312
 ·rw [iZ hi,iZ (by rw [g1]; exact hi)]
  unfold c6
  have:(neg p<0) ↔ ¬ p<0:=by
   by_cases a:neg p<0 <;> by_cases b:p<0 <;> simp [a,b] at g2 ⊢
  by_cases b:p<0
  ·rw [if_pos b,if_neg (fun k=>this.1 k b)]; rfl
  ·rw [if_neg b,if_pos (this.2 b)]; rfl
 ·have hi':¬ rg (neg p)=9218868437227405312:=by rw [g1]; exact hi
  rw [gD hi,gD hi',LH,E5 hp (eM hp hi) (eM hn hi')]
theorem J5 {P:Program} (w:World) (d:Nat) (t:TypeId) (k:FloatKind) (a b:Nat) (h:P.underlying t=some (.float k)):(Op.equalIn (d+1) t (.float .f64 a) (.float .f64 b)).run P w=.ok (FloatKind.f64.format.order a b == some .eq) w:=by
 simp [Op.equalIn,run_underlying h,Op.floatEq]
theorem yT {x y:Int} (h:x<=y):(⟨0,sg false x⟩:En).le ⟨0,sg false y⟩:=.inr ⟨rfl,h⟩
theorem yU {x y:Int} (h:y<=x):(⟨0,sg true x⟩:En).le ⟨0,sg true y⟩:=.inr ⟨rfl,Int.neg_le_neg h⟩
theorem IH (x:Int):(⟨0,x⟩:En).le ⟨1,0⟩:=.inl (by show (0:Int)<1; decide)
theorem II (x:Int):(⟨-1,0⟩:En).le ⟨0,x⟩:=.inl (by show (-1:Int)<0; decide)
theorem qF (g:Bool) {r:Nat} (h:(r:Int)<9218868437227405312):aN (aC (g && decide (0<(r:Int))) (r:Int))=⟨0,sg g (vS r)⟩:=by
 obtain ⟨a,b,c⟩:=cW (ng:=g && decide (0<(r:Int))) (r:=(r:Int)) (by omega) (by omega)
 rw [gD (by rw [b]; omega)]
 refine En.eq rfl ?_
 show ar _=sg g (vS r)
 rw [jF a ((bw a).2 (by rw [b]; exact h)),b,c,Int.toNat_natCast]
 by_cases h0:0<r
 ·rw [decide_eq_true (by omega),Bool.and_true]
 ·have:r=0:=by omega
  subst this
  rw [gM]
  cases g <;> rfl
theorem u7 (g:Bool):aN (aC (g && decide ((0:Int)<9218868437227405312)) 9218868437227405312)=⟨if g then -1 else 1,0⟩:=by
 cases g
 ·rw [iZ (by decide)]; rfl
 ·rw [iZ (by decide)]; rfl
theorem J6 {r s:Nat} (h:r<=s):vS r<=vS s:=by
 rcases Nat.lt_or_eq_of_le h with g | g
 ·exact Int.le_of_lt (ku g)
 ·rw [g]; exact Int.le_refl _
theorem Na:c9 1 false=9218868437227405311∧c9 1 true=9218868437227405312∧c9 2 false=9218868437227405312∧c9 2 true=9218868437227405311:=⟨by decide,by decide,by decide,by decide⟩
theorem yV {ng:Bool} {r0:Nat} {left:Int} (way:Int) (h:¬ (r0:Int)<9218868437227405312):bk way ng r0 left=c9 way ng:=by
 unfold bk; rw [if_neg h]
theorem J7 {g:Bool} {A:Int} {r0:Nat} {left:Int} (hR:dM A r0 left) :
  (aN (aC (g && decide (0<bk 1 g r0 left)) (bk 1 g r0 left))).le ⟨0,sg g A⟩∧(⟨0,sg g A⟩:En).le (aN (aC (g && decide (0<bk 2 g r0 left)) (bk 2 g r0 left))):=by
 obtain ⟨h1,h2,h3⟩:=And.intro hR.lo (And.intro hR.hi hR.l0)
 obtain ⟨b1,b2,b3,b4⟩:=Na
 by_cases hr:(r0:Int)<9218868437227405312
 ·obtain ⟨u1,u2,u3,u4,u5⟩:=tQ (decide (r0 % 2=1)) left
  rw [jg 1 hr,jg 2 hr]
  by_cases hl:left=0
  ·have hA:=h3.1 hl
   rw [u5 1 g hl,u5 2 g hl,hA]
   simp only [Bool.false_eq_true,if_false,Int.add_zero]
   rw [qF g hr]
   exact ⟨En.le_refl _,En.le_refl _⟩
  ·have hup:∀ s:Bool,(aN (aC (s && decide (0<(r0:Int)+1)) ((r0:Int)+1)))=if (r0:Int)+1<9218868437227405312 then ⟨0,sg s (vS (r0+1))⟩ else ⟨if s then -1 else 1,0⟩:=fun s=>by
    by_cases q:(r0:Int)+1<9218868437227405312
    ·rw [if_pos q]
     have:=qF s (r:=r0+1) (by omega)
     rw [Int.natCast_add] at this
     exact this
    ·rw [if_neg q]
     have e:(r0:Int)+1=9218868437227405312:=by omega
     rw [e]
     exact u7 s
   cases g
   ·rw [u1,u4 hl]
    simp only [Bool.false_eq_true,if_false,if_true,Int.add_zero]
    rw [qF false hr,hup false]
    refine ⟨yT h1,?_⟩
    split
    ·exact yT (Int.le_of_lt h2)
    ·exact IH _
   ·rw [u2 hl,u3]
    simp only [Bool.false_eq_true,if_false,if_true,Int.add_zero]
    rw [qF true hr,hup true]
    refine ⟨?_,yU h1⟩
    split
    ·exact yU (Int.le_of_lt h2)
    ·exact II _
 ·rw [yV 1 hr,yV 2 hr]
  have hm:=qF g (r:=9218868437227405311) (by decide)
  have hv:vS 9218868437227405311<=A:=Int.le_trans (J6 (by omega)) h1
  have hm':aN (aC (g && decide ((0:Int)<9218868437227405311)) 9218868437227405311)=⟨0,sg g (vS 9218868437227405311)⟩:=hm
  clear hm
  generalize vS 9218868437227405311=X at hm' hv
  cases g
  ·rw [b1,b3,hm',u7 false]
   exact ⟨yT hv,IH _⟩
  ·rw [b2,b4,hm',u7 true]
   exact ⟨II _,yU hv⟩
theorem u9:aN 0=⟨0,0⟩:=by rw [gD (by decide),kC.1]
theorem q6 (V:Int):(aN (gZ V)).le ⟨0,V⟩∧(⟨0,V⟩:En).le (aN (g9 V)):=by
 by_cases h0:V=0
 ·subst h0
  rw [mC.1,mC.2,u9]
  exact ⟨En.le_refl _,En.le_refl _⟩
 ·obtain ⟨g,A,r0,left,e,hA,hR,c1,c2⟩:=tX h0
  rw [c1,c2,e]
  exact J7 hR
theorem Nb {p q:Int} (hp:nn p) (hq:nn q) (h:(aN p).le (aN q)):au p<=au q:=by
 have:=(lw h).1
 rw [(nw hp).1,(nw hq).1,(jV hp).1,(jV hq).1] at this
 exact this
theorem LI (V:Int):au (gZ V)<=au (g9 V):=Nb (iY V).1 (iY V).2 ((q6 V).1.le_trans (q6 V).2)
theorem Od (a:En):au (cD a)<=au (cE a):=by
 unfold cD cE
 split
 ·exact Int.le_refl _
 ·split
  ·exact Int.le_refl _
  ·exact LI _
theorem IJ (V:Int):au (gZ V)<9218868437227405312∧-9218868437227405312<au (g9 V):=by
 obtain ⟨h1,h2⟩:=q6 V
 have n1:=(iY V).1
 have n2:=(iY V).2
 have i1:=mV nU.1 n1
 have i2:=mV n2 nU.2
 rw [sR.1] at i1
 rw [sR.2] at i2
 rw [iZ (show rg 9218868437227405312=9218868437227405312 by decide)] at i1
 rw [iZ (show rg (-4503599627370496)=9218868437227405312 by decide)] at i2
 constructor
 ·refine Int.lt_of_not_ge fun q=>?_
  have:=(i1 q).le_trans h1
  unfold En.le at this
  simp at this
 ·refine Int.lt_of_not_ge fun q=>?_
  have:=h2.le_trans (i2 q)
  unfold En.le at this
  simp at this
theorem Nc {e f:En} (h:e.le f) (h1:e.i<=0) (h2:0<=f.i):bT (cD e) (cE f)=true:=by
 have n1:=(u6 e).1
 have n2:=(u6 f).2
 refine jU.2 ⟨n1.2,n2.2,Int.le_trans (lw h).1 (Od f),?_,?_⟩
 ·unfold cD
  rw [if_neg (by omega)]
  split
  ·decide
  ·exact (IJ _).1
 ·unfold cE
  split
  ·decide
  ·rw [if_neg (by omega)]
   exact (IJ _).2
structure cP (e f:En) (V:Int):Prop where
 lo:e.le ⟨0,V⟩
 hi:(⟨0,V⟩:En).le f
theorem cP.vld {e f:En} {V:Int} (h:cP e f V):bT (cD e) (cE f)=true:=by
 refine Nc (h.lo.le_trans h.hi) ?_ ?_
 ·have:=h.lo; unfold En.le at this; simp at this; omega
 ·have:=h.hi; unfold En.le at this; simp at this; omega
theorem cP.keys {e f:En} {V:Int} (h:cP e f V):au (cD e)<=au (gZ V)∧au (g9 V)<=au (cE f):=by
 have h1:=(lw h.lo).1
 have h2:=(lw h.hi).2
 unfold cD at h1 ⊢
 unfold cE at h2 ⊢
 exact ⟨h1,h2⟩
theorem yW {a c:En} (ha:a.i=0) (hc:c.i=0):bQ a c=⟨0,a.v+c.v⟩:=by
 unfold bQ; rw [if_neg (fun k=>k ha),if_neg (fun k=>k hc)]
theorem E8 {a c:En} (ha:a.i≠0):bQ a c=a:=if_pos ha
theorem E9 {a c:En} (ha:a.i=0) (hc:c.i≠0):bQ a c=c:=by
 unfold bQ; rw [if_neg (fun k=>k ha),if_pos hc]
theorem cP.plus {a b c d:En} {x y:Int} (h:cP a b x) (k:cP c d y):cP (bQ a c) (bQ b d) (x+y):=by
 have h1:=h.lo
 have h2:=h.hi
 have k1:=k.lo
 have k2:=k.hi
 unfold En.le at h1 h2 k1 k2
 simp only at h1 h2 k1 k2
 constructor
 ·by_cases ia:a.i=0
  ·by_cases ic:c.i=0
   ·rw [yW ia ic]; exact .inr ⟨rfl,by show a.v+c.v<=x+y; omega⟩
   ·rw [E9 ia ic]; exact .inl (by show c.i<0; omega)
  ·rw [E8 ia]; exact .inl (by show a.i<0; omega)
 ·by_cases ib:b.i=0
  ·by_cases id:d.i=0
   ·rw [yW ib id]; exact .inr ⟨rfl,by show x+y<=b.v+d.v; omega⟩
   ·rw [E9 ib id]; exact .inl (by show 0<d.i; omega)
  ·rw [E8 ib]; exact .inl (by show 0<b.i; omega)
theorem cP.neg {a b:En} {x:Int} (h:cP a b x):cP (c6 b) (c6 a) (-x):=by
 have h1:=h.lo
 have h2:=h.hi
 unfold En.le at h1 h2
 simp only at h1 h2
 constructor
 ·unfold c6 En.le; simp only; omega
 ·unfold c6 En.le; simp only; omega
theorem cP.times {a b c d:En} {x y:Int} (ha:a.ok) (hb:b.ok) (hc:c.ok) (hd:d.ok) (h:cP a b x) (k:cP c d y):cP (kE a b c d) (kF a b c d) (ej x y):=by
 have:=LD ha hb hc hd (.inl rfl) (.inl rfl) h.lo h.hi k.lo k.hi
 rw [ek rfl rfl] at this
 exact ⟨this.1,this.2⟩
theorem cP.square {a b:En} {x:Int} (ha:a.ok) (hb:b.ok) (h:cP a b x):cP (Ca a b) (wG a b) (ej x x):=by
 have:=LF ha hb (.inl rfl) h.lo h.hi
 rw [ek rfl rfl] at this
 exact ⟨this.1,this.2⟩
theorem cP.of {lo hi b:Int} (hl:nn lo) (hh:nn hi) (hb:nn b) (pb:ak b=true) (h:au lo<=au b) (k:au b<=au hi):cP (aN lo) (aN hi) (ar b):=by
 have hf:¬ rg b=9218868437227405312:=by have:=(bw hb.1).1 pb; omega
 have h1:=mV hl hb h
 have h2:=mV hb hh k
 rw [gD hf] at h1 h2
 exact ⟨h1,h2⟩
theorem cP.vldP {lo hi:Int} {V:Int} (hl:nn lo) (hh:nn hi) (h:cP (aN lo) (aN hi) V):M.bT lo hi=true:=by
 have hv:=h.vld
 rw [(nw hl).1,(nw hh).2] at hv
 obtain ⟨v1,v2,v3,v4,v5⟩:=jU.1 hv
 rw [(jV hl).1] at v3 v4
 rw [(jV hh).1] at v3 v5
 exact jU.2 ⟨hl.2,hh.2,v3,v4,v5⟩
theorem yX {p:Int} (h:nn p):aN (aI p)=aN p:=by
 by_cases h0:aG p=0
 ·have hz:=(dZ h.1).2.1 h0
  have hc:aI p=0:=by unfold aI; rw [if_neg h.2,if_pos h0]
  rw [hc,u9,gD (by omega)]
  rcases AT h.1 hz with rfl | rfl
  ·rw [kC.1]
  ·rw [kC.2]
 ·have hc:aI p=p:=by unfold aI; rw [if_neg h.2,if_neg h0]
  rw [hc]
theorem LJ (V:Int):(0<au (gZ V)->0<V)∧(au (g9 V)<0->V<0)∧(au (gZ V)<=0->0<=au (g9 V)->au (gZ V)=0->au (g9 V)=0->V=0):=by
 have k0:au 0=0:=by decide
 obtain ⟨h1,h2⟩:=q6 V
 have n1:=(iY V).1
 have n2:=(iY V).2
 refine ⟨fun h=>?_,fun h=>?_,fun _ _ h k=>?_⟩
 ·refine Int.lt_of_not_ge fun q=>?_
  have:=(yL q).1
  rw [mC.1,k0] at this
  omega
 ·refine Int.lt_of_not_ge fun q=>?_
  have:=(yL q).2
  rw [mC.2,k0] at this
  omega
 ·have a:=(mV jx.1 n1 (by rw [k0,h]; exact Int.le_refl _)).le_trans h1
  have b:=h2.le_trans (mV n2 jx.1 (by rw [k0,k]; exact Int.le_refl _))
  rw [u9] at a b
  unfold En.le at a b
  simp only at a b
  omega
def ua (a b:Int):Int:=if bT a b then (if 0<au a then 1 else if au b<0 then -1 else 0) else 0
def pB (a b:Int):Bool:=bT a b && (decide (0<au a) || (decide (au b<0) || (decide (au a=0) && decide (au b=0))))
theorem LK {a:Int} (ha:nn a):(0<au a->FloatKind.f64.format.order (wd a) 0=some .gt)∧(au a=0->FloatKind.f64.format.order (wd a) 0=some .eq)∧(au a<0->FloatKind.f64.format.order (wd a) 0=some .lt):=by
 have w0:wd 0=0:=by decide
 have k0:au 0=0:=by decide
 refine ⟨fun g=>?_,fun g=>?_,fun g=>?_⟩
 ·have:=fU ha.1 jx.1.1 ha.2 jx.1.2 (by rw [k0]; exact g); rw [w0] at this; exact this
 ·have:=fJ ha.1 jx.1.1 ha.2 jx.1.2 (by rw [k0]; exact g); rw [w0] at this; exact this
 ·have:=fR ha.1 jx.1.1 ha.2 jx.1.2 (by rw [k0]; exact g); rw [w0] at this; exact this
theorem Fa {a b:Int} (A B:Nat) (v kn:Bool) (n:Int) (er:Int) (w:World)
  (R1:Hid (∀ W,Calls Tryz.prog 53 #[.agg #[.int .i64 a,.int .i64 b]] W fun e w'=>e=.returned (.agg #[.float .f64 A,.float .f64 B])∧Below W.heap.size W w'))
  (V1:Hid (∀ W,Calls Tryz.prog 54 #[.agg #[.float .f64 A,.float .f64 B]] W fun e w'=>e=.returned (.bool v)∧Below W.heap.size W w'))
  (O:(v=false∧n=0∧kn=false∧er=1)∨(v=true∧er=0∧((FloatKind.f64.format.order A 0=some .gt∧n=1∧kn=true)∨((FloatKind.f64.format.order A 0=some .lt∨FloatKind.f64.format.order A 0=some .eq)∧FloatKind.f64.format.order B 0=some .lt∧n=-1∧kn=true)∨(FloatKind.f64.format.order A 0=some .lt∧(FloatKind.f64.format.order B 0=some .gt∨FloatKind.f64.format.order B 0=some .eq)∧n=0∧kn=false)∨(FloatKind.f64.format.order A 0=some .eq∧FloatKind.f64.format.order B 0=some .gt∧n=0∧kn=false)∨(FloatKind.f64.format.order A 0=some .eq∧FloatKind.f64.format.order B 0=some .eq∧n=0∧kn=true)))) :
  Calls Tryz.prog 32 #[.agg #[.int .i64 a,.int .i64 b]] w fun e w'=>e=.returned (.tuple #[.int .i64 n,.bool kn,.int .i64 er])∧Below w.heap.size w w':=by
 have hst:∀ (p:Addr) (n:Nat) (m:Mode) (w:World),(store p (.float .f64 n) m).run Tryz.prog w=stored Tryz.prog w p (.float .f64 n) m:=fun p n m w=>run_store _ w p _ m rfl
 have QX:∀ (x:Nat) W,(Op.equalIn 9999 47 (.float .f64 x) (.float .f64 0)).run Tryz.prog W=.ok (FloatKind.f64.format.order x 0 == some .eq) W:=fun x W=>by rw [J5 W 9998 47 _ x 0 Tryz.underlying47]
 have hb:=ah w (.cells #[.int .i64 a,.int .i64 b] 60)
 rcases O with ⟨rfl,rfl,rfl,rfl⟩ | ⟨rfl,rfl,O⟩
 ·go_enter Tryz.func32,Tryz.ntmps32
  go_wp2_with fail
  generalize w.alloc (.cells #[.int .i64 a,.int .i64 b] 60)=wx at *
  refine (R1.out _).mono ?_
  rintro _ w1 ⟨rfl,hb1⟩
  have hba:=ah w1 (.cells #[.float .f64 A,.float .f64 B] 87)
  have hg:=AP w1 (.cells #[.float .f64 A,.float .f64 B] 87) rfl
  go_wp2_with fail
  generalize w1.alloc (.cells #[.float .f64 A,.float .f64 B] 87)=w2 at *
  refine (V1.out _).mono ?_
  rintro _ w3 ⟨rfl,hb2⟩
  go_wp2
  refine bodyPost_ret (v:=.tuple #[.int .i64 0,.bool false,.int .i64 1]) (by simp [results,Tryz.results32,go_sem]) rfl ⟨rfl,aa hb (aa hb1 (aa hba hb2))⟩
 ·rcases O with ⟨o1,rfl,rfl⟩ | ⟨o1 | o1,o2,rfl,rfl⟩ | ⟨o1,o2 | o2,rfl,rfl⟩ | ⟨o1,o2,rfl,rfl⟩ | ⟨o1,o2,rfl,rfl⟩
  all_goals
   go_enter Tryz.func32,Tryz.ntmps32
   go_wp2_with fail
   generalize w.alloc (.cells #[.int .i64 a,.int .i64 b] 60)=wx at *
   refine (R1.out _).mono ?_
   rintro _ w1 ⟨rfl,hb1⟩
   have hba:=ah w1 (.cells #[.float .f64 A,.float .f64 B] 87)
   have hg:=AP w1 (.cells #[.float .f64 A,.float .f64 B] 87) rfl
   go_wp2_with fail
   generalize w1.alloc (.cells #[.float .f64 A,.float .f64 B] 87)=w2 at *
   refine (V1.out _).mono ?_
   rintro _ w3 ⟨rfl,hb2⟩
   have hg3:=(hb2.block _ (Array.getElem?_eq_some_iff.1 hg).1).trans hg
   have c0:w3.cell? ⟨w1.heap.size,0,none⟩=some (.float .f64 A):=ac hg3 0 rfl
   have c1:w3.cell? ⟨w1.heap.size,1,none⟩=some (.float .f64 B):=ac hg3 1 rfl
   have kd:w3.drew.cell? ⟨w1.heap.size,0,none⟩=some (.float .f64 A)∧w3.drew.cell? ⟨w1.heap.size,1,none⟩=some (.float .f64 B):=⟨c0,c1⟩
  ·go_wp2
   refine bodyPost_ret (v:=.tuple #[.int .i64 1,.bool true,.int .i64 0]) (by simp [results,Tryz.results32,go_sem]) rfl ⟨rfl,aa hb (aa hb1 (aa hba hb2))⟩
  iterate 2
   ·go_wp2
    refine bodyPost_ret (v:=.tuple #[.int .i64 (-1),.bool true,.int .i64 0]) (by simp [results,Tryz.results32,go_sem]) rfl ⟨rfl,aa hb (aa hb1 (aa hba hb2))⟩
  all_goals
   have QA:=fun W=>QX A W
   have QB:=fun W=>QX B W
   rw [o1] at QA
   rw [o2] at QB
   clear QX
   go_wp2_with fail
   go_region_held3 (fun W=>W.cell? ⟨w1.heap.size,0,none⟩=some (.float .f64 A)∧W.cell? ⟨w1.heap.size,1,none⟩=some (.float .f64 B)) (first | assumption | exact kd) (fail)
   go_wp2
  iterate 3
   ·exact bodyPost_ret (v:=.tuple #[.int .i64 0,.bool false,.int .i64 0]) (by simp [results,Tryz.results32,go_sem]) rfl ⟨rfl,(aa hb (aa hb1 (aa hba hb2))).drew⟩
  ·exact bodyPost_ret (v:=.tuple #[.int .i64 0,.bool true,.int .i64 0]) (by simp [results,Tryz.results32,go_sem]) rfl ⟨rfl,(aa hb (aa hb1 (aa hba hb2))).drew⟩
theorem Fb {a b:Int} (ha:aj a) (hb:aj b) (w:World) :
  Calls Tryz.prog 32 #[eK a b] w fun e w'=>e=.returned (.tuple #[.int .i64 (ua a b),.bool (pB a b),.int .i64 (kQ (bT a b))])∧Below w.heap.size w w':=by
 refine Fa (wd a) (wd b) (bT a b) (pB a b) (ua a b) (kQ (bT a b)) w (fun W=>GK a b W) (fun W=>sN ha hb W) ?_
 cases hv:bT a b
 ·left
  unfold ua pB kQ
  rw [hv]
  simp
 ·right
  obtain ⟨va,vb,h1,h2,h3⟩:=jU.1 hv
  obtain ⟨a1,a2,a3⟩:=LK ⟨ha,va⟩
  obtain ⟨b1,b2,b3⟩:=LK ⟨hb,vb⟩
  refine ⟨rfl,rfl,?_⟩
  unfold ua pB
  rw [hv]
  simp only [if_true,Bool.true_and]
  by_cases p1:0<au a
  ·left
   exact ⟨a1 p1,if_pos p1,by simp [p1]⟩
  ·right
   have p1':au a<0∨au a=0:=by omega
   by_cases p2:au b<0
   ·left
    exact ⟨p1'.imp a3 a2,b3 p2,by rw [if_neg p1,if_pos p2],by simp [p2]⟩
   ·right
    have q0:decide (0<au a)=false:=decide_eq_false p1
    have q1:decide (au b<0)=false:=decide_eq_false p2
    rw [if_neg p1,if_neg p2,q0,q1]
    simp only [Bool.false_or]
    rcases p1' with p3 | p3
    ·left
     refine ⟨a3 p3,?_,by first | rfl | trivial,by rw [decide_eq_false (by omega)]; rfl⟩
     rcases (show 0<au b∨au b=0 by omega) with q | q
     ·exact .inl (b1 q)
     ·exact .inr (b2 q)
    ·right
     rcases (show 0<au b∨au b=0 by omega) with q | q
     ·left
      exact ⟨a2 p3,b1 q,by first | rfl | trivial,by rw [decide_eq_false (show ¬ au b=0 by omega)]; simp⟩
     ·right
      exact ⟨a2 p3,b2 q,by first | rfl | trivial,by rw [decide_eq_true p3,decide_eq_true q]; rfl⟩
theorem Hi {a b c d l l' h' h:Nat} (w:World)
    (S1:Hid (∀ W,Calls Tryz.prog 115 #[.float .f64 a,.float .f64 c] W fun e w'=>e=.returned (.agg #[.float .f64 l,.float .f64 l'])∧Below W.heap.size W w'))
    (S2:Hid (∀ W,Calls Tryz.prog 115 #[.float .f64 b,.float .f64 d] W fun e w'=>e=.returned (.agg #[.float .f64 h',.float .f64 h])∧Below W.heap.size W w')) :
    Calls Tryz.prog 79 #[.agg #[.float .f64 a,.float .f64 b],.agg #[.float .f64 c,.float .f64 d]] w fun e w'=>e=.returned (.agg #[.float .f64 l,.float .f64 h])∧Below w.heap.size w w':=by
  obtain ⟨q0,q1,q2,hs,hb3⟩:=oY w (.cells #[.float .f64 a,.float .f64 b] 87) (.cells #[.float .f64 c,.float .f64 d] 87) (.cells #[.float .f64 0,.float .f64 0] 87)
  have k0:=ac q0 0 rfl
  have k1:=ac q0 1 rfl
  have k2:=ac q1 0 rfl
  have k3:=ac q1 1 rfl
  go_enter Tryz.func79,Tryz.ntmps79
  go_wp2_with fail
  generalize ((w.alloc (.cells #[.float .f64 a,.float .f64 b] 87)).alloc (.cells #[.float .f64 c,.float .f64 d] 87)).alloc (.cells #[.float .f64 0,.float .f64 0] 87)=wx at *
  obtain ⟨g,hg⟩:∃ g,w.heap.size+1+1=g:=⟨_,rfl⟩
  have hwg:w.heap.size+2<=g:=by omega
  replace q2:wx.drew.heap[g]?=some (.cells #[.float .f64 0,.float .f64 0] 87 (0,0)):=by rw [<- hg]; exact q2
  simp only [hg]
  clear hg
  have hc:(w.heap.size<w.heap.size+2∧w.heap.size+1<w.heap.size+2∧w.heap.size+2<=wx.drew.heap.size)∧wx.drew.cell? ⟨w.heap.size,0,none⟩=some (.float .f64 a)∧wx.drew.cell? ⟨w.heap.size,1,none⟩=some (.float .f64 b)∧wx.drew.cell? ⟨w.heap.size+1,0,none⟩=some (.float .f64 c)∧wx.drew.cell? ⟨w.heap.size+1,1,none⟩=some (.float .f64 d):=⟨⟨by omega,by omega,by show _<=wx.heap.size; omega⟩,k0,k1,k2,k3⟩
  have hbd:=hb3.drew
  have fl0:∀ w:World,(Instr.field 87 (.agg #[.float .f64 l,.float .f64 l']) 0).run Tryz.prog w=.ok (.float .f64 l) w:=fun w=>by kernel_rfl
  have fl1:∀ w:World,(Instr.field 87 (.agg #[.float .f64 h',.float .f64 h]) 1).run Tryz.prog w=.ok (.float .f64 h) w:=fun w=>by kernel_rfl
  clear q0 q1 k0 k1 k2 k3
  go_region_held3 (fun W=>(w.heap.size<w.heap.size+2∧w.heap.size+1<w.heap.size+2∧w.heap.size+2<=W.heap.size)∧W.cell? ⟨w.heap.size,0,none⟩=some (.float .f64 a)∧W.cell? ⟨w.heap.size,1,none⟩=some (.float .f64 b)∧W.cell? ⟨w.heap.size+1,0,none⟩=some (.float .f64 c)∧W.cell? ⟨w.heap.size+1,1,none⟩=some (.float .f64 d))
    (first | assumption | (repeat (first | exact hc | exact hc1 | exact hc2 | refine uY ?_ | refine yx (by omega) ?_)))
    (first
      | (go_at_call 115; have _t:=hb4; refine (S2.out _).mono ?_; rintro _ w2 ⟨rfl,hb5⟩; have hc2:=nS hc1 hb5; have d2:=((aa hb4 hb5).block _ (Array.getElem?_eq_some_iff.1 q2).1).trans q2; have d3:=aM d2 0 (.float .f64 l); have d4:=aM d3 1 (.float .f64 h); have f0:=ac d2 0 rfl; have z0:=aw d2 0; have f1:=ac d3 1 rfl; have z1:=aw d3 1; have s0:(store ⟨g,0,none⟩ (.float .f64 l)).run Tryz.prog w2=.ok () (w2.setCell ⟨g,0,none⟩ (.float .f64 l)):=(by rw [run_store _ _ _ _ _ rfl,f0]; simp only [z0]; rfl); have s1:(store ⟨g,1,none⟩ (.float .f64 h)).run Tryz.prog (w2.setCell ⟨g,0,none⟩ (.float .f64 l))=.ok () ((w2.setCell ⟨g,0,none⟩ (.float .f64 l)).setCell ⟨g,1,none⟩ (.float .f64 h)):=(by rw [run_store _ _ _ _ _ rfl,f1]; simp only [z1]; rfl))
      | (go_at_call 115; refine (S1.out _).mono ?_; rintro _ w1 ⟨rfl,hb4⟩; have hc1:=nS hc hb4))
  have e0:=ac d4 0 rfl
  have e1:=ac d4 1 rfl
  have hbe:=((aa hbd (aa hb4 hb5)).setCell (p:=⟨g,0,none⟩) (show w.heap.size<=g by omega) (.float .f64 l)).setCell (p:=⟨g,1,none⟩) (show w.heap.size<=g by omega) (.float .f64 h)
  clear d2 d3 d4 f0 f1 z0 z1 s0 s1 hc hc1 hc2
  generalize (w2.setCell ⟨g,0,none⟩ (.float .f64 l)).setCell ⟨g,1,none⟩ (.float .f64 h)=wy at *
  go_wp2
  refine bodyPost_ret (v:=.agg #[.float .f64 l,.float .f64 h]) (by simp [results,Tryz.results79,go_sem,e0,e1]) rfl ⟨rfl,hbe⟩
theorem Cb {p:Int} (h:aj p) (hr:rg p<=9218868437227405312):nn p:=⟨h,fun e=>by have:=(dZ h).1.1 e; omega⟩
theorem yY {p:Int} (h:nn p):nn (next p):=by
 have h1:=kB h
 have h2:=h.1
 unfold aj at h2
 unfold next
 rw [if_neg h.2]
 unfold rg at h1
 split
 ·exact h
 ·split
  ·exact Cb (by unfold aj; omega) (by decide)
  ·split
   ·rename_i h4 h5 h6
    rw [if_pos h6] at h1
    exact Cb (by unfold aj; omega) (by unfold rg; split <;> omega)
   ·rename_i h4 h5 h6
    rw [if_neg h6] at h1
    exact Cb (by unfold aj; omega) (by unfold rg; split <;> omega)
theorem Hj {p:Int} (h:nn p):nn (dg p):=by
 unfold dg
 exact (fj (yY (fj h).1)).1
theorem IK {n l:Int} (h:nn n):nn (dw n l)∧nn (dz n l):=by
 unfold dw dz
 refine ⟨?_,?_⟩
 ·split
  ·exact Hj h
  ·exact h
 ·split
  ·exact h
  ·split
   ·exact yY h
   ·exact h
end Go.Proofs.YtcjfonaolcokbaaGreatDoor
