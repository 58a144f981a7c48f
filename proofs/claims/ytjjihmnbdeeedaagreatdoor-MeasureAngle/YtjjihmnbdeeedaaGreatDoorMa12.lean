/- Parts of the proof. -/
import Derived.Test.YtjjihmnbdeeedaaGreatDoorMa11
import Derived.Test.YtjjihmnbdeeedaaGreatDoorMa5
import Derived.Test.YtjjihmnbdeeedaaGreatDoorMa9
set_option maxRecDepth 100000
set_option maxHeartbeats 8000000
set_option linter.unusedVariables false
set_option linter.unusedSimpArgs false
namespace Go.Proofs.YtjjihmnbdeeedaaGreatDoor
open Go Go.Proofs.Tryz Go.RowKit Go.Proofs.YtjjihmnbdeeedaaGreatDoor.M
theorem LI {W:World} {g:Nat} (h:W.heap[g]?=some (.cells #[G7 0,G7 0,G7 0,G7 0,G7 0,G7 0,G7 0,G7 0] 209 (0,0))) (v0 v1 v2 v3 v4 v5 v6 v7:Nat) :
  (store ⟨g,0,none⟩ (G7 v0)).run prog W=.ok () (W.setCell ⟨g,0,none⟩ (G7 v0))∧(store ⟨g,1,none⟩ (G7 v1)).run prog (W.setCell ⟨g,0,none⟩ (G7 v0))=.ok () ((W.setCell ⟨g,0,none⟩ (G7 v0)).setCell ⟨g,1,none⟩ (G7 v1))∧(store ⟨g,2,none⟩ (G7 v2)).run prog ((W.setCell ⟨g,0,none⟩ (G7 v0)).setCell ⟨g,1,none⟩ (G7 v1))=.ok () (((W.setCell ⟨g,0,none⟩ (G7 v0)).setCell ⟨g,1,none⟩ (G7 v1)).setCell ⟨g,2,none⟩ (G7 v2))∧(store ⟨g,3,none⟩ (G7 v3)).run prog (((W.setCell ⟨g,0,none⟩ (G7 v0)).setCell ⟨g,1,none⟩ (G7 v1)).setCell ⟨g,2,none⟩ (G7 v2))=.ok () ((((W.setCell ⟨g,0,none⟩ (G7 v0)).setCell ⟨g,1,none⟩ (G7 v1)).setCell ⟨g,2,none⟩ (G7 v2)).setCell ⟨g,3,none⟩ (G7 v3))∧(store ⟨g,4,none⟩ (G7 v4)).run prog ((((W.setCell ⟨g,0,none⟩ (G7 v0)).setCell ⟨g,1,none⟩ (G7 v1)).setCell ⟨g,2,none⟩ (G7 v2)).setCell ⟨g,3,none⟩ (G7 v3))=.ok () (((((W.setCell ⟨g,0,none⟩ (G7 v0)).setCell ⟨g,1,none⟩ (G7 v1)).setCell ⟨g,2,none⟩ (G7 v2)).setCell ⟨g,3,none⟩ (G7 v3)).setCell ⟨g,4,none⟩ (G7 v4))∧(store ⟨g,5,none⟩ (G7 v5)).run prog (((((W.setCell ⟨g,0,none⟩ (G7 v0)).setCell ⟨g,1,none⟩ (G7 v1)).setCell ⟨g,2,none⟩ (G7 v2)).setCell ⟨g,3,none⟩ (G7 v3)).setCell ⟨g,4,none⟩ (G7 v4))=.ok () ((((((W.setCell ⟨g,0,none⟩ (G7 v0)).setCell ⟨g,1,none⟩ (G7 v1)).setCell ⟨g,2,none⟩ (G7 v2)).setCell ⟨g,3,none⟩ (G7 v3)).setCell ⟨g,4,none⟩ (G7 v4)).setCell ⟨g,5,none⟩ (G7 v5))∧(store ⟨g,6,none⟩ (G7 v6)).run prog ((((((W.setCell ⟨g,0,none⟩ (G7 v0)).setCell ⟨g,1,none⟩ (G7 v1)).setCell ⟨g,2,none⟩ (G7 v2)).setCell ⟨g,3,none⟩ (G7 v3)).setCell ⟨g,4,none⟩ (G7 v4)).setCell ⟨g,5,none⟩ (G7 v5))=.ok () (((((((W.setCell ⟨g,0,none⟩ (G7 v0)).setCell ⟨g,1,none⟩ (G7 v1)).setCell ⟨g,2,none⟩ (G7 v2)).setCell ⟨g,3,none⟩ (G7 v3)).setCell ⟨g,4,none⟩ (G7 v4)).setCell ⟨g,5,none⟩ (G7 v5)).setCell ⟨g,6,none⟩ (G7 v6))∧(store ⟨g,7,none⟩ (G7 v7)).run prog (((((((W.setCell ⟨g,0,none⟩ (G7 v0)).setCell ⟨g,1,none⟩ (G7 v1)).setCell ⟨g,2,none⟩ (G7 v2)).setCell ⟨g,3,none⟩ (G7 v3)).setCell ⟨g,4,none⟩ (G7 v4)).setCell ⟨g,5,none⟩ (G7 v5)).setCell ⟨g,6,none⟩ (G7 v6))=.ok () ((((((((W.setCell ⟨g,0,none⟩ (G7 v0)).setCell ⟨g,1,none⟩ (G7 v1)).setCell ⟨g,2,none⟩ (G7 v2)).setCell ⟨g,3,none⟩ (G7 v3)).setCell ⟨g,4,none⟩ (G7 v4)).setCell ⟨g,5,none⟩ (G7 v5)).setCell ⟨g,6,none⟩ (G7 v6)).setCell ⟨g,7,none⟩ (G7 v7))∧((((((((W.setCell ⟨g,0,none⟩ (G7 v0)).setCell ⟨g,1,none⟩ (G7 v1)).setCell ⟨g,2,none⟩ (G7 v2)).setCell ⟨g,3,none⟩ (G7 v3)).setCell ⟨g,4,none⟩ (G7 v4)).setCell ⟨g,5,none⟩ (G7 v5)).setCell ⟨g,6,none⟩ (G7 v6)).setCell ⟨g,7,none⟩ (G7 v7)).heap[g]?=some (.cells #[G7 v0,G7 v1,G7 v2,G7 v3,G7 v4,G7 v5,G7 v6,G7 v7] 209 (0,0)):=by
 have d1:(W.setCell ⟨g,0,none⟩ (G7 v0)).heap[g]?=some (.cells #[G7 v0,G7 0,G7 0,G7 0,G7 0,G7 0,G7 0,G7 0] 209 (0,0)):=az h 0 (G7 v0)
 have d2:((W.setCell ⟨g,0,none⟩ (G7 v0)).setCell ⟨g,1,none⟩ (G7 v1)).heap[g]?=some (.cells #[G7 v0,G7 v1,G7 0,G7 0,G7 0,G7 0,G7 0,G7 0] 209 (0,0)):=az d1 1 (G7 v1)
 have d3:(((W.setCell ⟨g,0,none⟩ (G7 v0)).setCell ⟨g,1,none⟩ (G7 v1)).setCell ⟨g,2,none⟩ (G7 v2)).heap[g]?=some (.cells #[G7 v0,G7 v1,G7 v2,G7 0,G7 0,G7 0,G7 0,G7 0] 209 (0,0)):=az d2 2 (G7 v2)
 have d4:((((W.setCell ⟨g,0,none⟩ (G7 v0)).setCell ⟨g,1,none⟩ (G7 v1)).setCell ⟨g,2,none⟩ (G7 v2)).setCell ⟨g,3,none⟩ (G7 v3)).heap[g]?=some (.cells #[G7 v0,G7 v1,G7 v2,G7 v3,G7 0,G7 0,G7 0,G7 0] 209 (0,0)):=az d3 3 (G7 v3)
 have d5:(((((W.setCell ⟨g,0,none⟩ (G7 v0)).setCell ⟨g,1,none⟩ (G7 v1)).setCell ⟨g,2,none⟩ (G7 v2)).setCell ⟨g,3,none⟩ (G7 v3)).setCell ⟨g,4,none⟩ (G7 v4)).heap[g]?=some (.cells #[G7 v0,G7 v1,G7 v2,G7 v3,G7 v4,G7 0,G7 0,G7 0] 209 (0,0)):=az d4 4 (G7 v4)
 have d6:((((((W.setCell ⟨g,0,none⟩ (G7 v0)).setCell ⟨g,1,none⟩ (G7 v1)).setCell ⟨g,2,none⟩ (G7 v2)).setCell ⟨g,3,none⟩ (G7 v3)).setCell ⟨g,4,none⟩ (G7 v4)).setCell ⟨g,5,none⟩ (G7 v5)).heap[g]?=some (.cells #[G7 v0,G7 v1,G7 v2,G7 v3,G7 v4,G7 v5,G7 0,G7 0] 209 (0,0)):=az d5 5 (G7 v5)
 have d7:(((((((W.setCell ⟨g,0,none⟩ (G7 v0)).setCell ⟨g,1,none⟩ (G7 v1)).setCell ⟨g,2,none⟩ (G7 v2)).setCell ⟨g,3,none⟩ (G7 v3)).setCell ⟨g,4,none⟩ (G7 v4)).setCell ⟨g,5,none⟩ (G7 v5)).setCell ⟨g,6,none⟩ (G7 v6)).heap[g]?=some (.cells #[G7 v0,G7 v1,G7 v2,G7 v3,G7 v4,G7 v5,G7 v6,G7 0] 209 (0,0)):=az d6 6 (G7 v6)
 have d8:((((((((W.setCell ⟨g,0,none⟩ (G7 v0)).setCell ⟨g,1,none⟩ (G7 v1)).setCell ⟨g,2,none⟩ (G7 v2)).setCell ⟨g,3,none⟩ (G7 v3)).setCell ⟨g,4,none⟩ (G7 v4)).setCell ⟨g,5,none⟩ (G7 v5)).setCell ⟨g,6,none⟩ (G7 v6)).setCell ⟨g,7,none⟩ (G7 v7)).heap[g]?=some (.cells #[G7 v0,G7 v1,G7 v2,G7 v3,G7 v4,G7 v5,G7 v6,G7 v7] 209 (0,0)):=az d7 7 (G7 v7)
 refine⟨?_,?_,?_,?_,?_,?_,?_,?_,d8⟩
 ·have f:=ae h 0 rfl
  have z:=ah h 0
  rw[run_store _ _ _ _ _ rfl,f];simp only[z];rfl
 ·have f:=ae d1 1 rfl
  have z:=ah d1 1
  rw[run_store _ _ _ _ _ rfl,f];simp only[z];rfl
 ·have f:=ae d2 2 rfl
  have z:=ah d2 2
  rw[run_store _ _ _ _ _ rfl,f];simp only[z];rfl
 ·have f:=ae d3 3 rfl
  have z:=ah d3 3
  rw[run_store _ _ _ _ _ rfl,f];simp only[z];rfl
 ·have f:=ae d4 4 rfl
  have z:=ah d4 4
  rw[run_store _ _ _ _ _ rfl,f];simp only[z];rfl
 ·have f:=ae d5 5 rfl
  have z:=ah d5 5
  rw[run_store _ _ _ _ _ rfl,f];simp only[z];rfl
 ·have f:=ae d6 6 rfl
  have z:=ah d6 6
  rw[run_store _ _ _ _ _ rfl,f];simp only[z];rfl
 ·have f:=ae d7 7 rfl
  have z:=ah d7 7
  rw[run_store _ _ _ _ _ rfl,f];simp only[z];rfl
theorem SP (W:World) (v0 v1 v2 v3 v4 v5 v6 v7:Nat) :
  (store ⟨W.heap.size,0,none⟩ (G7 v0)).run prog (W.alloc (.cells #[G7 0,G7 0,G7 0,G7 0,G7 0,G7 0,G7 0,G7 0] 209))=.ok () (W.alloc (.cells #[G7 v0,G7 0,G7 0,G7 0,G7 0,G7 0,G7 0,G7 0] 209))∧(store ⟨W.heap.size,1,none⟩ (G7 v1)).run prog (W.alloc (.cells #[G7 v0,G7 0,G7 0,G7 0,G7 0,G7 0,G7 0,G7 0] 209))=.ok () (W.alloc (.cells #[G7 v0,G7 v1,G7 0,G7 0,G7 0,G7 0,G7 0,G7 0] 209))∧(store ⟨W.heap.size,2,none⟩ (G7 v2)).run prog (W.alloc (.cells #[G7 v0,G7 v1,G7 0,G7 0,G7 0,G7 0,G7 0,G7 0] 209))=.ok () (W.alloc (.cells #[G7 v0,G7 v1,G7 v2,G7 0,G7 0,G7 0,G7 0,G7 0] 209))∧(store ⟨W.heap.size,3,none⟩ (G7 v3)).run prog (W.alloc (.cells #[G7 v0,G7 v1,G7 v2,G7 0,G7 0,G7 0,G7 0,G7 0] 209))=.ok () (W.alloc (.cells #[G7 v0,G7 v1,G7 v2,G7 v3,G7 0,G7 0,G7 0,G7 0] 209))∧(store ⟨W.heap.size,4,none⟩ (G7 v4)).run prog (W.alloc (.cells #[G7 v0,G7 v1,G7 v2,G7 v3,G7 0,G7 0,G7 0,G7 0] 209))=.ok () (W.alloc (.cells #[G7 v0,G7 v1,G7 v2,G7 v3,G7 v4,G7 0,G7 0,G7 0] 209))∧(store ⟨W.heap.size,5,none⟩ (G7 v5)).run prog (W.alloc (.cells #[G7 v0,G7 v1,G7 v2,G7 v3,G7 v4,G7 0,G7 0,G7 0] 209))=.ok () (W.alloc (.cells #[G7 v0,G7 v1,G7 v2,G7 v3,G7 v4,G7 v5,G7 0,G7 0] 209))∧(store ⟨W.heap.size,6,none⟩ (G7 v6)).run prog (W.alloc (.cells #[G7 v0,G7 v1,G7 v2,G7 v3,G7 v4,G7 v5,G7 0,G7 0] 209))=.ok () (W.alloc (.cells #[G7 v0,G7 v1,G7 v2,G7 v3,G7 v4,G7 v5,G7 v6,G7 0] 209))∧(store ⟨W.heap.size,7,none⟩ (G7 v7)).run prog (W.alloc (.cells #[G7 v0,G7 v1,G7 v2,G7 v3,G7 v4,G7 v5,G7 v6,G7 0] 209))=.ok () (W.alloc (.cells #[G7 v0,G7 v1,G7 v2,G7 v3,G7 v4,G7 v5,G7 v6,G7 v7] 209)):=by
 refine⟨?_,?_,?_,?_,?_,?_,?_,?_⟩
 ·have h:=aD W (.cells #[G7 0,G7 0,G7 0,G7 0,G7 0,G7 0,G7 0,G7 0] 209)
  have f:=ae h 0 rfl
  have z:=ah h 0
  have e:(W.alloc (.cells #[G7 0,G7 0,G7 0,G7 0,G7 0,G7 0,G7 0,G7 0] 209)).setCell ⟨W.heap.size,0,none⟩ (G7 v0)=W.alloc (.cells #[G7 v0,G7 0,G7 0,G7 0,G7 0,G7 0,G7 0,G7 0] 209):=by
   rw[World.setCell_alloc_at _ _ _ _ _ rfl]
   rfl
  rw[run_store _ _ _ _ _ rfl,f];simp only[z]
  rw[<- e]
  rfl
 ·have h:=aD W (.cells #[G7 v0,G7 0,G7 0,G7 0,G7 0,G7 0,G7 0,G7 0] 209)
  have f:=ae h 1 rfl
  have z:=ah h 1
  have e:(W.alloc (.cells #[G7 v0,G7 0,G7 0,G7 0,G7 0,G7 0,G7 0,G7 0] 209)).setCell ⟨W.heap.size,1,none⟩ (G7 v1)=W.alloc (.cells #[G7 v0,G7 v1,G7 0,G7 0,G7 0,G7 0,G7 0,G7 0] 209):=by
   rw[World.setCell_alloc_at _ _ _ _ _ rfl]
   rfl
  rw[run_store _ _ _ _ _ rfl,f];simp only[z]
  rw[<- e]
  rfl
 ·have h:=aD W (.cells #[G7 v0,G7 v1,G7 0,G7 0,G7 0,G7 0,G7 0,G7 0] 209)
  have f:=ae h 2 rfl
  have z:=ah h 2
  have e:(W.alloc (.cells #[G7 v0,G7 v1,G7 0,G7 0,G7 0,G7 0,G7 0,G7 0] 209)).setCell ⟨W.heap.size,2,none⟩ (G7 v2)=W.alloc (.cells #[G7 v0,G7 v1,G7 v2,G7 0,G7 0,G7 0,G7 0,G7 0] 209):=by
   rw[World.setCell_alloc_at _ _ _ _ _ rfl]
   rfl
  rw[run_store _ _ _ _ _ rfl,f];simp only[z]
  rw[<- e]
  rfl
 ·have h:=aD W (.cells #[G7 v0,G7 v1,G7 v2,G7 0,G7 0,G7 0,G7 0,G7 0] 209)
  have f:=ae h 3 rfl
  have z:=ah h 3
  have e:(W.alloc (.cells #[G7 v0,G7 v1,G7 v2,G7 0,G7 0,G7 0,G7 0,G7 0] 209)).setCell ⟨W.heap.size,3,none⟩ (G7 v3)=W.alloc (.cells #[G7 v0,G7 v1,G7 v2,G7 v3,G7 0,G7 0,G7 0,G7 0] 209):=by
   rw[World.setCell_alloc_at _ _ _ _ _ rfl]
   rfl
  rw[run_store _ _ _ _ _ rfl,f];simp only[z]
  rw[<- e]
  rfl
 ·have h:=aD W (.cells #[G7 v0,G7 v1,G7 v2,G7 v3,G7 0,G7 0,G7 0,G7 0] 209)
  have f:=ae h 4 rfl
  have z:=ah h 4
  have e:(W.alloc (.cells #[G7 v0,G7 v1,G7 v2,G7 v3,G7 0,G7 0,G7 0,G7 0] 209)).setCell ⟨W.heap.size,4,none⟩ (G7 v4)=W.alloc (.cells #[G7 v0,G7 v1,G7 v2,G7 v3,G7 v4,G7 0,G7 0,G7 0] 209):=by
   rw[World.setCell_alloc_at _ _ _ _ _ rfl]
   rfl
  rw[run_store _ _ _ _ _ rfl,f];simp only[z]
  rw[<- e]
  rfl
 ·have h:=aD W (.cells #[G7 v0,G7 v1,G7 v2,G7 v3,G7 v4,G7 0,G7 0,G7 0] 209)
  have f:=ae h 5 rfl
  have z:=ah h 5
  have e:(W.alloc (.cells #[G7 v0,G7 v1,G7 v2,G7 v3,G7 v4,G7 0,G7 0,G7 0] 209)).setCell ⟨W.heap.size,5,none⟩ (G7 v5)=W.alloc (.cells #[G7 v0,G7 v1,G7 v2,G7 v3,G7 v4,G7 v5,G7 0,G7 0] 209):=by
   rw[World.setCell_alloc_at _ _ _ _ _ rfl]
   rfl
  rw[run_store _ _ _ _ _ rfl,f];simp only[z]
  rw[<- e]
  rfl
 ·have h:=aD W (.cells #[G7 v0,G7 v1,G7 v2,G7 v3,G7 v4,G7 v5,G7 0,G7 0] 209)
  have f:=ae h 6 rfl
  have z:=ah h 6
  have e:(W.alloc (.cells #[G7 v0,G7 v1,G7 v2,G7 v3,G7 v4,G7 v5,G7 0,G7 0] 209)).setCell ⟨W.heap.size,6,none⟩ (G7 v6)=W.alloc (.cells #[G7 v0,G7 v1,G7 v2,G7 v3,G7 v4,G7 v5,G7 v6,G7 0] 209):=by
   rw[World.setCell_alloc_at _ _ _ _ _ rfl]
   rfl
  rw[run_store _ _ _ _ _ rfl,f];simp only[z]
  rw[<- e]
  rfl
 ·have h:=aD W (.cells #[G7 v0,G7 v1,G7 v2,G7 v3,G7 v4,G7 v5,G7 v6,G7 0] 209)
  have f:=ae h 7 rfl
  have z:=ah h 7
  have e:(W.alloc (.cells #[G7 v0,G7 v1,G7 v2,G7 v3,G7 v4,G7 v5,G7 v6,G7 0] 209)).setCell ⟨W.heap.size,7,none⟩ (G7 v7)=W.alloc (.cells #[G7 v0,G7 v1,G7 v2,G7 v3,G7 v4,G7 v5,G7 v6,G7 v7] 209):=by
   rw[World.setCell_alloc_at _ _ _ _ _ rfl]
   rfl
  rw[run_store _ _ _ _ _ rfl,f];simp only[z]
  rw[<- e]
  rfl
theorem tj {w0 w:World} {g:Nat} (h:Below w0.heap.size w0 w) (hg:w0.heap.size<=g) (a b c d e f i j:Value):Below w0.heap.size w0 ((((((((w.setCell ⟨g,0,none⟩ a).setCell ⟨g,1,none⟩ b).setCell ⟨g,2,none⟩ c).setCell ⟨g,3,none⟩ d).setCell ⟨g,4,none⟩ e).setCell ⟨g,5,none⟩ f).setCell ⟨g,6,none⟩ i).setCell ⟨g,7,none⟩ j) :=
 (((((((h.setCell (p:=⟨g,0,none⟩) hg a).setCell (p:=⟨g,1,none⟩) hg b).setCell (p:=⟨g,2,none⟩) hg c).setCell (p:=⟨g,3,none⟩) hg d).setCell (p:=⟨g,4,none⟩) hg e).setCell (p:=⟨g,5,none⟩) hg f).setCell (p:=⟨g,6,none⟩) hg i).setCell (p:=⟨g,7,none⟩) hg j
theorem Il {a b c d:Nat} (LO HI EL EH:Nat->Nat) (w:World) (H:aO w)
    (S0:Hid (∀ W,aO W->Calls prog 188 #[G7 a,G7 c] W fun e w'=>e=.returned (.agg #[G7 (LO 0),G7 (HI 0)])∧Below W.heap.size W w'))
    (S1:Hid (∀ W,aO W->Calls prog 188 #[G7 a,G7 d] W fun e w'=>e=.returned (.agg #[G7 (EL 0),G7 (EH 0)])∧Below W.heap.size W w'))
    (S2:Hid (∀ W,aO W->Calls prog 188 #[G7 b,G7 c] W fun e w'=>e=.returned (.agg #[G7 (EL 1),G7 (EH 1)])∧Below W.heap.size W w'))
    (S3:Hid (∀ W,aO W->Calls prog 188 #[G7 b,G7 d] W fun e w'=>e=.returned (.agg #[G7 (EL 2),G7 (EH 2)])∧Below W.heap.size W w'))
    (J:Hid (∀ k,k<3->∀ W,Calls prog 189 #[.agg #[G7 (LO k),G7 (HI k)],.agg #[G7 (EL k),G7 (EH k)]] W fun e w'=>e=.returned (.agg #[G7 (LO (k+1)),G7 (HI (k+1))])∧Below W.heap.size W w')) :
    Calls prog 130 #[.agg #[G7 a,G7 b],.agg #[G7 c,G7 d]] w fun e w'=>e=.returned (.agg #[G7 (LO 3),G7 (HI 3)])∧Below w.heap.size w w':=by
  obtain⟨q0,q1,q2,hs,hb3⟩:=oW w (.cells #[G7 a,G7 b] 160) (.cells #[G7 c,G7 d] 160) (.cells #[G7 0,G7 0] 160)
  go_enter func130,ntmps130
  go_wp2_with fail
  generalize (((w.alloc (.cells #[G7 a,G7 b] 160)).alloc (.cells #[G7 c,G7 d] 160)).alloc (.cells #[G7 0,G7 0] 160))=wx3 at q0 q1 q2 hs hb3 ⊢
  have KK:∀ W,Below wx3.heap.size wx3 W->W.cell? ⟨w.heap.size,0,none⟩=some (G7 a)∧W.cell? ⟨w.heap.size,1,none⟩=some (G7 b)∧W.cell? ⟨w.heap.size+1,0,none⟩=some (G7 c)∧W.cell? ⟨w.heap.size+1,1,none⟩=some (G7 d):=fun W hb=>⟨ae (aB hb q0) 0 rfl,ae (aB hb q0) 1 rfl,ae (aB hb q1) 0 rfl,ae (aB hb q1) 1 rfl⟩
  clear q0 q1 hs
  rename_i Q0 K1 hK1
  have HN:∀ (gE:Nat) (X:World) (t:Array Value),#[t.getD 0 undef,t.getD 1 undef,t.getD 2 undef,t.getD 3 undef,.pointer (some ⟨w.heap.size+1+1,0,none⟩),.pointer (some ⟨gE,0,none⟩),t.getD 6 undef,t.getD 7 undef,t.getD 8 undef,t.getD 9 undef,t.getD 10 undef,t.getD 11 undef,t.getD 12 undef,t.getD 13 undef,t.getD 14 undef,t.getD 15 undef,t.getD 16 undef,t.getD 17 undef,t.getD 18 undef,t.getD 19 undef,t.getD 20 undef,t.getD 21 undef,t.getD 22 undef,t.getD 23 undef,t.getD 24 undef,t.getD 25 undef,t.getD 26 undef,t.getD 27 undef,t.getD 28 undef,t.getD 29 undef,t.getD 30 undef,t.getD 31 undef,t.getD 32 undef,t.getD 33 undef,t.getD 34 undef,t.getD 35 undef,t.getD 36 undef,t.getD 37 undef,t.getD 38 undef,t.getD 39 undef,t.getD 40 undef,t.getD 41 undef,t.getD 42 undef]=t->X.heap[gE]?=some (.cells #[G7 (LO 0),G7 (HI 0),G7 (EL 0),G7 (EH 0),G7 (EL 1),G7 (EH 1),G7 (EL 2),G7 (EH 2)] 209 (0,0))->Below wx3.heap.size wx3 X->wx3.heap.size<=gE->Exit.then K1 Q0 Exit.normal { tmps:=t,defers:=[] } X:=by
    intro gE X t ht n_k hX hgE
    obtain⟨u,hu⟩:∃ u:Nat->Value,t=#[u 0,u 1,u 2,u 3,.pointer (some ⟨w.heap.size+1+1,0,none⟩),.pointer (some ⟨gE,0,none⟩),u 6,u 7,u 8,u 9,u 10,u 11,u 12,u 13,u 14,u 15,u 16,u 17,u 18,u 19,u 20,u 21,u 22,u 23,u 24,u 25,u 26,u 27,u 28,u 29,u 30,u 31,u 32,u 33,u 34,u 35,u 36,u 37,u 38,u 39,u 40,u 41,u 42]:=⟨fun k=>t.getD k undef,ht.symm⟩
    clear ht
    subst hu
    clear S0 S1 S2 S3 KK
    have hst:∀ (p:Addr) (x:Nat) (m:Mode) (w:World),(store p (G7 x) m).run prog w=stored prog w p (G7 x) m:=fun p x m w=>run_store _ w p _ m rfl
    have hgl:=(aGe n_k).1
    have c0:=ae n_k 0 rfl
    have c1:=ae n_k 1 rfl
    have hA:=aD X (.cells #[G7 (LO 0),G7 (HI 0)] 160)
    have hE:=am (.cells #[G7 (LO 0),G7 (HI 0)] 160) n_k
    have hB:=kW hX (.cells #[G7 (LO 0),G7 (HI 0)] 160)
    have hXz:=hX.size
    go_wp2_with fail
    generalize X.alloc (.cells #[G7 (LO 0),G7 (HI 0)] 160)=x5 at hA hE hB ⊢
    clear c0 c1 n_k
    go_loopw [34] (fun iv wr=>∃ k:Nat,k<=3∧iv=G6 k∧Hid (wr.heap[X.heap.size]?=some (.cells #[G7 (LO k),G7 (HI k)] 160 (0,0)))∧Hid (wr.heap[gE]?=some (.cells #[G7 (LO 0),G7 (HI 0),G7 (EL 0),G7 (EH 0),G7 (EL 1),G7 (EH 1),G7 (EL 2),G7 (EH 2)] 209 (0,0)))∧Hid (Below wx3.heap.size wx3 wr)) (fun iv _=>3-(intOf iv).toNat)
    case atStart=>exact⟨0,by omega,rfl,hA,hE,hB⟩
    case round=>
      obtain⟨k,hk,rfl,HA,HE,HB⟩:=hrel
      clear hA hE hB
      by_cases hlt:k<3
      · have CJ:Hid _:=J.out k hlt
        have h3:k=0∨k=1∨k=2:=by omega
        rcases h3 with rfl|rfl|rfl
        · have e2:=ae HE.out 2 rfl
          have e3:=ae HE.out 3 rfl
          have P0:=aD wr (.cells #[G7 (EL 0),G7 (EH 0)] 160)
          have A1:=am (.cells #[G7 (EL 0),G7 (EH 0)] 160) HA.out
          have E1:=am (.cells #[G7 (EL 0),G7 (EH 0)] 160) HE.out
          have B1:=kW HB.out (.cells #[G7 (EL 0),G7 (EH 0)] 160)
          have p0:=ae P0 0 rfl
          have p1:=ae P0 1 rfl
          have a0:=ae A1 0 rfl
          have a1:=ae A1 1 rfl
          go_wp2_with fail
          refine(CJ.out _).mono ?_
          rintro _ w7 ⟨rfl,hb7⟩
          have A7:=aB hb7 A1
          have E7:=aB hb7 E1
          have B7:=ac B1 hb7
          have A8:=az A7 0 (G7 (LO 1))
          have A9:=az A8 1 (G7 (HI 1))
          have f0:=ae A7 0 rfl
          have z0:=ah A7 0
          have f1:=ae A8 1 rfl
          have z1:=ah A8 1
          have s0:(store ⟨X.heap.size,0,none⟩ (G7 (LO 1))).run prog w7=.ok () (w7.setCell ⟨X.heap.size,0,none⟩ (G7 (LO 1))):=by rw[run_store _ _ _ _ _ rfl,f0];simp only[z0];rfl
          have s1:(store ⟨X.heap.size,1,none⟩ (G7 (HI 1))).run prog (w7.setCell ⟨X.heap.size,0,none⟩ (G7 (LO 1)))=.ok () ((w7.setCell ⟨X.heap.size,0,none⟩ (G7 (LO 1))).setCell ⟨X.heap.size,1,none⟩ (G7 (HI 1))):=by rw[run_store _ _ _ _ _ rfl,f1];simp only[z1];rfl
          have HA9:=aK A9
          have HE9:Hid (((w7.setCell ⟨X.heap.size,0,none⟩ (G7 (LO 1))).setCell ⟨X.heap.size,1,none⟩ (G7 (HI 1))).heap[gE]?=some (.cells #[G7 (LO 0),G7 (HI 0),G7 (EL 0),G7 (EH 0),G7 (EL 1),G7 (EH 1),G7 (EL 2),G7 (EH 2)] 209 (0,0))):=by
            show _=_
            rw[heap_setCell_other _ ⟨X.heap.size,_,none⟩ gE _ (by show gE≠X.heap.size;omega),heap_setCell_other _ ⟨X.heap.size,_,none⟩ gE _ (by show gE≠X.heap.size;omega)]
            exact E7
          have HB9:=aK ((B7.setCell (p:=⟨X.heap.size,0,none⟩) hXz (G7 (LO 1))).setCell (p:=⟨X.heap.size,1,none⟩) hXz (G7 (HI 1)))
          clear A7 A8 A9 E7 B7 A1 E1 B1 P0
          go_wp2
          go_roundw
          case rel=>exact⟨1,by omega,by go_num,HA9.out,HE9.out,HB9.out⟩
          case measure=>simp[intOf]
        · have e2:=ae HE.out 4 rfl
          have e3:=ae HE.out 5 rfl
          have P0:=aD wr (.cells #[G7 (EL 1),G7 (EH 1)] 160)
          have A1:=am (.cells #[G7 (EL 1),G7 (EH 1)] 160) HA.out
          have E1:=am (.cells #[G7 (EL 1),G7 (EH 1)] 160) HE.out
          have B1:=kW HB.out (.cells #[G7 (EL 1),G7 (EH 1)] 160)
          have p0:=ae P0 0 rfl
          have p1:=ae P0 1 rfl
          have a0:=ae A1 0 rfl
          have a1:=ae A1 1 rfl
          go_wp2_with fail
          refine(CJ.out _).mono ?_
          rintro _ w7 ⟨rfl,hb7⟩
          have A7:=aB hb7 A1
          have E7:=aB hb7 E1
          have B7:=ac B1 hb7
          have A8:=az A7 0 (G7 (LO 2))
          have A9:=az A8 1 (G7 (HI 2))
          have f0:=ae A7 0 rfl
          have z0:=ah A7 0
          have f1:=ae A8 1 rfl
          have z1:=ah A8 1
          have s0:(store ⟨X.heap.size,0,none⟩ (G7 (LO 2))).run prog w7=.ok () (w7.setCell ⟨X.heap.size,0,none⟩ (G7 (LO 2))):=by rw[run_store _ _ _ _ _ rfl,f0];simp only[z0];rfl
          have s1:(store ⟨X.heap.size,1,none⟩ (G7 (HI 2))).run prog (w7.setCell ⟨X.heap.size,0,none⟩ (G7 (LO 2)))=.ok () ((w7.setCell ⟨X.heap.size,0,none⟩ (G7 (LO 2))).setCell ⟨X.heap.size,1,none⟩ (G7 (HI 2))):=by rw[run_store _ _ _ _ _ rfl,f1];simp only[z1];rfl
          have HA9:=aK A9
          have HE9:Hid (((w7.setCell ⟨X.heap.size,0,none⟩ (G7 (LO 2))).setCell ⟨X.heap.size,1,none⟩ (G7 (HI 2))).heap[gE]?=some (.cells #[G7 (LO 0),G7 (HI 0),G7 (EL 0),G7 (EH 0),G7 (EL 1),G7 (EH 1),G7 (EL 2),G7 (EH 2)] 209 (0,0))):=by
            show _=_
            rw[heap_setCell_other _ ⟨X.heap.size,_,none⟩ gE _ (by show gE≠X.heap.size;omega),heap_setCell_other _ ⟨X.heap.size,_,none⟩ gE _ (by show gE≠X.heap.size;omega)]
            exact E7
          have HB9:=aK ((B7.setCell (p:=⟨X.heap.size,0,none⟩) hXz (G7 (LO 2))).setCell (p:=⟨X.heap.size,1,none⟩) hXz (G7 (HI 2)))
          clear A7 A8 A9 E7 B7 A1 E1 B1 P0
          go_wp2
          go_roundw
          case rel=>exact⟨2,by omega,by go_num,HA9.out,HE9.out,HB9.out⟩
          case measure=>simp[intOf]
        · have e2:=ae HE.out 6 rfl
          have e3:=ae HE.out 7 rfl
          have P0:=aD wr (.cells #[G7 (EL 2),G7 (EH 2)] 160)
          have A1:=am (.cells #[G7 (EL 2),G7 (EH 2)] 160) HA.out
          have E1:=am (.cells #[G7 (EL 2),G7 (EH 2)] 160) HE.out
          have B1:=kW HB.out (.cells #[G7 (EL 2),G7 (EH 2)] 160)
          have p0:=ae P0 0 rfl
          have p1:=ae P0 1 rfl
          have a0:=ae A1 0 rfl
          have a1:=ae A1 1 rfl
          go_wp2_with fail
          refine(CJ.out _).mono ?_
          rintro _ w7 ⟨rfl,hb7⟩
          have A7:=aB hb7 A1
          have E7:=aB hb7 E1
          have B7:=ac B1 hb7
          have A8:=az A7 0 (G7 (LO 3))
          have A9:=az A8 1 (G7 (HI 3))
          have f0:=ae A7 0 rfl
          have z0:=ah A7 0
          have f1:=ae A8 1 rfl
          have z1:=ah A8 1
          have s0:(store ⟨X.heap.size,0,none⟩ (G7 (LO 3))).run prog w7=.ok () (w7.setCell ⟨X.heap.size,0,none⟩ (G7 (LO 3))):=by rw[run_store _ _ _ _ _ rfl,f0];simp only[z0];rfl
          have s1:(store ⟨X.heap.size,1,none⟩ (G7 (HI 3))).run prog (w7.setCell ⟨X.heap.size,0,none⟩ (G7 (LO 3)))=.ok () ((w7.setCell ⟨X.heap.size,0,none⟩ (G7 (LO 3))).setCell ⟨X.heap.size,1,none⟩ (G7 (HI 3))):=by rw[run_store _ _ _ _ _ rfl,f1];simp only[z1];rfl
          have HA9:=aK A9
          have HE9:Hid (((w7.setCell ⟨X.heap.size,0,none⟩ (G7 (LO 3))).setCell ⟨X.heap.size,1,none⟩ (G7 (HI 3))).heap[gE]?=some (.cells #[G7 (LO 0),G7 (HI 0),G7 (EL 0),G7 (EH 0),G7 (EL 1),G7 (EH 1),G7 (EL 2),G7 (EH 2)] 209 (0,0))):=by
            show _=_
            rw[heap_setCell_other _ ⟨X.heap.size,_,none⟩ gE _ (by show gE≠X.heap.size;omega),heap_setCell_other _ ⟨X.heap.size,_,none⟩ gE _ (by show gE≠X.heap.size;omega)]
            exact E7
          have HB9:=aK ((B7.setCell (p:=⟨X.heap.size,0,none⟩) hXz (G7 (LO 3))).setCell (p:=⟨X.heap.size,1,none⟩) hXz (G7 (HI 3)))
          clear A7 A8 A9 E7 B7 A1 E1 B1 P0
          go_wp2
          go_roundw
          case rel=>exact⟨3,by omega,by go_num,HA9.out,HE9.out,HB9.out⟩
          case measure=>simp[intOf]
      · obtain rfl:k=3:=by omega
        have a0:=ae HA.out 0 rfl
        have a1:=ae HA.out 1 rfl
        have r_k:=aB HB.out q2
        have d3:=az r_k 0 (G7 (LO 3))
        have d4:=az d3 1 (G7 (HI 3))
        have f0:=ae r_k 0 rfl
        have z0:=ah r_k 0
        have f1:=ae d3 1 rfl
        have z1:=ah d3 1
        have e0:=ae d4 0 rfl
        have e1:=ae d4 1 rfl
        have s0:(store ⟨w.heap.size+1+1,0,none⟩ (G7 (LO 3))).run prog wr=.ok () (wr.setCell ⟨w.heap.size+1+1,0,none⟩ (G7 (LO 3))):=by rw[run_store _ _ _ _ _ rfl,f0];simp only[z0];rfl
        have s1:(store ⟨w.heap.size+1+1,1,none⟩ (G7 (HI 3))).run prog (wr.setCell ⟨w.heap.size+1+1,0,none⟩ (G7 (LO 3)))=.ok () ((wr.setCell ⟨w.heap.size+1+1,0,none⟩ (G7 (LO 3))).setCell ⟨w.heap.size+1+1,1,none⟩ (G7 (HI 3))):=by rw[run_store _ _ _ _ _ rfl,f1];simp only[z1];rfl
        have hbe:=((ac hb3 HB.out).setCell (p:=⟨w.heap.size+1+1,0,none⟩) (show w.heap.size<=w.heap.size+1+1 by omega) (G7 (LO 3))).setCell (p:=⟨w.heap.size+1+1,1,none⟩) (show w.heap.size<=w.heap.size+1+1 by omega) (G7 (HI 3))
        clear d3 d4 r_k
        go_wp2
        refine bodyPost_ret (v:=.agg #[G7 (LO 3),G7 (HI 3)]) (by simp[results,results130,go_sem,e0,e1]) rfl ⟨rfl,hbe⟩
  have hxr:=ap wx3
  have hx0:=(ap wx3).drew
  go_region_held3 (fun W=>W.cell? ⟨w.heap.size,0,none⟩=some (G7 a)∧W.cell? ⟨w.heap.size,1,none⟩=some (G7 b)∧W.cell? ⟨w.heap.size+1,0,none⟩=some (G7 c)∧W.cell? ⟨w.heap.size+1,1,none⟩=some (G7 d))
    (first|with_reducible assumption|with_reducible exact KK _ (hx0)|with_reducible exact KK _ ((kW hxr _).drew)|with_reducible exact KK _ (kW hx0 _)|with_reducible exact KK _ (hw1)|with_reducible exact KK _ (kW hw1 _)|with_reducible exact KK _ (hw2)|with_reducible exact KK _ (kW hw2 _)|with_reducible exact KK _ (hw3)|with_reducible exact KK _ (kW hw3 _)|with_reducible exact KK _ (hw4)|with_reducible exact KK _ (kW hw4 _)|with_reducible exact KK _ (tj (g:=y3.heap.size) hw4 (hw3.size) _ _ _ _ _ _ _ _)|with_reducible exact KK _ (tj (g:=y2.heap.size) hw4 (hw2.size) _ _ _ _ _ _ _ _)|with_reducible exact KK _ (tj (g:=y1.heap.size) hw4 (hw1.size) _ _ _ _ _ _ _ _)|with_reducible exact KK _ (tj (g:=wx3.heap.size) hw4 (Nat.le_refl _) _ _ _ _ _ _ _ _)|fail)
    (first
      | (go_at_call 188;have _t:=T3;refine(S3.out _ (H.keeps (ac hb3 (by first|with_reducible exact hw3|with_reducible exact kW hw3 _)))).mono ?_;rintro _ y4 ⟨rfl,hc4⟩;have hw4:Below wx3.heap.size wx3 y4:=ac (by first|with_reducible exact hw3|with_reducible exact kW hw3 _) hc4;have T4:True:=trivial;first|(have hg:Below (y3.alloc (.cells #[G7 0,G7 0,G7 0,G7 0,G7 0,G7 0,G7 0,G7 0] 209)).heap.size (y3.alloc (.cells #[G7 0,G7 0,G7 0,G7 0,G7 0,G7 0,G7 0,G7 0] 209)) y4:=(by with_reducible exact hc4);have qz:y4.heap[y3.heap.size]?=some (.cells #[G7 0,G7 0,G7 0,G7 0,G7 0,G7 0,G7 0,G7 0] 209 (0,0)):=aB hg (show(y3.alloc (.cells #[G7 0,G7 0,G7 0,G7 0,G7 0,G7 0,G7 0,G7 0] 209)).heap[y3.heap.size]?=_ from aD y3 (.cells #[G7 0,G7 0,G7 0,G7 0,G7 0,G7 0,G7 0,G7 0] 209));obtain⟨s_0,s_1,s_2,s_3,s_4,s_5,s_6,s_7,qf⟩:=LI (qz) (LO 0) (HI 0) (EL 0) (EH 0) (EL 1) (EH 1) (EL 2) (EH 2))|(have hg:Below (y2.alloc (.cells #[G7 0,G7 0,G7 0,G7 0,G7 0,G7 0,G7 0,G7 0] 209)).heap.size (y2.alloc (.cells #[G7 0,G7 0,G7 0,G7 0,G7 0,G7 0,G7 0,G7 0] 209)) y3:=(by with_reducible exact hc3);have qz:y4.heap[y2.heap.size]?=some (.cells #[G7 0,G7 0,G7 0,G7 0,G7 0,G7 0,G7 0,G7 0] 209 (0,0)):=aB hc4 (aB hg (show(y2.alloc (.cells #[G7 0,G7 0,G7 0,G7 0,G7 0,G7 0,G7 0,G7 0] 209)).heap[y2.heap.size]?=_ from aD y2 (.cells #[G7 0,G7 0,G7 0,G7 0,G7 0,G7 0,G7 0,G7 0] 209)));obtain⟨s_0,s_1,s_2,s_3,s_4,s_5,s_6,s_7,qf⟩:=LI (qz) (LO 0) (HI 0) (EL 0) (EH 0) (EL 1) (EH 1) (EL 2) (EH 2))|(have hg:Below (y1.alloc (.cells #[G7 0,G7 0,G7 0,G7 0,G7 0,G7 0,G7 0,G7 0] 209)).heap.size (y1.alloc (.cells #[G7 0,G7 0,G7 0,G7 0,G7 0,G7 0,G7 0,G7 0] 209)) y2:=(by with_reducible exact hc2);have qz:y4.heap[y1.heap.size]?=some (.cells #[G7 0,G7 0,G7 0,G7 0,G7 0,G7 0,G7 0,G7 0] 209 (0,0)):=aB hc4 (aB hc3 (aB hg (show(y1.alloc (.cells #[G7 0,G7 0,G7 0,G7 0,G7 0,G7 0,G7 0,G7 0] 209)).heap[y1.heap.size]?=_ from aD y1 (.cells #[G7 0,G7 0,G7 0,G7 0,G7 0,G7 0,G7 0,G7 0] 209))));obtain⟨s_0,s_1,s_2,s_3,s_4,s_5,s_6,s_7,qf⟩:=LI (qz) (LO 0) (HI 0) (EL 0) (EH 0) (EL 1) (EH 1) (EL 2) (EH 2))|(have hg:Below (wx3.alloc (.cells #[G7 0,G7 0,G7 0,G7 0,G7 0,G7 0,G7 0,G7 0] 209)).drew.heap.size (wx3.alloc (.cells #[G7 0,G7 0,G7 0,G7 0,G7 0,G7 0,G7 0,G7 0] 209)).drew y1:=(by with_reducible exact hc1);have qz:y4.heap[wx3.heap.size]?=some (.cells #[G7 0,G7 0,G7 0,G7 0,G7 0,G7 0,G7 0,G7 0] 209 (0,0)):=aB hc4 (aB hc3 (aB hc2 (aB hg (show(wx3.alloc (.cells #[G7 0,G7 0,G7 0,G7 0,G7 0,G7 0,G7 0,G7 0] 209)).drew.heap[wx3.heap.size]?=_ from aD wx3 (.cells #[G7 0,G7 0,G7 0,G7 0,G7 0,G7 0,G7 0,G7 0] 209)))));obtain⟨s_0,s_1,s_2,s_3,s_4,s_5,s_6,s_7,qf⟩:=LI (qz) (LO 0) (HI 0) (EL 0) (EH 0) (EL 1) (EH 1) (EL 2) (EH 2))|(obtain⟨s_0,s_1,s_2,s_3,s_4,s_5,s_6,s_7⟩:=SP y4 (LO 0) (HI 0) (EL 0) (EH 0) (EL 1) (EH 1) (EL 2) (EH 2)))
      | (go_at_call 188;have _t:=T2;refine(S2.out _ (H.keeps (ac hb3 (by first|with_reducible exact hw2|with_reducible exact kW hw2 _)))).mono ?_;rintro _ y3 ⟨rfl,hc3⟩;have hw3:Below wx3.heap.size wx3 y3:=ac (by first|with_reducible exact hw2|with_reducible exact kW hw2 _) hc3;have T3:True:=trivial)
      | (go_at_call 188;have _t:=T1;refine(S1.out _ (H.keeps (ac hb3 (by first|with_reducible exact hw1|with_reducible exact kW hw1 _)))).mono ?_;rintro _ y2 ⟨rfl,hc2⟩;have hw2:Below wx3.heap.size wx3 y2:=ac (by first|with_reducible exact hw1|with_reducible exact kW hw1 _) hc2;have T2:True:=trivial)
      | (go_at_call 188; refine (S0.out _ (H.keeps (ac hb3 (by first | with_reducible exact hx0 | with_reducible exact (kW hxr _).drew | with_reducible exact kW hx0 _)))).mono ?_; rintro _ y1 ⟨rfl,hc1⟩; have hw1:Below wx3.heap.size wx3 y1:=ac (by first | with_reducible exact hx0 | with_reducible exact (kW hxr _).drew | with_reducible exact kW hx0 _) hc1; have T1:True:=trivial))
  · exact HN y4.heap.size _ _ (by kernel_rfl) (aD _ _) (kW hw4 _) hw4.size
  · exact HN (y3.heap.size) _ _ (by kernel_rfl) qf (tj hw4 (hw3.size) _ _ _ _ _ _ _ _) (hw3.size)
  · exact HN (y2.heap.size) _ _ (by kernel_rfl) qf (tj hw4 (hw2.size) _ _ _ _ _ _ _ _) (hw2.size)
  · exact HN (y1.heap.size) _ _ (by kernel_rfl) qf (tj hw4 (hw1.size) _ _ _ _ _ _ _ _) (hw1.size)
  · exact HN (wx3.heap.size) _ _ (by kernel_rfl) qf (tj hw4 (Nat.le_refl _) _ _ _ _ _ _ _ _) (Nat.le_refl _)
theorem xj (F:Nat) {a b c d x y:Int} (ha:ag a) (hb:ag b) (hc:ag c) (hd:ag d) (w:World) (HH:aO w)
    (hE:∀ (cap:Array Value) (w:World),(callFunc F cap).run prog w=.ok (.enter F cap) w)
    (CF:Hid (cf a b=true->cf c d=true->nn x∧nn y∧∀ W,aO W->Calls prog F #[gk a b,gk c d] W fun e w'=>e=.returned (gk x y)∧Below W.heap.size W w')) :
    Calls prog 129 #[ek a b,ek c d,.func (.func F) #[] #[]] w fun e w'=>e=.returned (.tuple #[kM (cf a b&&cf c d) (ek (aL x) (aL y)),G6 (lV (cf a b&&cf c d))])∧Below w.heap.size w w':=by
  have R1:=fun W=>tc a b W
  have R2:=fun W=>tc c d W
  have V1:Hid (∀ W,Calls prog 134 #[gk a b] W fun e w'=>e=.returned (.bool (cf a b))∧Below W.heap.size W w'):=fun W=>uN ha hb W
  have V2:Hid (∀ W,Calls prog 134 #[gk c d] W fun e w'=>e=.returned (.bool (cf c d))∧Below W.heap.size W w'):=fun W=>uN hc hd W
  unfold ek gk at *
  obtain⟨q0,q1,q2,hs,hb3⟩:=oW w (.cells #[G6 a,G6 b] 72) (.cells #[G6 c,G6 d] 72) (.cells #[G6 0,G6 0] 72)
  go_enter func129,ntmps129
  go_wp2_with fail
  have k0:=ae q0 0 rfl
  have k1:=ae q0 1 rfl
  have k2:=ae q1 0 rfl
  have k3:=ae q1 1 rfl
  generalize ((w.alloc (.cells #[G6 a,G6 b] 72)).alloc (.cells #[G6 c,G6 d] 72)).alloc (.cells #[G6 0,G6 0] 72)=wx at *
  have hst:∀ (p:Addr) (n:Nat) (m:Mode) (w:World),(store p (G7 n) m).run prog w=stored prog w p (G7 n) m:=fun p n m w=>run_store _ w p _ m rfl
  have hc:(w.heap.size<w.heap.size+3∧w.heap.size+1<w.heap.size+3∧w.heap.size+3<=wx.drew.heap.size)∧wx.drew.cell? ⟨w.heap.size,0,none⟩=some (G6 a)∧wx.drew.cell? ⟨w.heap.size,1,none⟩=some (G6 b)∧wx.drew.cell? ⟨w.heap.size+1,0,none⟩=some (G6 c)∧wx.drew.cell? ⟨w.heap.size+1,1,none⟩=some (G6 d):=⟨⟨by omega,by omega,by show _<=wx.heap.size;omega⟩,k0,k1,k2,k3⟩
  rename_i Q' K haK
  have H:∀ (gi gj:Nat) (W:World),W.heap[gi]?=some (.cells #[G7 (wd a),G7 (wd b)] 160 (0,0))->W.heap[gj]?=some (.cells #[G7 (wd c),G7 (wd d)] 160 (0,0))->Below wx.heap.size wx W ->
      Exit.then K Q' Exit.normal { tmps:=#[.agg #[G6 a,G6 b],.agg #[G6 c,G6 d],.func (.func F) #[] #[],.pointer (some ⟨w.heap.size,0,none⟩),.pointer (some ⟨w.heap.size+1,0,none⟩),undef,.pointer (some ⟨w.heap.size+1+1,0,none⟩),G6 0,.pointer (some ⟨gi,0,none⟩),.pointer (some ⟨gj,0,none⟩),.agg #[G6 a,G6 b],.agg #[G7 (wd a),G7 (wd b)],.agg #[G6 c,G6 d],.agg #[G7 (wd c),G7 (wd d)],undef,undef,undef,undef,undef,undef,undef,undef,undef,undef,undef,undef,undef,undef],defers:=[] } W:=by
    intro gi gj W hgi hgj hbW
    clear hc k0 k1 k2 k3 q0 q1 R1 R2 hst
    have i0:=ae hgi 0 rfl
    have i1:=ae hgi 1 rfl
    have j0:=ae hgj 0 rfl
    have j1:=ae hgj 1 rfl
    go_wp2_with fail
    refine(V1.out _).mono ?_
    rintro _ w1 ⟨rfl,hb4⟩
    have hgi1:=(hb4.block _ (aGe hgi).1).trans hgi
    have hgj1:=(hb4.block _ (aGe hgj).1).trans hgj
    clear i0 i1 j0 j1
    have j0:=ae hgj1 0 rfl
    have j1:=ae hgj1 1 rfl
    by_cases h1:cf a b=false
    · rw[h1]
      have hbR:=ac hbW hb4
      have d2:=(hbR.block _ (aGe q2).1).trans q2
      have d3:=az d2 0 (G6 0)
      have d4:=az d3 1 (G6 0)
      have f0:=ae d2 0 rfl
      have z0:=ah d2 0
      have f1:=ae d3 1 rfl
      have z1:=ah d3 1
      have e0:=ae d4 0 rfl
      have e1:=ae d4 1 rfl
      have hbe:=((ac hb3 hbR).setCell (p:=⟨w.heap.size+1+1,0,none⟩) (show w.heap.size<=w.heap.size+1+1 by omega) (G6 0)).setCell (p:=⟨w.heap.size+1+1,1,none⟩) (show w.heap.size<=w.heap.size+1+1 by omega) (G6 0)
      clear d2 d3 d4
      go_wp2
      refine bodyPost_ret (v:=.tuple #[.agg #[G6 0,G6 0],G6 1]) (by simp[results,results129,go_sem,e0,e1]) rfl ⟨by rw[h1];rfl,hbe⟩
    replace h1:cf a b=true:=by simpa using h1
    rw[h1]
    go_wp2_with fail
    refine(V2.out _).mono ?_
    rintro _ w2 ⟨rfl,hb5⟩
    have hgi2:=(hb5.block _ (aGe hgi1).1).trans hgi1
    have hgj2:=(hb5.block _ (aGe hgj1).1).trans hgj1
    clear j0 j1
    have i0:=ae hgi2 0 rfl
    have i1:=ae hgi2 1 rfl
    have j0:=ae hgj2 0 rfl
    have j1:=ae hgj2 1 rfl
    have hbR:=ac hbW (ac hb4 hb5)
    by_cases h2:cf c d=false
    · rw[h2]
      have d2:=(hbR.block _ (aGe q2).1).trans q2
      have d3:=az d2 0 (G6 0)
      have d4:=az d3 1 (G6 0)
      have f0:=ae d2 0 rfl
      have z0:=ah d2 0
      have f1:=ae d3 1 rfl
      have z1:=ah d3 1
      have e0:=ae d4 0 rfl
      have e1:=ae d4 1 rfl
      have hbe:=((ac hb3 hbR).setCell (p:=⟨w.heap.size+1+1,0,none⟩) (show w.heap.size<=w.heap.size+1+1 by omega) (G6 0)).setCell (p:=⟨w.heap.size+1+1,1,none⟩) (show w.heap.size<=w.heap.size+1+1 by omega) (G6 0)
      clear d2 d3 d4
      go_wp2
      refine bodyPost_ret (v:=.tuple #[.agg #[G6 0,G6 0],G6 1]) (by simp[results,results129,go_sem,e0,e1]) rfl ⟨by rw[h2,Bool.and_false];rfl,hbe⟩
    replace h2:cf c d=true:=by simpa using h2
    rw[h2]
    obtain⟨nx,ny,CF'⟩:=CF.out h1 h2
    have L2:=HH.keeps (ac hb3 hbR)
    have CT:=fun W LW=>AX nx ny W LW
    unfold gk ek at CT
    go_wp2_with fail
    refine(CF' _ L2).mono ?_
    rintro _ w3 ⟨rfl,hb6⟩
    have L3:=L2.keeps hb6
    go_wp2_with fail
    refine(CT _ L3.env.lays).mono ?_
    rintro _ w4 ⟨rfl,hb7⟩
    replace hbR:=ac hbR (ac hb6 hb7)
    have d2:=(hbR.block _ (aGe q2).1).trans q2
    generalize hX:aL x=X at *
    generalize hY:aL y=Y at *
    have d3:=az d2 0 (G6 X)
    have d4:=az d3 1 (G6 Y)
    have f0:=ae d2 0 rfl
    have z0:=ah d2 0
    have f1:=ae d3 1 rfl
    have z1:=ah d3 1
    have e0:=ae d4 0 rfl
    have e1:=ae d4 1 rfl
    have hbe:=((ac hb3 hbR).setCell (p:=⟨w.heap.size+1+1,0,none⟩) (show w.heap.size<=w.heap.size+1+1 by omega) (G6 X)).setCell (p:=⟨w.heap.size+1+1,1,none⟩) (show w.heap.size<=w.heap.size+1+1 by omega) (G6 Y)
    clear d2 d3 d4 CT CF CF'
    go_wp2
    refine bodyPost_ret (v:=.tuple #[.agg #[G6 X,G6 Y],G6 0]) (by simp[results,results129,go_sem,e0,e1]) rfl ⟨by rw[h1,h2,hX,hY];rfl,hbe⟩
  go_region_held3 (fun W=>(w.heap.size<w.heap.size+3∧w.heap.size+1<w.heap.size+3∧w.heap.size+3<=W.heap.size)∧W.cell? ⟨w.heap.size,0,none⟩=some (G6 a)∧W.cell? ⟨w.heap.size,1,none⟩=some (G6 b)∧W.cell? ⟨w.heap.size+1,0,none⟩=some (G6 c)∧W.cell? ⟨w.heap.size+1,1,none⟩=some (G6 d))
    (first|assumption|(repeat (first|exact hc|refine xi ?_|refine KC _ ?_|refine AM (by first|omega|(simp;omega)) ?_)))
    (first
      | (go_at_call 133;have _t:=T1;refine(R2 _).mono ?_;rintro _ _ ⟨rfl,rfl⟩)
      | (go_at_call 133; refine (R1 _).mono ?_; rintro _ _ ⟨rfl,rfl⟩; have T1:True:=trivial))
  all_goals
    refine H _ _ _ ?_ ?_ Rh
    all_goals first
      | exact Ra hs rfl
      | exact Rb hs rfl
      | exact Rc hs rfl
      | exact Rd hs rfl
      | exact Re hs rfl
      | exact Rg hs rfl
def uR (a b c d:Int):Int:=jP (jP (jP (fA a c) (fA a d)) (fA b c)) (fA b d)
def uS (a b c d:Int):Int:=jQ (jQ (jQ (fB a c) (fB a d)) (fB b c)) (fB b d)
theorem LJ {a b c d:Int} (ha:nn a) (hb:nn b) (hc:nn c) (hd:nn d):nn (uR a b c d)∧nn (uS a b c d) :=
 ⟨(nV (nV (nV (eF ha hc).1 (eF ha hd).1).1 (eF hb hc).1).1 (eF hb hd).1).1,(nW (nW (nW (eF ha hc).2 (eF ha hd).2).1 (eF hb hc).2).1 (eF hb hd).2).1⟩
theorem KD {a b c d:Int} (ha:nn a) (hb:nn b) (hc:nn c) (hd:nn d) (w:World) (H:aO w) :
    Calls prog 130 #[gk a b,gk c d] w fun e w'=>e=.returned (gk (uR a b c d) (uS a b c d))∧Below w.heap.size w w':=by
  obtain⟨n0,n0'⟩:=eF ha hc
  obtain⟨n1,n1'⟩:=eF ha hd
  obtain⟨n2,n2'⟩:=eF hb hc
  obtain⟨n3,n3'⟩:=eF hb hd
  have m1:=(nV n0 n1).1
  have m1':=(nW n0' n1').1
  have m2:=(nV m1 n2).1
  have m2':=(nW m1' n2').1
  exact Il (fun k=>match k with|0=>wd (fA a c)|1=>wd (jP (fA a c) (fA a d))|2=>wd (jP (jP (fA a c) (fA a d)) (fA b c))|_=>wd (uR a b c d))
    (fun k=>match k with|0=>wd (fB a c)|1=>wd (jQ (fB a c) (fB a d))|2=>wd (jQ (jQ (fB a c) (fB a d)) (fB b c))|_=>wd (uS a b c d))
    (fun k=>match k with|0=>wd (fA a d)|1=>wd (fA b c)|_=>wd (fA b d))
    (fun k=>match k with|0=>wd (fB a d)|1=>wd (fB b c)|_=>wd (fB b d)) w H
    (fun W hW=>oZ ha hc W hW) (fun W hW=>oZ ha hd W hW) (fun W hW=>oZ hb hc W hW) (fun W hW=>oZ hb hd W hW)
    (fun k hk W=>by
      match k,hk with
      | 0,_=>exact td n0 n0' n1 n1' W
      | 1,_=>exact td m1 m1' n2 n2' W
      | 2,_=>exact td m2 m2' n3 n3' W)
theorem KE {a b c d:Int} (ha:ag a) (hb:ag b) (hc:ag c) (hd:ag d) (w:World) (H:aO w) :
    Calls prog 66 #[ek a b,ek c d] w fun e w'=>e=.returned (.tuple #[kM (cf a b&&cf c d) (ek (aL (uR a b c d)) (aL (uS a b c d))),G6 (lV (cf a b&&cf c d))])∧Below w.heap.size w w':=by
  have hE:∀ (cap:Array Value) (w:World),(callFunc 130 cap).run prog w=.ok (.enter 130 cap) w:=by
    intro cap w
    simp[go_sem]
  have CJ:Hid (∀ W,aO W->Calls prog 129 #[ek a b,ek c d,.func (.func 130) #[] #[]] W fun e w'=>e=.returned (.tuple #[kM (cf a b&&cf c d) (ek (aL (uR a b c d)) (aL (uS a b c d))),G6 (lV (cf a b&&cf c d))])∧Below W.heap.size W w'):=fun W LW=>
    xj _ ha hb hc hd W LW hE (fun h1 h2=>by
      obtain⟨va,vb,_,_,_⟩:=kG.1 h1
      obtain⟨vc,vd,_,_,_⟩:=kG.1 h2
      exact ⟨(LJ ⟨ha,va⟩ ⟨hb,vb⟩ ⟨hc,vc⟩ ⟨hd,vd⟩).1,(LJ ⟨ha,va⟩ ⟨hb,vb⟩ ⟨hc,vc⟩ ⟨hd,vd⟩).2,fun W' hW=>KD ⟨ha,va⟩ ⟨hb,vb⟩ ⟨hc,vc⟩ ⟨hd,vd⟩ W' hW⟩)
  have hx:∃ X Y,kM (cf a b&&cf c d) (ek (aL (uR a b c d)) (aL (uS a b c d)))=.agg #[G6 X,G6 Y]:=by
    unfold kM ek;split
    · exact⟨_,_,rfl⟩
    · exact⟨_,_,rfl⟩
  obtain⟨X,Y,hXY⟩:=hx
  rw[hXY] at CJ ⊢
  clear hXY
  unfold ek at *
  generalize lV (cf a b&&cf c d)=E at *
  obtain⟨q0,q1,q2,hs,hb3⟩:=oW w (.cells #[G6 a,G6 b] 72) (.cells #[G6 c,G6 d] 72) (.cells #[G6 0,G6 0] 72)
  have L2:=H.keeps hb3
  go_enter func66,ntmps66
  go_wp2_with fail
  generalize ((w.alloc (.cells #[G6 a,G6 b] 72)).alloc (.cells #[G6 c,G6 d] 72)).alloc (.cells #[G6 0,G6 0] 72)=wx at *
  refine(CJ.out _ L2).mono ?_
  rintro _ w1 ⟨rfl,hb4⟩
  have d2:=(hb4.block _ (aGe q2).1).trans q2
  have d3:=az d2 0 (G6 X)
  have d4:=az d3 1 (G6 Y)
  have f0:=ae d2 0 rfl
  have z0:=ah d2 0
  have f1:=ae d3 1 rfl
  have z1:=ah d3 1
  have e0:=ae d4 0 rfl
  have e1:=ae d4 1 rfl
  have hbe:=((ac hb3 hb4).setCell (p:=⟨w.heap.size+1+1,0,none⟩) (show w.heap.size<=w.heap.size+1+1 by omega) (G6 X)).setCell (p:=⟨w.heap.size+1+1,1,none⟩) (show w.heap.size<=w.heap.size+1+1 by omega) (G6 Y)
  clear d2 d3 d4 q0 q1 q2
  go_wp2
  refine bodyPost_ret (v:=.tuple #[.agg #[G6 X,G6 Y],G6 E]) (by simp[results,results66,go_sem,e0,e1]) rfl ⟨rfl,hbe⟩
structure En where
 i:Int
 v:Int
def En.le (a b:En):Prop:=a.i<b.i∨(a.i=b.i∧a.v<=b.v)
def En.ok (a:En):Prop:=a.i=0∨((a.i=1∨a.i=-1)∧a.v=0)
def cD (a:En):Int:=if 0<a.i then 9218868437227405312 else if a.i<0 then -4503599627370496 else jq a.v
def cF (a:En):Int:=if 0<a.i then 9218868437227405312 else if a.i<0 then -4503599627370496 else jr a.v
def aA (p:Int):En:=if rg p=9218868437227405312 then ⟨if p<0 then -1 else 1,0⟩ else ⟨0,aq p⟩
theorem En.eq {a b:En} (h:a.i=b.i) (k:a.v=b.v):a=b:=by cases a;cases b;cases h;cases k;rfl
theorem En.le_refl (a:En):a.le a:=.inr ⟨rfl,Int.le_refl _⟩
theorem En.le_trans {a b c:En} (h:a.le b) (k:b.le c):a.le c:=by
 unfold En.le at *
 omega
theorem En.le.le_trans {a b c:En} (h:a.le b) (k:b.le c):a.le c:=En.le_trans h k
theorem xk (V:Int):∃ (ng:Bool) (f:Int->Int × Bool),pF V ng f:=by
 by_cases h0:V=0
 ·subst h0
  exact⟨false,fun way=>(aG (false&&decide (0<bF way false 0 0)) (bF way false 0 0),decide ((0:Int)≠0)||decide (9218868437227405312<=((0:Nat):Int))),0,0,0,rfl,(fun h=>by cases h),xQ,fun way=>rfl⟩
 ·obtain⟨g,A,r0,left,e,hA,hR,_,_⟩:=vX h0
  exact⟨g,fun way=>(aG (g&&decide (0<bF way g r0 left)) (bF way g r0 left),decide (left≠0)||decide (9218868437227405312<=(r0:Int))),A,r0,left,e,fun _=>hA,hR,fun way=>rfl⟩
theorem kr (V:Int):nn (jq V)∧nn (jr V):=by
 obtain⟨ng,f,h⟩:=xk V
 obtain⟨c1,c2⟩:=uQ h
 obtain⟨A,r0,left,e,hn,hR,hf⟩:=h
 obtain⟨_,a2,a3⟩:=pF.key (V:=V) (A:=A) (hf 1)
 obtain⟨_,b2,b3⟩:=pF.key (V:=V) (A:=A) (hf 2)
 rw[c1] at a2 a3
 rw[c2] at b2 b3
 exact⟨⟨a3,a2⟩,⟨b3,b2⟩⟩
theorem AZ {a b:Int} (ha:nn a) (hb:nn b) (h:cm a b=false):au b<=au a:=by
 unfold cm at h
 simp[ha.2,hb.2] at h
 exact h
theorem Ba {V U:Int} (h:V<=U):au (jq V)<=au (jq U)∧au (jr V)<=au (jr U):=by
 obtain⟨ng,f,k⟩:=xk V
 obtain⟨mg,g,l⟩:=xk U
 obtain⟨c1,c2⟩:=uQ k
 obtain⟨d1,d2⟩:=uQ l
 have m1:=Dj k l h 1
 have m2:=Dj k l h 2
 rw[c1,d1] at m1
 rw[c2,d2] at m2
 exact⟨AZ (kr U).1 (kr V).1 m1,AZ (kr U).2 (kr V).2 m2⟩
theorem qj:nn 9218868437227405312∧nn (-4503599627370496):=⟨⟨by unfold ag;omega,by decide⟩,⟨by unfold ag;omega,by decide⟩⟩
theorem vZ {p:Int} (h:nn p):-9218868437227405312<=au p∧au p<=9218868437227405312:=by
 have:=kI h
 unfold rg at this
 unfold au
 split at this<;>(split<;>omega)
theorem tk (a:En):nn (cD a)∧nn (cF a):=by
 unfold cD cF
 split
 ·exact⟨qj.1,qj.1⟩
 ·split
  ·exact⟨qj.2,qj.2⟩
  ·exact kr _
theorem uU:au 9218868437227405312=9218868437227405312∧au (-4503599627370496)=-9218868437227405312:=⟨by decide,by decide⟩
theorem mV {a b:En} (h:a.le b):au (cD a)<=au (cD b)∧au (cF a)<=au (cF b):=by
 obtain⟨k1,k2⟩:=uU
 have n1:=vZ (kr a.v).1
 have n2:=vZ (kr a.v).2
 have n3:=vZ (kr b.v).1
 have n4:=vZ (kr b.v).2
 have m:=fun q=>@Ba a.v b.v q
 unfold cD cF
 rcases h with h|⟨h,h'⟩
 ·by_cases p1:0<a.i
  ·have p2:0<b.i:=by omega
   rw[if_pos p1,if_pos p1,if_pos p2,if_pos p2]
   exact⟨Int.le_refl _,Int.le_refl _⟩
  ·by_cases p2:0<b.i
   ·rw[if_neg p1,if_neg p1,if_pos p2,if_pos p2]
    split<;>(rw[k1];first|(rw[k2];omega)|omega)
   ·have p3:a.i<0:=by omega
    rw[if_neg p1,if_neg p1,if_pos p3,if_pos p3,if_neg p2,if_neg p2]
    split<;>(rw[k2];first|omega|skip)
 ·rw[h]
  split
  ·exact⟨Int.le_refl _,Int.le_refl _⟩
  ·split
   ·exact⟨Int.le_refl _,Int.le_refl _⟩
   ·exact m h'
theorem uf (p:Int):aL (aL p)=aL p:=by
 have c1:aL 9221120237041090561=9221120237041090561:=by decide
 have c2:aL 0=0:=by decide
 by_cases h4:aH p=4
 ·have:aL p=9221120237041090561:=by unfold aL;rw[if_pos h4]
  rw[this,c1]
 ·by_cases h0:aH p=0
  ·have:aL p=0:=by unfold aL;rw[if_neg h4,if_pos h0]
   rw[this,c2]
  ·have:aL p=p:=by unfold aL;rw[if_neg h4,if_neg h0]
   rw[this,this]
theorem tO (a:En):aL (cD a)=cD a∧aL (cF a)=cF a:=by
 unfold cD cF
 split
 ·exact⟨by decide,by decide⟩
 ·split
  ·exact⟨by decide,by decide⟩
  ·unfold jq jr
   split
   ·exact⟨by decide,by decide⟩
   ·exact⟨uf _,uf _⟩
theorem yE {p q:Int} (hp:nn p) (hq:nn q) (h:au p=au q):aL p=aL q:=by
 by_cases e:p=q
 ·rw[e]
 ·rcases lz hp.1 hq.1 h e with⟨rfl,rfl⟩|⟨rfl,rfl⟩<;>decide
theorem Ri {p:Int} {a:En} (hp:nn p) (h:au p=au (cD a)):aL p=cD a:=(yE hp (tk a).1 h).trans (tO a).1
theorem Rj {p:Int} {a:En} (hp:nn p) (h:au p=au (cF a)):aL p=cF a:=(yE hp (tk a).2 h).trans (tO a).2
theorem Rk {p:Int} {a:En} (hp:nn p) (h:aL p=cD a):au p=au (cD a):=by rw[<- h,(jn hp).1]
theorem Rl {p:Int} {a:En} (hp:nn p) (h:aL p=cF a):au p=au (cF a):=by rw[<- h,(jn hp).1]
theorem Bb {p:Int} (hp:ag p):p=aG (decide (p<0)) (rg p):=by
 unfold ag at hp
 unfold aG rg
 by_cases h:p<0
 ·rw[if_pos h,decide_eq_true h];simp
 ·rw[if_neg h,decide_eq_false h];simp
theorem DL {p:Int} (hp:ag p) (h:rg p=0):p=0∨p=-9223372036854775808:=by
 unfold rg at h
 split at h<;>omega
theorem kJ:aq 0=0∧aq (-9223372036854775808)=0:=by
 refine⟨?_,?_⟩
 ·unfold aq
  rw[show aN 0=0 by decide,show dW 0=false by decide]
  exact Int.zero_mul _
 ·unfold aq
  rw[show aN (-9223372036854775808)=0 by decide]
  show sg (dW (-9223372036854775808)) 0*_=0
  cases dW (-9223372036854775808)<;>exact Int.zero_mul _
theorem oI:jq 0=0∧jr 0=0:=by unfold jq jr;rw[if_pos rfl,if_pos rfl];exact⟨rfl,rfl⟩
theorem lW {p:Int} (hp:nn p):cD (aA p)=aL p∧cF (aA p)=aL p:=by
 have hr:=kI hp
 obtain⟨c1,c2⟩:=eZ hp.1
 unfold aA
 by_cases hi:rg p=9218868437227405312
 ·rw[if_pos hi]
  have hc:aL p=p:=by
   unfold aL
   rw[if_neg hp.2,if_neg (fun k=>by have:=c2.1 k;omega)]
  rw[hc]
  have h2:=hp.1
  unfold ag at h2
  unfold rg at hi
  unfold cD cF
  by_cases h0:p<0
  ·rw[if_pos h0] at hi
   simp only[if_pos h0]
   exact⟨by simp;omega,by simp;omega⟩
  ·rw[if_neg h0] at hi
   simp only[if_neg h0]
   exact⟨by simp;omega,by simp;omega⟩
 ·rw[if_neg hi]
  have hf:ak p=true:=fh hp hi
  unfold cD cF
  simp only[Int.lt_irrefl,if_false]
  by_cases h0:rg p=0
  ·have hz:=DL hp.1 h0
   have hc:aL p=0:=by
    unfold aL
    rw[if_neg hp.2,if_pos (c2.2 h0)]
   have hv:aq p=0:=by
    rcases hz with rfl|rfl
    ·exact kJ.1
    ·exact kJ.2
   rw[hv,hc]
   exact oI
  ·have hc:aL p=p:=by
    unfold aL
    rw[if_neg hp.2,if_neg (fun k=>h0 (c2.1 k))]
   have hv:=lj hp.1 hf
   have hn:((rg p).toNat:Int)=rg p:=Int.toNat_of_nonneg hr.1
   obtain⟨a1,a2⟩:=Sl (g:=decide (p<0)) (r:=(rg p).toNat) (by omega) (by omega)
   rw[<- hv,hn,<- Bb hp.1] at a1 a2
   rw[hc]
   exact⟨a1,a2⟩
theorem ql {p:Int} (hp:ag p):au p=if p<0 then-rg p else rg p:=by
 unfold au rg
 split<;>rfl
theorem LK {p q:Int} (hp:ag p) (hq:ag q) (h:au p<=au q):iV p<=iV q:=by
 rcases Int.lt_or_eq_of_le h with h|h
 ·exact Int.le_of_lt (xh hp hq h)
 ·by_cases e:p=q
  ·rw[e];exact Int.le_refl _
  ·rcases lz hp hq h e with⟨rfl,rfl⟩|⟨rfl,rfl⟩<;>decide
theorem Ny {p q:Int} (hp:ag p) (hq:ag q) (pp:ak p=true) (pq:ak q=true) (h:au p<=au q):aq p<=aq q:=by
 rw[cQ hp pp,cQ hq pq]
 exact Int.mul_le_mul_of_nonneg_right (LK hp hq h) (Int.le_of_lt (bR _))
theorem pe {p q:Int} (hp:nn p) (hq:nn q) (h:au p<=au q):(aA p).le (aA q):=by
 have kp:=ql hp.1
 have kq:=ql hq.1
 have rp:=kI hp
 have rq:=kI hq
 unfold aA
 by_cases ip:rg p=9218868437227405312
 ·by_cases iq:rg q=9218868437227405312
  ·rw[if_pos ip,if_pos iq]
   unfold En.le
   show(if p<0 then (-1:Int) else 1)<(if q<0 then (-1:Int) else 1)∨((if p<0 then (-1:Int) else 1)=(if q<0 then (-1:Int) else 1)∧(0:Int)<=0)
   split at kp<;>split at kq<;>simp_all<;>omega
  ·rw[if_pos ip,if_neg iq]
   unfold En.le
   show(if p<0 then (-1:Int) else 1)<0∨_
   split at kp
   ·rw[if_pos (by assumption)];exact .inl (by decide)
   ·exfalso;split at kq<;>omega
 ·by_cases iq:rg q=9218868437227405312
  ·rw[if_neg ip,if_pos iq]
   unfold En.le
   show 0<(if q<0 then (-1:Int) else 1)∨_
   split at kq
   ·exfalso;split at kp<;>omega
   ·rw[if_neg (by assumption)];exact .inl (by decide)
  ·rw[if_neg ip,if_neg iq]
   exact .inr ⟨rfl,Ny hp.1 hq.1 (fh hp ip) (fh hq iq) h⟩
theorem dT (p:Int):(aA p).ok:=by
 unfold aA En.ok
 split
 ·show(if p<0 then (-1:Int) else 1)=0∨_
  split
  ·exact .inr ⟨.inr rfl,rfl⟩
  ·exact .inr ⟨.inl rfl,rfl⟩
 ·exact .inl rfl
def bO (a b:En):En:=if a.i≠0 then a else if b.i≠0 then b else ⟨0,a.v+b.v⟩
theorem gA {p:Int} (h:¬ rg p=9218868437227405312):aA p=⟨0,aq p⟩:=if_neg h
theorem ie {p:Int} (h:rg p=9218868437227405312):aA p=⟨if p<0 then -1 else 1,0⟩:=if_pos h
theorem uV {p:Int} (h:rg p=9218868437227405312):(if p<0 then (-1:Int) else 1)≠0:=by split<;>decide
theorem mW {p q:Int} (hp:nn p) (hq:nn q) (hno:¬ (rg p=9218868437227405312∧rg q=9218868437227405312∧decide (p<0)≠decide (q<0))) :
  nn (ck p q)∧aL (fj (ck p q) (eJ p q))=cD (bO (aA p) (aA q))∧aL (fl (ck p q) (eJ p q))=cF (bO (aA p) (aA q)):=by
 have rp:=kI hp
 have rq:=kI hq
 by_cases ip:rg p=9218868437227405312
 ·have hE:bO (aA p) (aA q)=aA p:=by
   rw[ie ip];unfold bO;exact if_pos (uV ip)
  rw[hE]
  by_cases iq:rg q=9218868437227405312
  ·have hpq:p=q:=by
    have hd:decide (p<0)=decide (q<0):=Classical.byContradiction fun c=>hno ⟨ip,iq,c⟩
    rw[Bb hp.1,Bb hq.1,ip,iq,hd]
   subst hpq
   have hh:fN p p=p:=by unfold fN;split<;>rfl
   obtain⟨e1,e2,e3⟩:=tg hp hp (by rw[hh];exact ip) hno
   rw[e2,e3,e1,hh]
   exact⟨hp,(lW hp).1.symm,(lW hp).2.symm⟩
  ·have hh:fN p q=p:=by unfold fN;rw[if_neg (by omega)]
   obtain⟨e1,e2,e3⟩:=tg hp hq (by rw[hh];exact ip) hno
   rw[e2,e3,e1,hh]
   exact⟨hp,(lW hp).1.symm,(lW hp).2.symm⟩
 ·by_cases iq:rg q=9218868437227405312
  ·have hE:bO (aA p) (aA q)=aA q:=by
    rw[gA ip,ie iq];unfold bO
    rw[if_neg (by simp),if_pos (uV iq)]
   rw[hE]
   have hh:fN p q=q:=by unfold fN;rw[if_pos (by omega)]
   obtain⟨e1,e2,e3⟩:=tg hp hq (by rw[hh];exact iq) hno
   rw[e2,e3,e1,hh]
   exact⟨hq,(lW hq).1.symm,(lW hq).2.symm⟩
  ·have hE:bO (aA p) (aA q)=⟨0,aq p+aq q⟩:=by
    rw[gA ip,gA iq];unfold bO
    rw[if_neg (by simp),if_neg (by simp)]
   rw[hE]
   obtain⟨a,b,c⟩:=QZ hp.1 hq.1 (fh hp ip) (fh hq iq)
   unfold cD cF
   simp only[Int.lt_irrefl,if_false]
   exact⟨a,b,c⟩
def iP (v:Int):Int:=if v<0 then -1 else if 0<v then 1 else 0
def cG (a:En):Int:=if a.i≠0 then a.i else iP a.v
def eO (x y:Int):Int:=x*y/2^4194304
theorem lC (x y:Int):eO x y=eO y x:=by unfold eO;rw[Int.mul_comm]
theorem lD (y:Int):eO 0 y=0:=by unfold eO;rw[Int.zero_mul];exact Int.zero_ediv _
theorem Bc {D x y:Int} (hD:0<D) (h:x<=y):x/D<=y/D:=Int.ediv_le_ediv hD h
theorem Im {x y c:Int} (h:x<=y) (hc:0<=c):eO x c<=eO y c:=Bc (aR _) (Int.mul_le_mul_of_nonneg_right h hc)
theorem In {x y c:Int} (h:x<=y) (hc:c<=0):eO y c<=eO x c:=Bc (aR _) (Int.mul_le_mul_of_nonpos_right h hc)
def aJ (a b:En):En:=if cG a*cG b=0 then ⟨0,0⟩ else if a.i≠0∨b.i≠0 then ⟨cG a*cG b,0⟩ else ⟨0,eO a.v b.v⟩
theorem mB {v:Int} (h:iP v=0):v=0:=by unfold iP at h;split at h;(· omega);split at h<;>omega
theorem PE {v u:Int} (h:v<=u):iP v<=iP u:=by unfold iP;repeat' split;all_goals omega
theorem Be (v:Int):-1<=iP v∧iP v<=1∧(0<=iP v↔0<=v)∧(iP v<=0↔v<=0):=by unfold iP;repeat' split;all_goals omega
theorem mX {a:En} (h:a.ok):-1<=cG a∧cG a<=1:=by
 unfold cG
 have:=Be a.v
 rcases h with h|⟨h,_⟩
 ·rw[if_neg (by omega)];exact⟨this.1,this.2.1⟩
 ·rw[if_pos (by omega)];omega
theorem jd {a:En} (h:a.i=0):cG a=iP a.v:=if_neg (fun k=>k h)
theorem mY {a:En} (h:a.i≠0):cG a=a.i:=if_pos h
theorem Bf {a b:En} (ha:a.ok) (hb:b.ok) (h:a.le b):cG a<=cG b:=by
 have b1:=mX ha
 have b2:=mX hb
 unfold En.le at h
 by_cases ia:a.i=0
 ·by_cases ib:b.i=0
  ·rw[jd ia,jd ib]
   exact PE (by omega)
  ·have:b.i=1:=by unfold En.ok at hb;omega
   rw[mY ib];omega
 ·by_cases ib:b.i=0
  ·have:a.i=-1:=by unfold En.ok at ha;omega
   rw[mY ia];omega
  ·rw[mY ia,mY ib];omega
theorem fI {a b:En} (ha:a.i=0) (hb:b.i=0):aJ a b=⟨0,eO a.v b.v⟩:=by
 unfold aJ
 rw[jd ha,jd hb]
 by_cases h:iP a.v*iP b.v=0
 ·rw[if_pos h]
  rcases Int.mul_eq_zero.1 h with k|k
  ·rw[mB k,lD]
  ·rw[mB k,lC,lD]
 ·rw[if_neg h,if_neg (by omega)]
theorem jD {a c:En} (hc:c.i≠0):aJ a c=⟨cG a*c.i,0⟩:=by
 unfold aJ
 rw[mY hc]
 by_cases h:cG a*c.i=0
 ·rw[if_pos h,h]
 ·rw[if_neg h,if_pos (.inr hc)]
theorem nF (a b:En):aJ a b=aJ b a:=by
 unfold aJ
 rw[Int.mul_comm (cG a),lC a.v]
 by_cases h:cG b*cG a=0
 ·rw[if_pos h,if_pos h]
 ·rw[if_neg h,if_neg h]
  by_cases k:a.i≠0∨b.i≠0
  ·rw[if_pos k,if_pos k.symm]
  ·rw[if_neg k,if_neg (fun q=>k q.symm)]
theorem fW {a c:En} (ha:a.i≠0):aJ a c=⟨cG c*a.i,0⟩:=by rw[nF,jD ha]
theorem rJ {a b:En} (ha:a.ok) (hb:b.ok):(aJ a b).ok:=by
 have b1:=mX ha
 have b2:=mX hb
 by_cases ib:b.i=0
 ·by_cases ia:a.i=0
  ·rw[fI ia ib];exact .inl rfl
  ·rw[fW ia]
   unfold En.ok at *
   show cG b*a.i=0∨_ 
   have:a.i=1∨a.i=-1:=by omega
   rcases this with e|e<;>(rw[e];show cG b*_=0∨(cG b*_=1∨cG b*_=-1)∧(0:Int)=0;simp only[and_true];omega)
 ·rw[jD ib]
  unfold En.ok at *
  show cG a*b.i=0∨_ 
  have:b.i=1∨b.i=-1:=by omega
  rcases this with e|e<;>(rw[e];show cG a*_=0∨(cG a*_=1∨cG a*_=-1)∧(0:Int)=0;simp only[and_true];omega)
theorem wc {a b c:En} (ha:a.ok) (hb:b.ok) (hc:c.ok) (h:a.le b) (hs:0<=cG c):(aJ a c).le (aJ b c):=by
 have hm:=Bf ha hb h
 by_cases ic:c.i=0
 ·rw[jd ic] at hs
  have hv:=(Be c.v).2.2.1.1 hs
  by_cases ia:a.i=0
  ·by_cases ib:b.i=0
   ·rw[fI ia ic,fI ib ic]
    exact .inr ⟨rfl,Im (by unfold En.le at h;omega) hv⟩
   ·have eb:b.i=1:=by unfold En.ok En.le at *;omega
    rw[fI ia ic,fW ib,eb,jd ic]
    rcases Int.lt_or_eq_of_le hs with q|q
    ·exact .inl (by show 0<iP c.v*1;omega)
    ·exact .inr ⟨by show 0=iP c.v*1;omega,by show eO _ _<=0;rw[mB q.symm,lC,lD];exact Int.le_refl _⟩
  ·by_cases ib:b.i=0
   ·have ea:a.i=-1:=by unfold En.ok En.le at *;omega
    rw[fI ib ic,fW ia,ea,jd ic]
    rcases Int.lt_or_eq_of_le hs with q|q
    ·exact .inl (by show iP c.v * -1<0;omega)
    ·exact .inr ⟨by show iP c.v * -1=0;omega,by show 0<=eO _ _;rw[mB q.symm,lC,lD];exact Int.le_refl _⟩
   ·rw[fW ia,fW ib]
    have:a.i<=b.i:=by unfold En.le at h;omega
    have hq:cG c*a.i<=cG c*b.i:=Int.mul_le_mul_of_nonneg_left this (by rw[jd ic];exact hs)
    rcases Int.lt_or_eq_of_le hq with q|q
    ·exact .inl q
    ·exact .inr ⟨q,Int.le_refl _⟩
 ·rw[mY ic] at hs
  rw[jD ic,jD ic]
  have hq:cG a*c.i<=cG b*c.i:=Int.mul_le_mul_of_nonneg_right hm hs
  rcases Int.lt_or_eq_of_le hq with q|q
  ·exact .inl q
  ·exact .inr ⟨q,Int.le_refl _⟩
theorem we {a b c:En} (ha:a.ok) (hb:b.ok) (hc:c.ok) (h:a.le b) (hs:cG c<=0):(aJ b c).le (aJ a c):=by
 have hm:=Bf ha hb h
 by_cases ic:c.i=0
 ·rw[jd ic] at hs
  have hv:=(Be c.v).2.2.2.1 hs
  by_cases ia:a.i=0
  ·by_cases ib:b.i=0
   ·rw[fI ia ic,fI ib ic]
    exact .inr ⟨rfl,In (by unfold En.le at h;omega) hv⟩
   ·have eb:b.i=1:=by unfold En.ok En.le at *;omega
    rw[fI ia ic,fW ib,eb,jd ic]
    rcases Int.lt_or_eq_of_le hs with q|q
    ·exact .inl (by show iP c.v*1<0;omega)
    ·exact .inr ⟨by show iP c.v*1=0;omega,by show 0<=eO _ _;rw[mB q,lC,lD];exact Int.le_refl _⟩
  ·by_cases ib:b.i=0
   ·have ea:a.i=-1:=by unfold En.ok En.le at *;omega
    rw[fI ib ic,fW ia,ea,jd ic]
    rcases Int.lt_or_eq_of_le hs with q|q
    ·exact .inl (by show 0<iP c.v * -1;omega)
    ·exact .inr ⟨by show 0=iP c.v * -1;omega,by show eO _ _<=0;rw[mB q,lC,lD];exact Int.le_refl _⟩
   ·rw[fW ia,fW ib]
    have:a.i<=b.i:=by unfold En.le at h;omega
    have hq:cG c*b.i<=cG c*a.i:=Int.mul_le_mul_of_nonpos_left (by rw[jd ic];exact hs) this
    rcases Int.lt_or_eq_of_le hq with q|q
    ·exact .inl q
    ·exact .inr ⟨q,Int.le_refl _⟩
 ·rw[mY ic] at hs
  rw[jD ic,jD ic]
  have hq:cG b*c.i<=cG a*c.i:=Int.mul_le_mul_of_nonpos_right hm hs
  rcases Int.lt_or_eq_of_le hq with q|q
  ·exact .inl q
  ·exact .inr ⟨q,Int.le_refl _⟩
def fT (a b:En):En:=if b.i<a.i∨(b.i=a.i∧b.v<a.v) then b else a
def fU (a b:En):En:=if a.i<b.i∨(a.i=b.i∧a.v<b.v) then b else a
theorem jJ (a b:En):(fT a b).le a∧(fT a b).le b∧(fT a b=a∨fT a b=b):=by
 unfold fT
 split
 ·rename_i h
  exact⟨by unfold En.le;omega,En.le_refl _,.inr rfl⟩
 ·rename_i h
  exact⟨En.le_refl _,by unfold En.le;omega,.inl rfl⟩
theorem jK (a b:En):a.le (fU a b)∧b.le (fU a b)∧(fU a b=a∨fU a b=b):=by
 unfold fU
 split
 ·rename_i h
  exact⟨by unfold En.le;omega,En.le_refl _,.inr rfl⟩
 ·rename_i h
  exact⟨En.le_refl _,by unfold En.le;omega,.inl rfl⟩
theorem Bg {x y:Int} {e f:En} (hx:nn x) (hy:nn y) (kx:au x=au (cD e)) (ky:au y=au (cD f)):nn (jP x y)∧au (jP x y)=au (cD (fT e f)):=by
 obtain⟨a,b,c,d⟩:=nV hx hy
 obtain⟨l1,l2,l3⟩:=jJ e f
 have m1:=(mV l1).1
 have m2:=(mV l2).1
 refine⟨a,?_⟩
 rcases l3 with q|q<;>(rw[q] at m1 m2 ⊢;omega)
theorem Bh {x y:Int} {e f:En} (hx:nn x) (hy:nn y) (kx:au x=au (cF e)) (ky:au y=au (cF f)):nn (jQ x y)∧au (jQ x y)=au (cF (fU e f)):=by
 obtain⟨a,b,c,d⟩:=nW hx hy
 obtain⟨l1,l2,l3⟩:=jK e f
 have m1:=(mV l1).2
 have m2:=(mV l2).2
 refine⟨a,?_⟩
 rcases l3 with q|q<;>(rw[q] at m1 m2 ⊢;omega)
theorem tl {a b x c:En} (ha:a.ok) (hb:b.ok) (hx:x.ok) (hc:c.ok) (h1:a.le x) (h2:x.le b):(fT (aJ a c) (aJ b c)).le (aJ x c)∧(aJ x c).le (fU (aJ a c) (aJ b c)):=by
 obtain⟨l1,l2,_⟩:=jJ (aJ a c) (aJ b c)
 obtain⟨g1,g2,_⟩:=jK (aJ a c) (aJ b c)
 rcases Int.le_total 0 (cG c) with s|s
 ·exact⟨l1.le_trans (wc ha hx hc h1 s),(wc hx hb hc h2 s).le_trans g2⟩
 ·exact⟨l2.le_trans (we hx hb hc h2 s),(we ha hx hc h1 s).le_trans g1⟩
def gD (a b c d:En):En:=fT (fT (fT (aJ a c) (aJ a d)) (aJ b c)) (aJ b d)
def gF (a b c d:En):En:=fU (fU (fU (aJ a c) (aJ a d)) (aJ b c)) (aJ b d)
theorem KF (a b c d:En):(gD a b c d).le (aJ a c)∧(gD a b c d).le (aJ a d)∧(gD a b c d).le (aJ b c)∧(gD a b c d).le (aJ b d):=by
 unfold gD
 have h1:=jJ (aJ a c) (aJ a d)
 have h2:=jJ (fT (aJ a c) (aJ a d)) (aJ b c)
 have h3:=jJ (fT (fT (aJ a c) (aJ a d)) (aJ b c)) (aJ b d)
 exact⟨h3.1.le_trans (h2.1.le_trans h1.1),h3.1.le_trans (h2.1.le_trans h1.2.1),h3.1.le_trans h2.2.1,h3.2.1⟩
theorem KG (a b c d:En):(aJ a c).le (gF a b c d)∧(aJ a d).le (gF a b c d)∧(aJ b c).le (gF a b c d)∧(aJ b d).le (gF a b c d):=by
 unfold gF
 have h1:=jK (aJ a c) (aJ a d)
 have h2:=jK (fU (aJ a c) (aJ a d)) (aJ b c)
 have h3:=jK (fU (fU (aJ a c) (aJ a d)) (aJ b c)) (aJ b d)
 exact⟨(h1.1.le_trans h2.1).le_trans h3.1,(h1.2.1.le_trans h2.1).le_trans h3.1,h2.2.1.le_trans h3.1,h3.2.1⟩
theorem Bi {a b x:En} (h:x.le a) (k:x.le b):x.le (fT a b):=by rcases (jJ a b).2.2 with q|q<;>(rw[q];assumption)
theorem Bj {a b x:En} (h:a.le x) (k:b.le x):(fU a b).le x:=by rcases (jK a b).2.2 with q|q<;>(rw[q];assumption)
theorem PF {a b c d x y:En} (ha:a.ok) (hb:b.ok) (hc:c.ok) (hd:d.ok) (hx:x.ok) (hy:y.ok) (h1:a.le x) (h2:x.le b) (h3:c.le y) (h4:y.le d) :
  (gD a b c d).le (aJ x y)∧(aJ x y).le (gF a b c d):=by
 obtain⟨l1,l2,l3,l4⟩:=KF a b c d
 obtain⟨g1,g2,g3,g4⟩:=KG a b c d
 have p:=tl hc hd hy hx h3 h4
 rw[nF c,nF d,nF y] at p
 have pc:=tl ha hb hx hc h1 h2
 have pd:=tl ha hb hx hd h1 h2
 exact⟨(Bi ((Bi l1 l3).le_trans pc.1) ((Bi l2 l4).le_trans pd.1)).le_trans p.1,p.2.le_trans (Bj (pc.2.le_trans (Bj g1 g3)) (pd.2.le_trans (Bj g2 g4)))⟩
theorem Ff {p:Int} (hp:nn p):cG (aA p)=if rg p=0 then 0 else if p<0 then -1 else 1:=by
 by_cases hi:rg p=9218868437227405312
 ·have h0:¬ rg p=0:=by omega
  rw[ie hi,mY (by exact uV hi),if_neg h0]
 ·rw[gA hi,jd rfl]
  show iP (aq p)=_
  have hv:=cQ hp.1 (fh hp hi)
  obtain⟨k1,k2⟩:=tf hp.1
  have hk:=ql hp.1
  have hr:=kI hp
  have hpw:=bR (-1074)
  unfold iP
  by_cases h0:rg p=0
  ·have hz:iV p=0:=by
    have:au p=0:=by rw[hk,h0];split<;>rfl
    omega
   rw[if_pos h0,hv,hz,Int.zero_mul]
   simp
  ·rw[if_neg h0]
   by_cases hn:p<0
   ·have:iV p<0:=k1.2 (by rw[hk,if_pos hn];omega)
    have:aq p<0:=by rw[hv];exact Int.mul_neg_of_neg_of_pos this hpw
    rw[if_pos this,if_pos hn]
   ·have:0<iV p:=k2.2 (by rw[hk,if_neg hn];omega)
    have:0<aq p:=by rw[hv];exact Int.mul_pos this hpw
    rw[if_neg (by omega),if_pos this,if_neg hn]
theorem Io {p q:Int} (hp:nn p) (hq:nn q):aL (fA p q)=cD (aJ (aA p) (aA q))∧aL (fB p q)=cF (aJ (aA p) (aA q)):=by
 have sp:=Ff hp
 have sq:=Ff hq
 have c0:aL 0=0:=by decide
 have c1:aL 9218868437227405312=9218868437227405312:=by decide
 have c2:aL (-4503599627370496)=-4503599627370496:=by decide
 by_cases h0:rg p=0∨rg q=0
 ·have hE:aJ (aA p) (aA q)=⟨0,0⟩:=by
   unfold aJ
   rw[sp,sq]
   rw[if_pos]
   rcases h0 with h|h
   ·rw[if_pos h];exact Int.zero_mul _
   ·rw[if_pos h];exact Int.mul_zero _
  rw[hE]
  unfold fA fB cD cF
  rw[if_pos h0,if_pos h0]
  simp only[Int.lt_irrefl,if_false]
  rw[c0]
  exact⟨oI.1.symm,oI.2.symm⟩
 ·by_cases hi:rg p=9218868437227405312∨rg q=9218868437227405312
  ·have hn1:rg p≠0:=fun k=>h0 (.inl k)
   have hn2:rg q≠0:=fun k=>h0 (.inr k)
   rw[if_neg hn1] at sp
   rw[if_neg hn2] at sq
   have hE:aJ (aA p) (aA q)=⟨(if p<0 then -1 else 1)*(if q<0 then -1 else 1),0⟩:=by
    unfold aJ
    rw[sp,sq]
    rw[if_neg (by split<;>split<;>decide),if_pos]
    rcases hi with h|h
    ·left;rw[ie h];exact uV h
    ·right;rw[ie h];exact uV h
   rw[hE]
   unfold fA fB cD cF
   rw[if_neg h0,if_pos hi,if_neg h0,if_pos hi]
   unfold bN aG
   by_cases a:p<0<;>by_cases b:q<0<;>simp[a,b]<;>decide
  ·have ip:¬ rg p=9218868437227405312:=fun k=>hi (.inl k)
   have iq:¬ rg q=9218868437227405312:=fun k=>hi (.inr k)
   obtain⟨e1,e2⟩:=PD hp.1 hq.1 (fh hp ip) (fh hq iq)
   rw[gA ip,gA iq,fI rfl rfl]
   have hm:eO (aq p) (aq q)=dr p q:=Pp.symm
   unfold cD cF
   simp only[Int.lt_irrefl,if_false]
   rw[hm]
   exact⟨e1,e2⟩
theorem tQ {p q:Int} (hp:nn p) (hq:nn q):au (fA p q)=au (cD (aJ (aA p) (aA q)))∧au (fB p q)=au (cF (aJ (aA p) (aA q))) :=
 ⟨Rk (eF hp hq).1 (Io hp hq).1,Rl (eF hp hq).2 (Io hp hq).2⟩
theorem PG {a b c d:Int} (ha:nn a) (hb:nn b) (hc:nn c) (hd:nn d):aL (uR a b c d)=cD (gD (aA a) (aA b) (aA c) (aA d))∧aL (uS a b c d)=cF (gF (aA a) (aA b) (aA c) (aA d)):=by
 obtain⟨n1,m1⟩:=eF ha hc
 obtain⟨n2,m2⟩:=eF ha hd
 obtain⟨n3,m3⟩:=eF hb hc
 obtain⟨n4,m4⟩:=eF hb hd
 obtain⟨k1,l1⟩:=tQ ha hc
 obtain⟨k2,l2⟩:=tQ ha hd
 obtain⟨k3,l3⟩:=tQ hb hc
 obtain⟨k4,l4⟩:=tQ hb hd
 have A1:=Bg n1 n2 k1 k2
 have A2:=Bg A1.1 n3 A1.2 k3
 have A3:=Bg A2.1 n4 A2.2 k4
 have B1:=Bh m1 m2 l1 l2
 have B2:=Bh B1.1 m3 B1.2 l3
 have B3:=Bh B2.1 m4 B2.2 l4
 exact⟨Ri A3.1 A3.2,Rj B3.1 B3.2⟩
theorem DM {p:Int} (hp:nn p):(cG (aA p)<=0↔au p<=0)∧(0<=cG (aA p)↔0<=au p):=by
 rw[Ff hp,ql hp.1]
 have:=kI hp
 by_cases h0:rg p=0
 ·rw[if_pos h0,h0];split<;>omega
 ·rw[if_neg h0];split<;>omega
def cK (a:En):En:=⟨-a.i,-a.v⟩
theorem Nz {a b:Bool} (h:a≠b) (X:Int):sg a X=- sg b X:=by
 cases a<;>cases b<;>simp[sg] at h ⊢
theorem Ip {p:Int} (hp:nn p) (hf:ak p=true) (hn:ak (neg p)=true):aq (neg p)=- aq p:=by
 obtain⟨g1,g2⟩:=qe hp
 rw[lj hp.1 hf,lj (ff hp).1.1 hn,g1]
 exact Nz g2 _
theorem PH (x:Int):cK ⟨0,x⟩=⟨0,-x⟩:=rfl
theorem wg {p:Int} (hp:nn p):aA (neg p)=cK (aA p):=by
 obtain⟨hn,hk⟩:=ff hp
 obtain⟨g1,g2⟩:=qe hp
 by_cases hi:rg p=9218868437227405312
 ·rw[ie hi,ie (by rw[g1];exact hi)]
  unfold cK
  have:(neg p<0)↔¬ p<0:=by
   by_cases a:neg p<0<;>by_cases b:p<0<;>simp[a,b] at g2 ⊢
  by_cases b:p<0
  ·rw[if_pos b,if_neg (fun k=>this.1 k b)];rfl
  ·rw[if_neg b,if_pos (this.2 b)];rfl
 ·have hi':¬ rg (neg p)=9218868437227405312:=by rw[g1];exact hi
  rw[gA hi,gA hi',PH,Ip hp (fh hp hi) (fh hn hi')]
theorem NB {P:Program} (w:World) (d:Nat) (t:TypeId) (k:FloatKind) (a b:Nat) (h:P.underlying t=some (.float k)):(Op.equalIn (d+1) t (G7 a) (G7 b)).run P w=.ok (FloatKind.f64.format.order a b == some .eq) w:=by
 simp[Op.equalIn,run_underlying h,Op.floatEq]
theorem Bk {x y:Int} (h:x<=y):(⟨0,sg false x⟩:En).le ⟨0,sg false y⟩:=.inr ⟨rfl,h⟩
theorem Bl {x y:Int} (h:y<=x):(⟨0,sg true x⟩:En).le ⟨0,sg true y⟩:=.inr ⟨rfl,Int.neg_le_neg h⟩
theorem LM (x:Int):(⟨0,x⟩:En).le ⟨1,0⟩:=.inl (by show(0:Int)<1;decide)
theorem LN (x:Int):(⟨-1,0⟩:En).le ⟨0,x⟩:=.inl (by show(-1:Int)<0;decide)
theorem tn (g:Bool) {r:Nat} (h:(r:Int)<9218868437227405312):aA (aG (g&&decide (0<(r:Int))) (r:Int))=⟨0,sg g (vS r)⟩:=by
 obtain⟨a,b,c⟩:=eM (ng:=g&&decide (0<(r:Int))) (r:=(r:Int)) (by omega) (by omega)
 rw[gA (by rw[b];omega)]
 refine En.eq rfl ?_
 show aq _=sg g (vS r)
 rw[lj a ((bM a).2 (by rw[b];exact h)),b,c,Int.toNat_natCast]
 by_cases h0:0<r
 ·rw[decide_eq_true (by omega),Bool.and_true]
 ·have:r=0:=by omega
  subst this
  rw[iT]
  cases g<;>rfl
theorem xl (g:Bool):aA (aG (g&&decide ((0:Int)<9218868437227405312)) 9218868437227405312)=⟨if g then -1 else 1,0⟩:=by
 cases g
 ·rw[ie (by decide)];rfl
 ·rw[ie (by decide)];rfl
theorem NC {r s:Nat} (h:r<=s):vS r<=vS s:=by
 rcases Nat.lt_or_eq_of_le h with g|g
 ·exact Int.le_of_lt (mH g)
 ·rw[g];exact Int.le_refl _
theorem Rm:eL 1 false=9218868437227405311∧eL 1 true=9218868437227405312∧eL 2 false=9218868437227405312∧eL 2 true=9218868437227405311:=⟨by decide,by decide,by decide,by decide⟩
theorem Bm {ng:Bool} {r0:Nat} {left:Int} (way:Int) (h:¬ (r0:Int)<9218868437227405312):bF way ng r0 left=eL way ng:=by
 unfold bF;rw[if_neg h]
theorem ND {g:Bool} {A:Int} {r0:Nat} {left:Int} (hR:fi A r0 left) :
  (aA (aG (g&&decide (0<bF 1 g r0 left)) (bF 1 g r0 left))).le ⟨0,sg g A⟩∧(⟨0,sg g A⟩:En).le (aA (aG (g&&decide (0<bF 2 g r0 left)) (bF 2 g r0 left))):=by
 obtain⟨h1,h2,h3⟩:=And.intro hR.lo (And.intro hR.hi hR.l0)
 obtain⟨b1,b2,b3,b4⟩:=Rm
 by_cases hr:(r0:Int)<9218868437227405312
 ·obtain⟨u1,u2,u3,u4,u5⟩:=vR (decide (r0 % 2=1)) left
  rw[kH 1 hr,kH 2 hr]
  by_cases hl:left=0
  ·have hA:=h3.1 hl
   rw[u5 1 g hl,u5 2 g hl,hA]
   simp only[Bool.false_eq_true,if_false,Int.add_zero]
   rw[tn g hr]
   exact⟨En.le_refl _,En.le_refl _⟩
  ·have hup:∀ s:Bool,(aA (aG (s&&decide (0<(r0:Int)+1)) ((r0:Int)+1)))=if (r0:Int)+1<9218868437227405312 then ⟨0,sg s (vS (r0+1))⟩ else ⟨if s then -1 else 1,0⟩:=fun s=>by
    by_cases q:(r0:Int)+1<9218868437227405312
    ·rw[if_pos q]
     have:=tn s (r:=r0+1) (by omega)
     rw[Int.natCast_add] at this
     exact this
    ·rw[if_neg q]
     have e:(r0:Int)+1=9218868437227405312:=by omega
     rw[e]
     exact xl s
   cases g
   ·rw[u1,u4 hl]
    simp only[Bool.false_eq_true,if_false,if_true,Int.add_zero]
    rw[tn false hr,hup false]
    refine⟨Bk h1,?_⟩
    split
    ·exact Bk (Int.le_of_lt h2)
    ·exact LM _
   ·rw[u2 hl,u3]
    simp only[Bool.false_eq_true,if_false,if_true,Int.add_zero]
    rw[tn true hr,hup true]
    refine⟨?_,Bl h1⟩
    split
    ·exact Bl (Int.le_of_lt h2)
    ·exact LN _
 ·rw[Bm 1 hr,Bm 2 hr]
  have hm:=tn g (r:=9218868437227405311) (by decide)
  have hv:vS 9218868437227405311<=A:=Int.le_trans (NC (by omega)) h1
  have hm':aA (aG (g&&decide ((0:Int)<9218868437227405311)) 9218868437227405311)=⟨0,sg g (vS 9218868437227405311)⟩:=hm
  clear hm
  generalize vS 9218868437227405311=X at hm' hv
  cases g
  ·rw[b1,b3,hm',xl false]
   exact⟨Bk hv,LM _⟩
  ·rw[b2,b4,hm',xl true]
   exact⟨LN _,Bl hv⟩
theorem xm:aA 0=⟨0,0⟩:=by rw[gA (by decide),kJ.1]
theorem tR (V:Int):(aA (jq V)).le ⟨0,V⟩∧(⟨0,V⟩:En).le (aA (jr V)):=by
 by_cases h0:V=0
 ·subst h0
  rw[oI.1,oI.2,xm]
  exact⟨En.le_refl _,En.le_refl _⟩
 ·obtain⟨g,A,r0,left,e,hA,hR,c1,c2⟩:=vX h0
  rw[c1,c2,e]
  exact ND hR
theorem Rn {p q:Int} (hp:nn p) (hq:nn q) (h:(aA p).le (aA q)):au p<=au q:=by
 have:=(mV h).1
 rw[(lW hp).1,(lW hq).1,(jn hp).1,(jn hq).1] at this
 exact this
theorem PI (V:Int):au (jq V)<=au (jr V):=Rn (kr V).1 (kr V).2 ((tR V).1.le_trans (tR V).2)
theorem Sm (a:En):au (cD a)<=au (cF a):=by
 unfold cD cF
 split
 ·exact Int.le_refl _
 ·split
  ·exact Int.le_refl _
  ·exact PI _
theorem LP (V:Int):au (jq V)<9218868437227405312∧-9218868437227405312<au (jr V):=by
 obtain⟨h1,h2⟩:=tR V
 have n1:=(kr V).1
 have n2:=(kr V).2
 have i1:=pe qj.1 n1
 have i2:=pe n2 qj.2
 rw[uU.1] at i1
 rw[uU.2] at i2
 rw[ie (show rg 9218868437227405312=9218868437227405312 by decide)] at i1
 rw[ie (show rg (-4503599627370496)=9218868437227405312 by decide)] at i2
 constructor
 ·refine Int.lt_of_not_ge fun q=>?_
  have:=(i1 q).le_trans h1
  unfold En.le at this
  simp at this
 ·refine Int.lt_of_not_ge fun q=>?_
  have:=h2.le_trans (i2 q)
  unfold En.le at this
  simp at this
theorem Ro {e f:En} (h:e.le f) (h1:e.i<=0) (h2:0<=f.i):cf (cD e) (cF f)=true:=by
 have n1:=(tk e).1
 have n2:=(tk f).2
 refine kG.2 ⟨n1.2,n2.2,Int.le_trans (mV h).1 (Sm f),?_,?_⟩
 ·unfold cD
  rw[if_neg (by omega)]
  split
  ·decide
  ·exact(LP _).1
 ·unfold cF
  split
  ·decide
  ·rw[if_neg (by omega)]
   exact(LP _).2
structure fC (e f:En) (V:Int):Prop where
 lo:e.le ⟨0,V⟩
 hi:(⟨0,V⟩:En).le f
theorem fC.vld {e f:En} {V:Int} (h:fC e f V):cf (cD e) (cF f)=true:=by
 refine Ro (h.lo.le_trans h.hi) ?_ ?_
 ·have:=h.lo;unfold En.le at this;simp at this;omega
 ·have:=h.hi;unfold En.le at this;simp at this;omega
theorem fC.keys {e f:En} {V:Int} (h:fC e f V):au (cD e)<=au (jq V)∧au (jr V)<=au (cF f):=by
 have h1:=(mV h.lo).1
 have h2:=(mV h.hi).2
 unfold cD at h1 ⊢
 unfold cF at h2 ⊢
 exact⟨h1,h2⟩
theorem rN {a c:En} (ha:a.i=0) (hc:c.i=0):bO a c=⟨0,a.v+c.v⟩:=by
 unfold bO;rw[if_neg (fun k=>k ha),if_neg (fun k=>k hc)]
theorem wh {a c:En} (ha:a.i≠0):bO a c=a:=if_pos ha
theorem wi {a c:En} (ha:a.i=0) (hc:c.i≠0):bO a c=c:=by
 unfold bO;rw[if_neg (fun k=>k ha),if_pos hc]
theorem fC.plus {a b c d:En} {x y:Int} (h:fC a b x) (k:fC c d y):fC (bO a c) (bO b d) (x+y):=by
 have h1:=h.lo
 have h2:=h.hi
 have k1:=k.lo
 have k2:=k.hi
 unfold En.le at h1 h2 k1 k2
 simp only at h1 h2 k1 k2
 constructor
 ·by_cases ia:a.i=0
  ·by_cases ic:c.i=0
   ·rw[rN ia ic];exact .inr ⟨rfl,by show a.v+c.v<=x+y;omega⟩
   ·rw[wi ia ic];exact .inl (by show c.i<0;omega)
  ·rw[wh ia];exact .inl (by show a.i<0;omega)
 ·by_cases ib:b.i=0
  ·by_cases id:d.i=0
   ·rw[rN ib id];exact .inr ⟨rfl,by show x+y<=b.v+d.v;omega⟩
   ·rw[wi ib id];exact .inl (by show 0<d.i;omega)
  ·rw[wh ib];exact .inl (by show 0<b.i;omega)
theorem fC.neg {a b:En} {x:Int} (h:fC a b x):fC (cK b) (cK a) (-x):=by
 have h1:=h.lo
 have h2:=h.hi
 unfold En.le at h1 h2
 simp only at h1 h2
 constructor
 ·unfold cK En.le;simp only;omega
 ·unfold cK En.le;simp only;omega
theorem fC.times {a b c d:En} {x y:Int} (ha:a.ok) (hb:b.ok) (hc:c.ok) (hd:d.ok) (h:fC a b x) (k:fC c d y):fC (gD a b c d) (gF a b c d) (eO x y):=by
 have:=PF ha hb hc hd (.inl rfl) (.inl rfl) h.lo h.hi k.lo k.hi
 rw[fI rfl rfl] at this
 exact⟨this.1,this.2⟩
theorem fC.of {lo hi b:Int} (hl:nn lo) (hh:nn hi) (hb:nn b) (pb:ak b=true) (h:au lo<=au b) (k:au b<=au hi):fC (aA lo) (aA hi) (aq b):=by
 have hf:¬ rg b=9218868437227405312:=by have:=(bM hb.1).1 pb;omega
 have h1:=pe hl hb h
 have h2:=pe hb hh k
 rw[gA hf] at h1 h2
 exact⟨h1,h2⟩
theorem fC.vldP {lo hi:Int} {V:Int} (hl:nn lo) (hh:nn hi) (h:fC (aA lo) (aA hi) V):M.cf lo hi=true:=by
 have hv:=h.vld
 rw[(lW hl).1,(lW hh).2] at hv
 obtain⟨v1,v2,v3,v4,v5⟩:=kG.1 hv
 rw[(jn hl).1] at v3 v4
 rw[(jn hh).1] at v3 v5
 exact kG.2 ⟨hl.2,hh.2,v3,v4,v5⟩
theorem mC {p:Int} (h:nn p):aA (aL p)=aA p:=by
 by_cases h0:aH p=0
 ·have hz:=(eZ h.1).2.1 h0
  have hc:aL p=0:=by unfold aL;rw[if_neg h.2,if_pos h0]
  rw[hc,xm,gA (by omega)]
  rcases DL h.1 hz with rfl|rfl
  ·rw[kJ.1]
  ·rw[kJ.2]
 ·have hc:aL p=p:=by unfold aL;rw[if_neg h.2,if_neg h0]
  rw[hc]
theorem PJ (V:Int):(0<au (jq V)->0<V)∧(au (jr V)<0->V<0)∧(au (jq V)<=0->0<=au (jr V)->au (jq V)=0->au (jr V)=0->V=0):=by
 have k0:au 0=0:=by decide
 obtain⟨h1,h2⟩:=tR V
 have n1:=(kr V).1
 have n2:=(kr V).2
 refine⟨fun h=>?_,fun h=>?_,fun _ _ h k=>?_⟩
 ·refine Int.lt_of_not_ge fun q=>?_
  have:=(Ba q).1
  rw[oI.1,k0] at this
  omega
 ·refine Int.lt_of_not_ge fun q=>?_
  have:=(Ba q).2
  rw[oI.2,k0] at this
  omega
 ·have a:=(pe kK.1 n1 (by rw[k0,h];exact Int.le_refl _)).le_trans h1
  have b:=h2.le_trans (pe n2 kK.1 (by rw[k0,k];exact Int.le_refl _))
  rw[xm] at a b
  unfold En.le at a b
  simp only at a b
  omega
def rZ (a b:Int):Int:=if cf a b then (if 0<au a then 1 else if au b<0 then -1 else 0) else 0
def me (a b:Int):Bool:=cf a b&&(decide (0<au a)||(decide (au b<0)||(decide (au a=0)&&decide (au b=0))))
theorem PK {a:Int} (ha:nn a):(0<au a->FloatKind.f64.format.order (wd a) 0=some .gt)∧(au a=0->FloatKind.f64.format.order (wd a) 0=some .eq)∧(au a<0->FloatKind.f64.format.order (wd a) 0=some .lt):=by
 have w0:wd 0=0:=by decide
 have k0:au 0=0:=by decide
 refine⟨fun g=>?_,fun g=>?_,fun g=>?_⟩
 ·have:=iH ha.1 kK.1.1 ha.2 kK.1.2 (by rw[k0];exact g);rw[w0] at this;exact this
 ·have:=ii ha.1 kK.1.1 ha.2 kK.1.2 (by rw[k0];exact g);rw[w0] at this;exact this
 ·have:=iG ha.1 kK.1.1 ha.2 kK.1.2 (by rw[k0];exact g);rw[w0] at this;exact this
theorem Iq {a b:Int} (A B:Nat) (v kn:Bool) (n:Int) (er:Int) (w:World)
  (R1:Hid (∀ W,Calls prog 133 #[.agg #[G6 a,G6 b]] W fun e w'=>e=.returned (.agg #[G7 A,G7 B])∧Below W.heap.size W w'))
  (V1:Hid (∀ W,Calls prog 134 #[.agg #[G7 A,G7 B]] W fun e w'=>e=.returned (.bool v)∧Below W.heap.size W w'))
  (O:(v=false∧n=0∧kn=false∧er=1)∨(v=true∧er=0∧((FloatKind.f64.format.order A 0=some .gt∧n=1∧kn=true)∨((FloatKind.f64.format.order A 0=some .lt∨FloatKind.f64.format.order A 0=some .eq)∧FloatKind.f64.format.order B 0=some .lt∧n=-1∧kn=true)∨(FloatKind.f64.format.order A 0=some .lt∧(FloatKind.f64.format.order B 0=some .gt∨FloatKind.f64.format.order B 0=some .eq)∧n=0∧kn=false)∨(FloatKind.f64.format.order A 0=some .eq∧FloatKind.f64.format.order B 0=some .gt∧n=0∧kn=false)∨(FloatKind.f64.format.order A 0=some .eq∧FloatKind.f64.format.order B 0=some .eq∧n=0∧kn=true)))) :
  Calls prog 69 #[.agg #[G6 a,G6 b]] w fun e w'=>e=.returned (.tuple #[G6 n,.bool kn,G6 er])∧Below w.heap.size w w':=by
 have hst:∀ (p:Addr) (n:Nat) (m:Mode) (w:World),(store p (G7 n) m).run prog w=stored prog w p (G7 n) m:=fun p n m w=>run_store _ w p _ m rfl
 have QX:∀ (x:Nat) W,(Op.equalIn 9999 59 (G7 x) (G7 0)).run prog W=.ok (FloatKind.f64.format.order x 0 == some .eq) W:=fun x W=>by rw[NB W 9998 59 _ x 0 underlying59]
 have hb:=af w (.cells #[G6 a,G6 b] 72)
 rcases O with⟨rfl,rfl,rfl,rfl⟩|⟨rfl,rfl,O⟩
 ·go_enter func69,ntmps69
  go_wp2_with fail
  generalize w.alloc (.cells #[G6 a,G6 b] 72)=wx at *
  refine(R1.out _).mono ?_
  rintro _ w1 ⟨rfl,hb1⟩
  have hba:=af w1 (.cells #[G7 A,G7 B] 160)
  have hg:=DJ w1 (.cells #[G7 A,G7 B] 160) rfl
  go_wp2_with fail
  generalize w1.alloc (.cells #[G7 A,G7 B] 160)=w2 at *
  refine(V1.out _).mono ?_
  rintro _ w3 ⟨rfl,hb2⟩
  go_wp2
  refine bodyPost_ret (v:=.tuple #[G6 0,.bool false,G6 1]) (by simp[results,results69,go_sem]) rfl ⟨rfl,ac hb (ac hb1 (ac hba hb2))⟩
 ·rcases O with⟨o1,rfl,rfl⟩|⟨o1|o1,o2,rfl,rfl⟩|⟨o1,o2|o2,rfl,rfl⟩|⟨o1,o2,rfl,rfl⟩|⟨o1,o2,rfl,rfl⟩
  all_goals
   go_enter func69,ntmps69
   go_wp2_with fail
   generalize w.alloc (.cells #[G6 a,G6 b] 72)=wx at *
   refine(R1.out _).mono ?_
   rintro _ w1 ⟨rfl,hb1⟩
   have hba:=af w1 (.cells #[G7 A,G7 B] 160)
   have hg:=DJ w1 (.cells #[G7 A,G7 B] 160) rfl
   go_wp2_with fail
   generalize w1.alloc (.cells #[G7 A,G7 B] 160)=w2 at *
   refine(V1.out _).mono ?_
   rintro _ w3 ⟨rfl,hb2⟩
   have hg3:=(hb2.block _ (aGe hg).1).trans hg
   have c0:w3.cell? ⟨w1.heap.size,0,none⟩=some (G7 A):=ae hg3 0 rfl
   have c1:w3.cell? ⟨w1.heap.size,1,none⟩=some (G7 B):=ae hg3 1 rfl
   have kd:w3.drew.cell? ⟨w1.heap.size,0,none⟩=some (G7 A)∧w3.drew.cell? ⟨w1.heap.size,1,none⟩=some (G7 B):=⟨c0,c1⟩
  ·go_wp2
   refine bodyPost_ret (v:=.tuple #[G6 1,.bool true,G6 0]) (by simp[results,results69,go_sem]) rfl ⟨rfl,ac hb (ac hb1 (ac hba hb2))⟩
  iterate 2
   ·go_wp2
    refine bodyPost_ret (v:=.tuple #[G6 (-1),.bool true,G6 0]) (by simp[results,results69,go_sem]) rfl ⟨rfl,ac hb (ac hb1 (ac hba hb2))⟩
  all_goals
   have QA:=fun W=>QX A W
   have QB:=fun W=>QX B W
   rw[o1] at QA
   rw[o2] at QB
   clear QX
   go_wp2_with fail
   go_region_held3 (fun W=>W.cell? ⟨w1.heap.size,0,none⟩=some (G7 A)∧W.cell? ⟨w1.heap.size,1,none⟩=some (G7 B)) (first|assumption|exact kd) (fail)
   go_wp2
  iterate 3
   ·exact bodyPost_ret (v:=.tuple #[G6 0,.bool false,G6 0]) (by simp[results,results69,go_sem]) rfl ⟨rfl,(ac hb (ac hb1 (ac hba hb2))).drew⟩
  ·exact bodyPost_ret (v:=.tuple #[G6 0,.bool true,G6 0]) (by simp[results,results69,go_sem]) rfl ⟨rfl,(ac hb (ac hb1 (ac hba hb2))).drew⟩
theorem Ir {a b:Int} (ha:ag a) (hb:ag b) (w:World) :
  Calls prog 69 #[ek a b] w fun e w'=>e=.returned (.tuple #[G6 (rZ a b),.bool (me a b),G6 (lV (cf a b))])∧Below w.heap.size w w':=by
 refine Iq (wd a) (wd b) (cf a b) (me a b) (rZ a b) (lV (cf a b)) w (fun W=>Ke a b W) (fun W=>uN ha hb W) ?_
 cases hv:cf a b
 ·left
  unfold rZ me lV
  rw[hv]
  simp
 ·right
  obtain⟨va,vb,h1,h2,h3⟩:=kG.1 hv
  obtain⟨a1,a2,a3⟩:=PK ⟨ha,va⟩
  obtain⟨b1,b2,b3⟩:=PK ⟨hb,vb⟩
  refine⟨rfl,rfl,?_⟩
  unfold rZ me
  rw[hv]
  simp only[if_true,Bool.true_and]
  by_cases p1:0<au a
  ·left
   exact⟨a1 p1,if_pos p1,by simp[p1]⟩
  ·right
   have p1':au a<0∨au a=0:=by omega
   by_cases p2:au b<0
   ·left
    exact⟨p1'.imp a3 a2,b3 p2,by rw[if_neg p1,if_pos p2],by simp[p2]⟩
   ·right
    have q0:decide (0<au a)=false:=decide_eq_false p1
    have q1:decide (au b<0)=false:=decide_eq_false p2
    rw[if_neg p1,if_neg p2,q0,q1]
    simp only[Bool.false_or]
    rcases p1' with p3|p3
    ·left
     refine⟨a3 p3,?_,by first|rfl|trivial,by rw[decide_eq_false (by omega)];rfl⟩
     rcases (show 0<au b∨au b=0 by omega) with q|q
     ·exact .inl (b1 q)
     ·exact .inr (b2 q)
    ·right
     rcases (show 0<au b∨au b=0 by omega) with q|q
     ·left
      exact⟨a2 p3,b1 q,by first|rfl|trivial,by rw[decide_eq_false (show ¬ au b=0 by omega)];simp⟩
     ·right
      exact⟨a2 p3,b2 q,by first|rfl|trivial,by rw[decide_eq_true p3,decide_eq_true q];rfl⟩
theorem Bn {a b c d l l' h' h:Nat} (w:World)
    (S1:Hid (∀ W,Calls prog 217 #[G7 a,G7 c] W fun e w'=>e=.returned (.agg #[G7 l,G7 l'])∧Below W.heap.size W w'))
    (S2:Hid (∀ W,Calls prog 217 #[G7 b,G7 d] W fun e w'=>e=.returned (.agg #[G7 h',G7 h])∧Below W.heap.size W w')) :
    Calls prog 161 #[.agg #[G7 a,G7 b],.agg #[G7 c,G7 d]] w fun e w'=>e=.returned (.agg #[G7 l,G7 h])∧Below w.heap.size w w':=by
  obtain⟨q0,q1,q2,hs,hb3⟩:=oW w (.cells #[G7 a,G7 b] 160) (.cells #[G7 c,G7 d] 160) (.cells #[G7 0,G7 0] 160)
  have k0:=ae q0 0 rfl
  have k1:=ae q0 1 rfl
  have k2:=ae q1 0 rfl
  have k3:=ae q1 1 rfl
  go_enter func161,ntmps161
  go_wp2_with fail
  generalize ((w.alloc (.cells #[G7 a,G7 b] 160)).alloc (.cells #[G7 c,G7 d] 160)).alloc (.cells #[G7 0,G7 0] 160)=wx at *
  obtain⟨g,hg⟩:∃ g,w.heap.size+1+1=g:=⟨_,rfl⟩
  have hwg:w.heap.size+2<=g:=by omega
  replace q2:wx.drew.heap[g]?=some (.cells #[G7 0,G7 0] 160 (0,0)):=by rw[<- hg];exact q2
  simp only[hg]
  clear hg
  have hc:(w.heap.size<w.heap.size+2∧w.heap.size+1<w.heap.size+2∧w.heap.size+2<=wx.drew.heap.size)∧wx.drew.cell? ⟨w.heap.size,0,none⟩=some (G7 a)∧wx.drew.cell? ⟨w.heap.size,1,none⟩=some (G7 b)∧wx.drew.cell? ⟨w.heap.size+1,0,none⟩=some (G7 c)∧wx.drew.cell? ⟨w.heap.size+1,1,none⟩=some (G7 d):=⟨⟨by omega,by omega,by show _<=wx.heap.size;omega⟩,k0,k1,k2,k3⟩
  have hbd:=hb3.drew
  have fl0:∀ w:World,(Instr.field 160 (.agg #[G7 l,G7 l']) 0).run prog w=.ok (G7 l) w:=fun w=>by kernel_rfl
  have fl1:∀ w:World,(Instr.field 160 (.agg #[G7 h',G7 h]) 1).run prog w=.ok (G7 h) w:=fun w=>by kernel_rfl
  clear q0 q1 k0 k1 k2 k3
  go_region_held3 (fun W=>(w.heap.size<w.heap.size+2∧w.heap.size+1<w.heap.size+2∧w.heap.size+2<=W.heap.size)∧W.cell? ⟨w.heap.size,0,none⟩=some (G7 a)∧W.cell? ⟨w.heap.size,1,none⟩=some (G7 b)∧W.cell? ⟨w.heap.size+1,0,none⟩=some (G7 c)∧W.cell? ⟨w.heap.size+1,1,none⟩=some (G7 d))
    (first|assumption|(repeat (first|exact hc|exact hc1|exact hc2|refine xi ?_|refine AM (by omega) ?_)))
    (first
      | (go_at_call 217;have _t:=hb4;refine(S2.out _).mono ?_;rintro _ w2 ⟨rfl,hb5⟩;have hc2:=qh hc1 hb5;have d2:=((ac hb4 hb5).block _ (aGe q2).1).trans q2;have d3:=az d2 0 (G7 l);have d4:=az d3 1 (G7 h);have f0:=ae d2 0 rfl;have z0:=ah d2 0;have f1:=ae d3 1 rfl;have z1:=ah d3 1;have s0:(store ⟨g,0,none⟩ (G7 l)).run prog w2=.ok () (w2.setCell ⟨g,0,none⟩ (G7 l)):=(by rw[run_store _ _ _ _ _ rfl,f0];simp only[z0];rfl);have s1:(store ⟨g,1,none⟩ (G7 h)).run prog (w2.setCell ⟨g,0,none⟩ (G7 l))=.ok () ((w2.setCell ⟨g,0,none⟩ (G7 l)).setCell ⟨g,1,none⟩ (G7 h)):=(by rw[run_store _ _ _ _ _ rfl,f1];simp only[z1];rfl))
      | (go_at_call 217; refine (S1.out _).mono ?_; rintro _ w1 ⟨rfl,hb4⟩; have hc1:=qh hc hb4))
  have e0:=ae d4 0 rfl
  have e1:=ae d4 1 rfl
  have hbe:=((ac hbd (ac hb4 hb5)).setCell (p:=⟨g,0,none⟩) (show w.heap.size<=g by omega) (G7 l)).setCell (p:=⟨g,1,none⟩) (show w.heap.size<=g by omega) (G7 h)
  clear d2 d3 d4 f0 f1 z0 z1 s0 s1 hc hc1 hc2
  generalize (w2.setCell ⟨g,0,none⟩ (G7 l)).setCell ⟨g,1,none⟩ (G7 h)=wy at *
  go_wp2
  refine bodyPost_ret (v:=.agg #[G7 l,G7 h]) (by simp[results,results161,go_sem,e0,e1]) rfl ⟨rfl,hbe⟩
theorem Fg {p:Int} (h:ag p) (hr:rg p<=9218868437227405312):nn p:=⟨h,fun e=>by have:=(eZ h).1.1 e;omega⟩
theorem Bo {p:Int} (h:nn p):nn (next p):=by
 have h1:=kI h
 have h2:=h.1
 unfold ag at h2
 unfold next
 rw[if_neg h.2]
 unfold rg at h1
 split
 ·exact h
 ·split
  ·exact Fg (by unfold ag;omega) (by decide)
  ·split
   ·rename_i h4 h5 h6
    rw[if_pos h6] at h1
    exact Fg (by unfold ag;omega) (by unfold rg;split<;>omega)
   ·rename_i h4 h5 h6
    rw[if_neg h6] at h1
    exact Fg (by unfold ag;omega) (by unfold rg;split<;>omega)
theorem KH {p:Int} (h:nn p):nn (fm p):=by
 unfold fm
 exact(ff (Bo (ff h).1)).1
theorem yZ {n l:Int} (h:nn n):nn (fj n l)∧nn (fl n l):=by
 unfold fj fl
 refine⟨?_,?_⟩
 ·split
  ·exact KH h
  ·exact h
 ·split
  ·exact h
  ·split
   ·exact Bo h
   ·exact h
end Go.Proofs.YtjjihmnbdeeedaaGreatDoor
