/-
  Small laws on worlds that grow.
-/
import Derived.Test.YtcpjdgfnblkfpaaGreatDoorSPt4
namespace Go.Proofs.YtcpjdgfnblkfpaaGreatDoor
open Go Go.RowKit Go.Proofs.YtcpjdgfnblkfpaaGreatDoor.M
set_option linter.unusedSimpArgs false
set_option linter.unusedVariables false

theorem al1 {w W : World} (h : Below w.heap.size w W) (o : Obj) : Below w.heap.size w (W.alloc o) := h.alloc h.size o
theorem size_drew (w : World) : w.drew.heap.size = w.heap.size := rfl
theorem sz1 (w : World) (a : Obj) : w.heap.size + 1 = (w.alloc a).heap.size := (size_alloc _ _).symm
theorem sz2 (w : World) (a b : Obj) : w.heap.size + 1 + 1 = ((w.alloc a).alloc b).heap.size := by rw [size_alloc, size_alloc]
theorem sz2d (w : World) (a b : Obj) : w.heap.size + 1 + 1 = ((w.alloc a).drew.alloc b).heap.size := by rw [size_alloc, size_drew, size_alloc]
theorem blk_up {w W : World} (h : Below w.heap.size w W) {g : Nat} {X : Obj} (k : w.heap[g]? = some X) : W.heap[g]? = some X := (h.block _ (Array.getElem?_eq_some_iff.1 k).1).trans k
end Go.Proofs.YtcpjdgfnblkfpaaGreatDoor
