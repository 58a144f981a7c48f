/-
  Package span: Join; plumblaw8's alive: it answers true.
-/
import Derived.Test.YtcpjdgfnblkfpaaGreatDoorSPt4
namespace Go.Proofs.YtcpjdgfnblkfpaaGreatDoor
open Go Go.RowKit Go.Proofs.YtcpjdgfnblkfpaaGreatDoor.M
set_option linter.unusedSimpArgs false
set_option linter.unusedVariables false

set_option maxRecDepth 100000 in
theorem besideZ (x : Nat) (w : World) :
    Calls Tryz.prog 122 #[.float .f64 x, .float .f64 0] w fun e w' => e = .returned (.agg #[.float .f64 x, .float .f64 x]) ∧ w' = w.alloc (.cells #[.float .f64 x, .float .f64 x] 98) := by
  have hst : ∀ (p : Addr) (n : Nat) (m : Mode) (w : World), (store p (.float .f64 n) m).run Tryz.prog w = stored Tryz.prog w p (.float .f64 n) m := fun p n m w => run_store _ w p _ m rfl
  have o : FloatKind.f64.format.order 0 0 = some .eq := by decide +kernel
  have hg : (w.alloc (.cells #[.float .f64 x, .float .f64 x] 98)).heap[w.heap.size]? = some (.cells #[.float .f64 x, .float .f64 x] 98 (0, 0)) := hl_last _ _ rfl
  have e0 := blkC hg 0 rfl
  have e1 := blkC hg 1 rfl
  go_enter Tryz.func122, Tryz.ntmps122
  go_wp2
  refine bodyPost_ret (v := .agg #[.float .f64 x, .float .f64 x]) (by simp [results, Tryz.results122, go_sem, e0, e1]) rfl ⟨rfl, rfl⟩
end Go.Proofs.YtcpjdgfnblkfpaaGreatDoor
