/-
  plumblaw2's Keep: where it begins (nothing is kept), where it ends (Apart).
-/
import Derived.Test.YtmbajngbiefilaaNKept
import Derived.Test.YtmbajngbiefilaaNApart
namespace Go.Proofs.Ytmbajngbiefilaa
open Go Go.RowKit Go.Proofs.Ytmbajngbiefilaa.M
set_option linter.unusedSimpArgs false
set_option linter.unusedVariables false

/-- Nothing is kept yet. -/
theorem kept_new (w : World) {B : Nat} (hB : B ≤ w.heap.size) : Kept B (w.alloc (.cells #[.slice none 0 0, .slice none 0 0] 26)) w.heap.size (fun _ => False) :=
  ⟨0, fun _ => .slice none 0 0, fun _ => .slice none 0 0, fun _ => 0, fun _ _ => 0, by omega, ⟨⟨.slice none 0 0, .slice none 0 0, heap_alloc_new w _, World.ownsRow_nil _ _ _ _, World.ownsRow_nil _ _ _ _, fun g hg => by simp [Value.ownBlock] at hg⟩, hB, fun i hi => by omega, fun i hi => by omega, fun i hi => by omega, fun i j hi => by omega⟩, fun i hi => by omega, fun i hi => by omega⟩
theorem apart_kept {B k : Nat} {w : World} {S : Nat → Prop} (h : Kept B w k S) (hB : B ≤ w.heap.size) :
    Calls Try.prog 9 #[.pointer (some ⟨k, 0, none⟩)] w fun e w' => e = .returned (.bool true) ∧ Below B w w' := by
  obtain ⟨m, v, u, n, d, hm, hk, _, _⟩ := h
  exact apart_any B k m v u n d w hk hB hm
end Go.Proofs.Ytmbajngbiefilaa
