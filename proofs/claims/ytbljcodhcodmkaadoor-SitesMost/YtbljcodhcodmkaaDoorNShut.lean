/-
  What a row gives of its arguments: a slice of ints that came in, as the walks want it.
-/
import Derived.Test.YtbljcodhcodmkaaDoorRows
import Derived.Test.YtbljcodhcodmkaaDoorNRow
import Derived.ProofKit
import Derived.OpenShut
import Derived.ChangeOld
namespace Go.Proofs.YtbljcodhcodmkaaDoor
open Go Go.ChangeShapes Go.WideShapes Go.ChangeAt Go.RowKit Go.Proofs.YtbljcodhcodmkaaDoor.M
set_option linter.unusedSimpArgs false
set_option linter.unusedVariables false

theorem rng_of {x : Int} (h : (Lit.int .i64 x).wf = true) : rng x := by
  simp [Lit.wf, IntKind.min, IntKind.max, IntKind.signed, IntKind.bits] at h
  unfold rng; omega
end Go.Proofs.YtbljcodhcodmkaaDoor
