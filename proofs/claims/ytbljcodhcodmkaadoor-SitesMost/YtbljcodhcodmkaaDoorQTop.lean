/-
  Package point: Cmp, Same, by their contracts; plumblaw9's num and alive.
-/
import Derived.Test.YtbljcodhcodmkaaDoorQRef
namespace Go.Proofs.YtbljcodhcodmkaaDoor
open Go Go.RowKit Go.Proofs.YtbljcodhcodmkaaDoor.M
set_option linter.unusedSimpArgs false
set_option linter.unusedVariables false

theorem q_cell {w w' : World} {p : Addr} {v : Value} (h : w.cell? p = some v) (hb : Below w.heap.size w w') : w'.cell? p = some v :=
  (hb.cell (World.block_lt_of_cell? w _ h)).trans h
theorem Q4.keeps {a b : Nat} {x0 x1 x2 x3 : Value} {W W' : World} (h : W.cell? ⟨a, 0, none⟩ = some x0 ∧ W.cell? ⟨a, 1, none⟩ = some x1 ∧ W.cell? ⟨b, 0, none⟩ = some x2 ∧ W.cell? ⟨b, 1, none⟩ = some x3) (hb : Below W.heap.size W W') :
    W'.cell? ⟨a, 0, none⟩ = some x0 ∧ W'.cell? ⟨a, 1, none⟩ = some x1 ∧ W'.cell? ⟨b, 0, none⟩ = some x2 ∧ W'.cell? ⟨b, 1, none⟩ = some x3 :=
  ⟨q_cell h.1 hb, q_cell h.2.1 hb, q_cell h.2.2.1 hb, q_cell h.2.2.2 hb⟩
/-- the order of points, or nothing -/
def cmpF (ok : Bool) (c : Int) : Int := if ok then c else 0
end Go.Proofs.YtbljcodhcodmkaaDoor
