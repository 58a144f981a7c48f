/-
  What a row gives: a point that came in, as the walks want it.
-/
import Derived.Test.YtejbjaddfjelaaaDoorNShut
import Derived.Test.YtejbjaddfjelaaaDoorQM
namespace Go.Proofs.YtejbjaddfjelaaaDoor
open Go Go.ChangeShapes Go.WideShapes Go.ChangeAt Go.RowKit Go.Proofs.YtejbjaddfjelaaaDoor.M
set_option linter.unusedSimpArgs false
set_option linter.unusedVariables false

theorem q_cellsPoint : Tryd.prog.cellsOf 31 = 2 := by kernel_rfl
theorem q_cellsInt : Tryd.prog.cellsOf 3 = 1 := by kernel_rfl
set_option maxRecDepth 100000 in
/-- A point's cells, off its reading. -/
theorem point_cells {H : Type} {enc : TypeId × Value → H} {W : World} {n : Nat} {cs : List Value} {x : DataW H × List MemPlace}
    (h : DataW.trod enc Tryd.prog W 0 (fun _ => true) true n 31 cs = some x) :
    ∃ a b : Int, cs = [.int .i64 a, .int .i64 b] ∧ rng a ∧ rng b := by
  obtain ⟨xs, m, _, rfl, hl, hlen, hf⟩ := DataW.trod_struct Tryd.underlying31 h
  rw [q_cellsPoint] at hl
  match cs, hl with
  | [v0, v1], _ =>
    match xs, hlen with
    | [y0, y1], _ =>
      have f0 : DataW.trod enc Tryd.prog W 0 (fun _ => true) true m 3 (([v0, v1].drop 0).take (Tryd.prog.cellsOf 3)) = some y0 := hf 0 _ rfl
      have f1 : DataW.trod enc Tryd.prog W 0 (fun _ => true) true m 3 (([v0, v1].drop 1).take (Tryd.prog.cellsOf 3)) = some y1 := hf 1 _ rfl
      rw [q_cellsInt] at f0 f1
      simp only [List.drop_zero, List.drop_succ_cons, List.take_succ_cons, List.take_zero] at f0 f1
      obtain ⟨k0, e0, _, w0⟩ := DataW.trod_int Tryd.underlying3 f0
      obtain ⟨k1, e1, _, w1⟩ := DataW.trod_int Tryd.underlying3 f1
      simp at e0 e1
      subst e0 e1
      exact ⟨k0, k1, rfl, rng_of w0, rng_of w1⟩
end Go.Proofs.YtejbjaddfjelaaaDoor
