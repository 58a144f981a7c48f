/-
  A list of points that came in, off its reading.
-/
import Derived.Test.YtejbjaddfjelaaaDoorTPts
import Derived.Test.YtejbjaddfjelaaaDoorQShut
import Derived.Deep.Slices
namespace Go.Proofs.YtejbjaddfjelaaaDoor
open Go Go.ChangeShapes Go.WideShapes Go.ChangeAt Go.RowKit Go.Proofs.YtejbjaddfjelaaaDoor.M
set_option linter.unusedSimpArgs false
set_option linter.unusedVariables false

structure IsPts (W : World) (a : Option Addr) (len cap : Nat) (z : Nat → Int × Int) : Prop where
  pts : PtS W a len cap (fun i => (z i).1) (fun i => (z i).2)
  rg : ∀ i, i < len → rng (z i).1 ∧ rng (z i).2
set_option maxRecDepth 100000 in
theorem pts_of {H : Type} {enc : TypeId × Value → H} {W : World} {fuel : Nat} {a : Option Addr} {len cap : Nat} {x : DataW H × List MemPlace}
    (h : DataW.trod enc Tryd.prog W 0 (fun _ => true) true fuel 22 [.slice a len cap] = some x) (hw : ∀ n ∈ x.1.weights Tryd.prog 22, n ≤ reachBytes) : ∃ z, IsPts W a len cap z := by
  rcases Deep.open_slice Tryd.underlying22 h with ⟨hcs, _⟩ | ⟨p, l, c, m, n, D, Pl, hcs, _, hl, hm, hmm, hx, hel⟩
  · simp at hcs
    obtain ⟨rfl, rfl, rfl⟩ := hcs
    exact ⟨fun _ => (0, 0), ⟨Nat.le_refl _, by decide, fun h => by omega⟩, fun i hi => by omega⟩
  · simp at hcs
    obtain ⟨rfl, rfl, rfl⟩ := hcs
    simp only [if_true] at hmm
    subst hmm
    by_cases h0 : len = 0
    · exact ⟨fun _ => (0, 0), ⟨hl, by unfold maxLen at hm; exact hm, fun h => by omega⟩, fun i hi => by omega⟩
    have each : ∀ i, i < len → ∃ r : Int × Int, W.cells? 0 (p.add (i * 2)) 2 = some [.int .i64 r.1, .int .i64 r.2] ∧ rng r.1 ∧ rng r.2 := by
      intro i hi
      obtain ⟨cs', h1, h2⟩ := hel i (by omega)
      rw [q_cellsPoint] at h1
      obtain ⟨r1, r2, rfl, hr⟩ := point_cells h2
      exact ⟨(r1, r2), h1, hr⟩
    obtain ⟨q, hq⟩ := Deep.choose_lt each
    have cell : ∀ i j, i < len → j < 2 → W.cell? ((p.add (i * 2)).add j) = ([.int .i64 (q i).1, .int .i64 (q i).2] : List Value)[j]? := by
      intro i j hi hj
      exact (World.cells?_some (hq i hi).1).2.2 j hj
    obtain ⟨b, off, spot⟩ := p
    have h2 : W.cell? ⟨b, off, spot⟩ = some (.int .i64 (q 0).1) := by simpa [Addr.add] using cell 0 0 (by omega) (by omega)
    have hspot : spot = none := World.cell?_spot h2
    subst hspot
    refine ⟨q, ⟨hl, by unfold maxLen at hm; exact hm, fun _ => ⟨b, off, rfl, World.block_lt_of_cell? W _ h2, fun i hi => ?_⟩⟩, fun i hi => (hq i hi).2⟩
    have x0 := cell i 0 hi (by omega)
    have x1 := cell i 1 hi (by omega)
    rw [add_none, add_none] at x0 x1
    exact ⟨x0, x1⟩
end Go.Proofs.YtejbjaddfjelaaaDoor
