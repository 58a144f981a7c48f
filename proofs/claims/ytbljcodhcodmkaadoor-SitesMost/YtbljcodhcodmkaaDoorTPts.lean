/-
  Package sites, by contracts: Points; the law's own test that something is there at all.
-/
import Derived.Test.YtbljcodhcodmkaaDoorTDrop
namespace Go.Proofs.YtbljcodhcodmkaaDoor
open Go Go.RowKit Go.Proofs.YtbljcodhcodmkaaDoor.M
set_option linter.unusedSimpArgs false
set_option linter.unusedVariables false

/-- A slice of points that is read. -/
structure PtS (w : World) (ao : Option Addr) (n cap : Nat) (px py : Nat → Int) : Prop where
  le : n ≤ cap
  max : cap ≤ 9223372036854775807
  spot : 0 < n → ∃ b off, ao = some ⟨b, off, none⟩ ∧ b < w.heap.size ∧ ∀ i, i < n → w.cell? ⟨b, off + i * 2, none⟩ = some (.int .i64 (px i)) ∧ w.cell? ⟨b, off + i * 2 + 1, none⟩ = some (.int .i64 (py i))
theorem PtS.stays {w w' : World} {ao : Option Addr} {n cap B : Nat} {px py : Nat → Int} (h : PtS w ao n cap px py) (hB : w.heap.size ≤ B) (hb : Below B w w') : PtS w' ao n cap px py :=
  ⟨h.le, h.max, fun hn => by
    obtain ⟨b, off, rfl, hlt, hc⟩ := h.spot hn
    exact ⟨b, off, rfl, Nat.lt_of_lt_of_le hlt hb.size, fun i hi => ⟨(hb.cell (p := ⟨b, off + i * 2, none⟩) (Nat.lt_of_lt_of_le hlt hB)).trans (hc i hi).1, (hb.cell (p := ⟨b, off + i * 2 + 1, none⟩) (Nat.lt_of_lt_of_le hlt hB)).trans (hc i hi).2⟩⟩⟩
theorem t_infoP : (Tryd.prog.info? 31).map (fun i => (i.zero, i.size, i.bytes)) = some (some (.agg #[.int .i64 0, .int .i64 0]), 2, 16) := by kernel_rfl
/-- A block of n points, of which the first j are laid. -/
def BlP (w : World) (b n j : Nat) (px py : Nat → Int) : Prop := ∃ cur, w.heap[b]? = some (.cells cur 31 (0, 0)) ∧ cur.size = n * 2 ∧ ∀ i, i < j → cur[i * 2]? = some (.int .i64 (px i)) ∧ cur[i * 2 + 1]? = some (.int .i64 (py i))
theorem BlP.cell {w : World} {b n j : Nat} {px py : Nat → Int} (h : BlP w b n j px py) {i : Nat} (hi : i < n) : (∃ v, w.cell? ⟨b, i * 2, none⟩ = some v) ∧ (∃ v, w.cell? ⟨b, i * 2 + 1, none⟩ = some v) ∧ w.frozen? ⟨b, i * 2, none⟩ = false ∧ w.frozen? ⟨b, i * 2 + 1, none⟩ = false := by
  obtain ⟨cur, h1, h2, h3⟩ := h
  refine ⟨⟨cur[i * 2]'(by omega), ?_⟩, ⟨cur[i * 2 + 1]'(by omega), ?_⟩, frozen_of_row w b _ _ _ h1, frozen_of_row w b _ _ _ h1⟩
  · rw [cell_of_row w b _ _ _ _ h1, Array.getElem?_eq_getElem]
  · rw [cell_of_row w b _ _ _ _ h1, Array.getElem?_eq_getElem]
theorem BlP.pts {w : World} {b n : Nat} {px py : Nat → Int} (h : BlP w b n n px py) (hn : n ≤ 100000) : PtS w (some ⟨b, 0, none⟩) n n px py := by
  obtain ⟨cur, h1, h2, h3⟩ := h
  refine ⟨Nat.le_refl _, by omega, fun _ => ⟨b, 0, rfl, (Array.getElem?_eq_some_iff.1 h1).1, fun i hi => ?_⟩⟩
  rw [Nat.zero_add, cell_of_row w b _ _ _ _ h1, cell_of_row w b _ _ _ _ h1]
  exact h3 i hi
end Go.Proofs.YtbljcodhcodmkaaDoor
