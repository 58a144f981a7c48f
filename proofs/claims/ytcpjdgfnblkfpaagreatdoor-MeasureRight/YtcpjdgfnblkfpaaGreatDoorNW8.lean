/-
  Package nat: takeOut (a divisor taken out of the highest digits as often as it goes), by its contract.
-/
import Derived.Test.YtcpjdgfnblkfpaaGreatDoorNW5
import Derived.Test.YtcpjdgfnblkfpaaGreatDoorNW7
namespace Go.Proofs.YtcpjdgfnblkfpaaGreatDoor
open Go Go.RowKit Go.Proofs.YtcpjdgfnblkfpaaGreatDoor.M
set_option linter.unusedSimpArgs false
set_option linter.unusedVariables false

theorem RowX.row {g : Nat} {w : World} {ao : Option Addr} {n cap : Nat} {d : Nat → Int} (h : RowX g w ao n cap d) (hn : 0 < n) : Row w ao n cap d :=
  ⟨h.le, h.max, (fun e => by obtain ⟨b, off, q, _⟩ := h.spot hn; rw [q] at e; cases e), fun _ => by
    obtain ⟨b, off, q, hlt, _, hc⟩ := h.spot hn
    exact ⟨b, off, q, hlt, hc⟩⟩
/-- What takeOut leaves: in the digits from at on a rest below V, t times V less. -/
def Tk (g N at_ M : Nat) (r : Nat → Int) (w w' : World) (U V t : Int) : Prop :=
  ∃ r', Blk w' g N r' ∧ (∀ i, i < at_ ∨ at_ + M < i → r' i = r i) ∧ Dig (fun i => r' (at_ + i)) (M + 1) ∧ U = t * V + val (fun i => r' (at_ + i)) (M + 1) ∧ val (fun i => r' (at_ + i)) (M + 1) < V ∧ 0 ≤ t ∧ t < 1073741824 ∧ Wr g w w'
theorem dig_upd {f : Nat → Int} {k : Nat} {x : Int} (h : Dig f k) (h0 : 0 ≤ x) (h1 : x < 1073741824) : Dig (upd f k x) (k + 1) := fun i hi => by
  by_cases e : i = k
  · rw [e, upd_same]; exact ⟨h0, h1⟩
  · rw [upd_other f x e]; exact h i (by omega)
theorem tk_end {R x p V : Int} (h0 : 0 ≤ R) (h1 : R < p) (hp : 0 < p) (hV : V < p) (h2 : 0 ≤ R + x * p) (h3 : R + x * p < V) : x = 0 := by
  rcases Int.lt_trichotomy x 0 with h | h | h
  · have : x * p ≤ -1 * p := mul_le_r (by omega) (by omega)
    omega
  · exact h
  · have : 1 * p ≤ x * p := mul_le_r (by omega) (by omega)
    omega
theorem Stp.facts {u v : Nat → Int} {L M : Nat} {U V : Int} (hM : M = L + 2) (h : Stp u v L U V) : Dig v M ∧ Dig u (M + 1) ∧ V = val v M ∧ U = val u M + u M * P M ∧ V < P M ∧ 0 ≤ U := by
  subst hM
  have e1 := h.eU
  have e2 := val_nonneg h.du
  have e3 := val_lt h.dv
  have e4 := h.eV
  refine ⟨h.dv, h.du, e4, ?_, by omega, by omega⟩
  rw [e1]; exact val_succ u (L + 2)
theorem Blk.cells {w : World} {g N : Nat} {r : Nat → Int} (h : Blk w g N r) {at_ n : Nat} (hn : at_ + n ≤ N) : ∀ i, i < n → w.cell? ⟨g, at_ + i, none⟩ = some (.int .i64 ((fun j => r (at_ + j)) i)) := fun i hi => h.cell (by omega)
end Go.Proofs.YtcpjdgfnblkfpaaGreatDoor
