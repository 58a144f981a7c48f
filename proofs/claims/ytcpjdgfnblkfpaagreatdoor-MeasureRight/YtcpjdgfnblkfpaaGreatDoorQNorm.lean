/-
  Package point: Normal, by its contract; the document's Normal.
-/
import Derived.Test.YtcpjdgfnblkfpaaGreatDoorQTop
namespace Go.Proofs.YtcpjdgfnblkfpaaGreatDoor
open Go Go.RowKit Go.Proofs.YtcpjdgfnblkfpaaGreatDoor.M
set_option linter.unusedSimpArgs false
set_option linter.unusedVariables false

theorem q_canon {b : Int} (hb : rng b) (hp : pok b = true) : canon b = q0 b := by
  have h4 := q_fin hp
  have h0 := cls0 hb
  unfold canon q0
  rw [if_neg h4]
  by_cases h : cls b = 0
  · rw [if_pos h]
    rcases h0.1 h with e | e
    · rw [if_neg (by omega), e]
    · rw [if_pos e]
  · rw [if_neg h, if_neg (fun e => h (h0.2 (.inr e)))]
theorem q_two_keep {p B : Nat} {x0 x1 : Value} {W W' : World} (h : p < B ∧ B ≤ W.heap.size ∧ W.cell? ⟨p, 0, none⟩ = some x0 ∧ W.cell? ⟨p, 1, none⟩ = some x1) (hb : Below W.heap.size W W') :
    p < B ∧ B ≤ W'.heap.size ∧ W'.cell? ⟨p, 0, none⟩ = some x0 ∧ W'.cell? ⟨p, 1, none⟩ = some x1 :=
  ⟨h.1, Nat.le_trans h.2.1 hb.size, q_cell h.2.2.1 hb, q_cell h.2.2.2 hb⟩
theorem Lays.below' {w w' : World} (h : Lays w) (hb : Below w.heap.size w w') : Lays w' :=
  ⟨q_cell h.a0 hb, q_cell h.a1 hb, q_cell h.a2 hb, trivial, trivial, trivial⟩
end Go.Proofs.YtcpjdgfnblkfpaaGreatDoor
