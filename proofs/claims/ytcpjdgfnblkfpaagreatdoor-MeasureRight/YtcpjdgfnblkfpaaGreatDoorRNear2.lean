/-
  What RoundNearest asks of the calls.
-/
import Derived.Test.YtcpjdgfnblkfpaaGreatDoorRNear
namespace Go.Proofs.YtcpjdgfnblkfpaaGreatDoor
open Go Go.RowKit Go.Proofs.YtcpjdgfnblkfpaaGreatDoor.M
set_option linter.unusedSimpArgs false
set_option linter.unusedVariables false

theorem patV_bd {b : Int} (h : pok b = true) : Bd 4000 (patV b) := by
  obtain ⟨i0, i1, i2, i3⟩ := pmag_in h
  have h30 : (9007199254740992 : Int) ≤ P 30 := by unfold P; decide
  exact bd_num i0 (Int.lt_of_lt_of_le (by omega) h30) (by omega) (by omega)
theorem Bd.sub {B : Nat} {V W : Int} (h : Bd B V) (k : Bd B W) (hB : B < 4194304) : Bd (B + 1) (V - W) := by
  rw [Int.sub_eq_add_neg]
  exact h.add k.neg hB
theorem of_ok {b : Int} {w : World} (h : pok b = true) (H : Hold4 w) : Calls Tryz.prog 62 #[.int .i64 b] w fun r w' => ∃ v, r = .returned (.tuple #[v, .int .i64 0]) ∧ DAns w w' (patV b) v := by
  refine (dof_any b w H.lay H.tab).mono ?_
  rintro _ w' ⟨v, er, rfl, hb, (⟨_, rfl, hD⟩ | ⟨h', _⟩)⟩
  · exact ⟨v, rfl, hD⟩
  · rw [h] at h'; cases h'
theorem of_no {b : Int} {w : World} (h : pok b = false) (H : Hold4 w) : Calls Tryz.prog 62 #[.int .i64 b] w fun r w' => r = .returned (.tuple #[.agg #[.bool false, .slice none 0 0, .int .i64 0], .int .i64 10]) ∧ Below w.heap.size w w' := by
  refine (dof_any b w H.lay H.tab).mono ?_
  rintro _ w' ⟨v, er, rfl, hb, (⟨h', _⟩ | ⟨_, rfl, rfl⟩)⟩
  · rw [h] at h'; cases h'
  · exact ⟨rfl, hb⟩
end Go.Proofs.YtcpjdgfnblkfpaaGreatDoor
