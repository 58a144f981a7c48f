/-
  plumblaw7.alive, by its contract.
-/
import Derived.Test.YtcpjdgfnblkfpaaGreatDoorXK
import Derived.Test.YtcpjdgfnblkfpaaGreatDoorNLaw
namespace Go.Proofs.YtcpjdgfnblkfpaaGreatDoor
open Go Go.RowKit Go.Proofs.YtcpjdgfnblkfpaaGreatDoor.M
set_option linter.unusedSimpArgs false
set_option linter.unusedVariables false

theorem LsO.row {B : Nat} {w : World} {v : Value} {s : Ls} (h : LsO B w v s) : ∃ ao cap, v = .slice ao s.n cap ∧ Row w ao s.n cap s.d := by
  rcases h with h | ⟨h0, ad, rfl⟩
  · exact h.row
  · rw [h0]
    exact ⟨some ad, 0, rfl, Nat.le_refl _, by decide, (fun q => by cases q), fun q => by omega⟩
theorem XA.yes {w w' : World} {ok : Bool} {s : Ls} {r : Ending} (h : XA w ok s r w') (ho : ok = true) : ∃ ao cap, r = .returned (.tuple #[.slice ao s.n cap, .int .i64 0]) ∧ Row w' ao s.n cap s.d ∧ Below w.heap.size w w' := by
  obtain ⟨(⟨_, v, h1, h2⟩ | ⟨h1, _⟩), hb⟩ := h
  · obtain ⟨ao, cap, rfl, hR⟩ := h2.row
    exact ⟨ao, cap, h1, hR, hb⟩
  · rw [ho] at h1; cases h1
theorem XA.no {w w' : World} {ok : Bool} {s : Ls} {r : Ending} (h : XA w ok s r w') (ho : ok = false) : r = .returned (.tuple #[.slice none 0 0, .int .i64 14]) ∧ Below w.heap.size w w' := by
  obtain ⟨(⟨h1, _⟩ | ⟨_, h1⟩), hb⟩ := h
  · rw [ho] at h1; cases h1
  · exact ⟨h1, hb⟩
theorem xk_r (b : Int) (h : decide (-9223372036854775808 ≤ b ∧ b ≤ 9223372036854775807) = true) : ∀ i : Nat, i < 1 → rng ((fun _ => b) i) := fun _ _ => xk_rng b h
theorem xk_r2 : ∀ i : Nat, i < 2 → rng (d2 4336966441157787648 4607182418800017408 i) := fun i hi => by
  match i, hi with
  | 0, _ => exact xk_rng _ (by decide)
  | 1, _ => exact xk_rng _ (by decide)
theorem xk_same : sameB (upd (upd (fun _ => 4607182418800017408) 0 4336966441157787648) 1 4607182418800017408) (d2 4336966441157787648 4607182418800017408) 2 2 = true := by
  refine decide_eq_true ⟨rfl, fun i hi => ?_⟩
  match i, hi with
  | 0, _ => rfl
  | 1, _ => rfl
end Go.Proofs.YtcpjdgfnblkfpaaGreatDoor
