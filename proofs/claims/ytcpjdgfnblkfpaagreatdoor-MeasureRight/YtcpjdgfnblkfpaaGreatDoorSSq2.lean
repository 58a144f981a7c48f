/-
  Package span: Square of a single float, by its contract.
-/
import Derived.Test.YtcpjdgfnblkfpaaGreatDoorSOps2
namespace Go.Proofs.YtcpjdgfnblkfpaaGreatDoor
open Go Go.RowKit Go.Proofs.YtcpjdgfnblkfpaaGreatDoor.M
set_option linter.unusedSimpArgs false
set_option linter.unusedVariables false

theorem minP_self (a : Int) : minP a a = a := by unfold minP; simp
theorem maxP_self (a : Int) : maxP a a = a := by unfold maxP; simp
theorem vld_self {a : Int} (ha : rng a) (pa : pok a = true) : vld a a = true := by
  have h1 := (pok_rg ha).1 pa
  have h4 := pok_clsF ha pa
  refine vld_iff.2 ⟨h4, h4, Int.le_refl _, ?_, ?_⟩
  · unfold key; unfold rg at h1; unfold rng at ha; split at h1 <;> split <;> omega
  · unfold key; unfold rg at h1; unfold rng at ha; split at h1 <;> split <;> omega
end Go.Proofs.YtcpjdgfnblkfpaaGreatDoor
