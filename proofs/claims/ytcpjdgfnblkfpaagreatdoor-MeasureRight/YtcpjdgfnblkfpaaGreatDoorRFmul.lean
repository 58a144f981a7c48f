/-
  Plain mathematics: the product of two floats is the exact product, rounded to the nearest; what is no number, what is infinite. No Go text in sight.
-/
import Derived.Test.YtcpjdgfnblkfpaaGreatDoorRFadd
namespace Go.Proofs.YtcpjdgfnblkfpaaGreatDoor
open Go Go.RowKit Go.Proofs.YtcpjdgfnblkfpaaGreatDoor.M Ieee
set_option linter.unusedSimpArgs false
set_option linter.unusedVariables false

theorem fmul_core {g h : Bool} {x y p q r Z : Int} (e : p * q = r * Z) : sg (g != h) (x * y * r) * Z = sg g (x * p) * sg h (y * q) := by
  rw [sg_mul, sg_prod]
  congr 1
  rw [Int.mul_assoc (x * y), ← e, Int.mul_assoc x y, Int.mul_assoc x p]
  congr 1
  rw [← Int.mul_assoc, ← Int.mul_assoc, Int.mul_comm y p]
theorem xor_ne (g h : Bool) : (g ^^ h) = (g != h) := by cases g <;> cases h <;> rfl
/-- The product: C is the exact one. -/
theorem fmul {a b : Int} (ha : rng a) (hb : rng b) (pa : pok a = true) (pb : pok b = true) :
    ∃ D : Int, 0 ≤ D ∧ sg (decide (a < 0) != decide (b < 0)) D * 2 ^ 4194304 = patV a * patV b ∧
      (D = 0 → Ieee.double.mul (wd a) (wd b) = some (wd (patS (decide (a < 0) != decide (b < 0)) 0))) ∧
      (D ≠ 0 → ∃ (r0 : Nat) (left : Int), Rung D r0 left ∧ Ieee.double.mul (wd a) (wd b) = some (wd (patS (decide (a < 0) != decide (b < 0)) (rTo 0 (decide (a < 0) != decide (b < 0)) r0 left)))) := by
  obtain ⟨m, u, h1, v1⟩ := read_wd ha pa
  obtain ⟨n, v, h2, v2⟩ := read_wd hb pb
  have hmul : Ieee.double.mul (wd a) (wd b) = some (Ieee.double.nearest (decide (a < 0) != decide (b < 0)) (m * n) (-1074 + (u : Int) + (-1074 + (v : Int)))) := by
    unfold Format.mul
    rw [h1, h2]
    unfold Datum.product
    dsimp only
    rw [xor_ne]
    rfl
  have hpm := pw_mul (a := -1074 + (u : Int)) (b := -1074 + (v : Int)) (by omega) (by omega)
  have hB : -4194304 ≤ -1074 + (u : Int) + (-1074 + (v : Int)) := by omega
  have hq := pw_pos (-1074 + (u : Int) + (-1074 + (v : Int)))
  have hC := fmul_core (g := decide (a < 0)) (h := decide (b < 0)) (x := (m : Int)) (y := (n : Int)) hpm
  rw [← v1, ← v2] at hC
  generalize -1074 + (u : Int) + (-1074 + (v : Int)) = base at *
  have hcast : ((m * n : Nat) : Int) = (m : Int) * (n : Int) := by push_cast; rfl
  refine ⟨(m : Int) * (n : Int) * pw base, Int.mul_nonneg (by rw [← hcast]; omega) (Int.le_of_lt hq), hC, fun h => ?_, fun h => ?_⟩
  · have h0 : m * n = 0 := by
      rcases Int.mul_eq_zero.1 h with g | g
      · rw [← hcast] at g; omega
      · omega
    rw [hmul, h0]
    unfold Format.nearest
    rw [if_pos rfl]
    have := wd_word (ng := decide (a < 0) != decide (b < 0)) (r := 0) (by decide) (by decide)
    rw [← this]
    rfl
  · have h0 : m * n ≠ 0 := fun e => h (by rw [← hcast, e]; simp)
    obtain ⟨r0, left, hR, hE⟩ := nearest_rung (decide (a < 0) != decide (b < 0)) (place := base) h0 hB
    rw [hcast] at hR
    refine ⟨r0, left, hR, ?_⟩
    rw [hmul, hE]
    obtain ⟨g1, g2⟩ := rTo_range 0 (decide (a < 0) != decide (b < 0)) r0 left
    rw [wd_word g1 g2]
end Go.Proofs.YtcpjdgfnblkfpaaGreatDoor
