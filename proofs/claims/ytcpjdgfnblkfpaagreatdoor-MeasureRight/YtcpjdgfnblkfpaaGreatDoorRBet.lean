/-
  Plain mathematics: the four ways at one number: neighbours around it.
-/
import Derived.Test.YtcpjdgfnblkfpaaGreatDoorRPat
namespace Go.Proofs.YtcpjdgfnblkfpaaGreatDoor
open Go Go.RowKit Go.Proofs.YtcpjdgfnblkfpaaGreatDoor.M
set_option linter.unusedSimpArgs false
set_option linter.unusedVariables false

theorem Rung.unique {A : Int} {r s : Nat} {l k : Int} (h : Rung A r l) (g : Rung A s k) : r = s ∧ l = k := by
  have e : r = s := by
    rcases Nat.lt_trichotomy r s with q | q | q
    · exfalso
      have h1 := h.hi
      have h2 := g.lo
      rcases Nat.lt_or_eq_of_le (show r + 1 ≤ s from q) with q2 | q2
      · have := vS_lt q2; omega
      · rw [q2] at h1; omega
    · exact q
    · exfalso
      have h1 := g.hi
      have h2 := h.lo
      rcases Nat.lt_or_eq_of_le (show s + 1 ≤ r from q) with q2 | q2
      · have := vS_lt q2; omega
      · rw [q2] at h1; omega
  subst e
  refine ⟨rfl, ?_⟩
  have a0 := h.lo
  by_cases c0 : A = vS r
  · rw [h.l0.2 c0, g.l0.2 c0]
  · by_cases c1 : 2 * A < vS r + vS (r + 1)
    · rw [h.l1.2 ⟨by omega, c1⟩, g.l1.2 ⟨by omega, c1⟩]
    · by_cases c2 : 2 * A = vS r + vS (r + 1)
      · rw [h.l2.2 c2, g.l2.2 c2]
      · rw [h.l3.2 (by omega), g.l3.2 (by omega)]
/-- What To answers at a valid number. -/
def toR (way : Int) (x : NumR) : Int × Bool := r64 way x.ng false (val x.d x.n / 2 ^ vK (val x.d x.n)).toNat (x.e + vK (val x.d x.n)) (decide (val x.d x.n % 2 ^ vK (val x.d x.n) ≠ 0))
/-- All ways at once. -/
theorem to_all {x : NumR} (ok : okR x = true) (h0 : 0 < x.n) : ∃ (r0 : Nat) (left : Int), Rung (val x.d x.n * pw x.e) r0 left ∧ ∀ way, toR way x = (patS (x.ng && decide (0 < rTo way x.ng r0 left)) (rTo way x.ng r0 left), decide (left ≠ 0) || decide (9218868437227405312 ≤ (r0 : Int))) := by
  obtain ⟨r0, left, hR, _⟩ := to_rung (way := 0) ok h0
  refine ⟨r0, left, hR, fun way => ?_⟩
  obtain ⟨r1, l1, hR1, e1⟩ := to_rung (way := way) ok h0
  obtain ⟨rfl, rfl⟩ := hR.unique hR1
  unfold toR
  rw [e1, Bool.or_false]
theorem to_zero {x : NumR} (ok : okR x = true) (h0 : x.n = 0) (way : Int) : toR way x = (0, false) := by
  have hz : x.ng = false ∧ x.e = 0 := by
    have := of_decide_eq_true ok
    rcases this with ⟨_, a, b⟩ | ⟨a, _⟩
    · exact ⟨a, b⟩
    · omega
  have hv : val x.d x.n = 0 := by rw [h0]; rfl
  unfold toR
  rw [hv, hz.1, hz.2]
  have e : r64 way false false ((0 : Int) / 2 ^ vK 0).toNat (0 + (vK 0 : Int)) (decide ((0 : Int) % 2 ^ vK 0 ≠ 0)) = r64 way false false 0 0 false := by
    rw [show vK 0 = 0 by decide]
    rfl
  rw [e]
  have HR : r64 way false false 0 0 false = (let E := rE 53 (-1074) 0 0
    let u := rU 0 (E - 0)
    let left := rL 0 false (E - 0)
    let U := u + (if rUp way false (decide (u % 2 = 1)) left then 1 else 0)
    let neg := false && (decide (0 < U) || false)
    if jk 52 2047 (-1074) U E then (jp neg U E, decide (left ≠ 0)) else (patS neg (bRung way neg), true)) := rfl
  rw [HR]
  have hE : rE 53 (-1074) 0 0 = -53 := by decide
  simp only [hE]
  have hu : rU 0 (-53 - 0) = 0 := by decide
  have hl : rL 0 false (-53 - 0) = 0 := by decide
  simp only [hu, hl]
  have hr : rUp way false (decide (0 % 2 = 1)) 0 = false := by
    cases h : rUp way false (decide (0 % 2 = 1)) 0
    · rfl
    · exact absurd h (fun q => rUp_left q)
  rw [hr]
  rfl
end Go.Proofs.YtcpjdgfnblkfpaaGreatDoor
