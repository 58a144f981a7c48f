/-
  Plain mathematics: a square root's rung. No Go text in sight.
-/
import Derived.Test.YtcpjdgfnblkfpaaGreatDoorRQs3
import Derived.Test.YtcpjdgfnblkfpaaGreatDoorNRoot
namespace Go.Proofs.YtcpjdgfnblkfpaaGreatDoor
open Go Go.RowKit Go.Proofs.YtcpjdgfnblkfpaaGreatDoor.M
set_option linter.unusedSimpArgs false
set_option linter.unusedVariables false

/-- X's square root among the rungs. -/
structure RungR (X : Int) (r0 : Nat) (left : Int) : Prop where
  lo : vS r0 * vS r0 ≤ X
  hi : X < vS (r0 + 1) * vS (r0 + 1)
  l0 : left = 0 ↔ X = vS r0 * vS r0
theorem sq_le {a b : Int} (h0 : 0 ≤ a) (h : a ≤ b) : a * a ≤ b * b := Int.mul_le_mul h h h0 (Int.le_trans h0 h)
theorem sq_lt {a b : Int} (h0 : 0 ≤ a) (h : a < b) : a * a < b * b :=
  Int.lt_of_le_of_lt (Int.mul_le_mul_of_nonneg_left (Int.le_of_lt h) h0) (Int.mul_lt_mul_of_pos_right h (Int.lt_of_le_of_lt h0 h))
theorem sq_inj {a b : Int} (h0 : 0 ≤ a) (h1 : 0 ≤ b) (h : a * a = b * b) : a = b := by
  rcases Int.lt_trichotomy a b with q | q | q
  · exact absurd h (Int.ne_of_lt (sq_lt h0 q))
  · exact q
  · exact absurd h.symm (Int.ne_of_lt (sq_lt h1 q))
theorem cut_aux1 {v x : Int} (h : v * 2 ≤ x * 2 + 1) : v ≤ x := by omega
theorem cut_aux2 {v y : Int} (h : y - 1 < v) : y ≤ v := by omega
/-- Where something was cut off, the whole step lies between the rungs. -/
theorem rung_cut {mag : Nat} {exp : Int} {r0 : Nat} {left : Int} (hR : ∀ S A : Int, 0 < S → HeldS S A mag exp true → RungS S A r0 left) : vS r0 ≤ (mag : Int) * pw exp ∧ ((mag : Int) + 1) * pw exp ≤ vS (r0 + 1) ∧ left ≠ 0 := by
  have hq := pw_pos exp
  have e2 : ((mag : Int) + 1) * pw exp = (mag : Int) * pw exp + pw exp := by rw [Int.add_mul, Int.one_mul]
  have A1 : HeldS 2 ((mag : Int) * pw exp * 2 + 1) mag exp true := by
    unfold HeldS
    have e3 : (mag : Int) * (pw exp * 2) = (mag : Int) * pw exp * 2 := by rw [Int.mul_assoc]
    have e4 : ((mag : Int) + 1) * (pw exp * 2) = (mag : Int) * pw exp * 2 + pw exp * 2 := by rw [Int.add_mul, Int.one_mul, e3]
    rw [e3, e4]
    generalize (mag : Int) * pw exp = X
    generalize pw exp = q at hq ⊢
    exact ⟨by omega, by omega, ⟨(fun h => by cases h), fun h => by omega⟩⟩
  have R1 := hR _ _ (by decide) A1
  have h1 := cut_aux1 R1.lo
  have hn : left ≠ 0 := fun h => by
    have := R1.l0.1 h
    generalize vS r0 = v at this
    generalize (mag : Int) * pw exp = X at this
    omega
  refine ⟨h1, ?_, hn⟩
  by_cases hb : 2 ≤ pw exp
  · have A2 : HeldS 1 (((mag : Int) + 1) * pw exp - 1) mag exp true := by
      unfold HeldS
      rw [Int.mul_one, e2]
      generalize (mag : Int) * pw exp = X
      generalize pw exp = q at hq hb ⊢
      exact ⟨by omega, by omega, ⟨(fun h => by cases h), fun h => by omega⟩⟩
    have R2 := hR _ _ (by decide) A2
    have := R2.hi
    rw [Int.mul_one] at this
    exact cut_aux2 this
  · have hp1 : pw exp = 1 := by generalize pw exp = q at *; omega
    have A2 : HeldS 2 (((mag : Int) + 1) * pw exp * 2 - 1) mag exp true := by
      unfold HeldS
      rw [hp1]
      simp only [Int.mul_one, Int.one_mul]
      exact ⟨by omega, by omega, ⟨(fun h => by cases h), fun h => by omega⟩⟩
    have R2 := (hR _ _ (by decide) A2).hi
    generalize ((mag : Int) + 1) * pw exp = Y at *
    generalize vS (r0 + 1) = v at *
    omega
theorem rung_root {mag : Nat} {exp : Int} {cut : Bool} {r0 : Nat} {left X : Int} (hR : ∀ S A : Int, 0 < S → HeldS S A mag exp cut → RungS S A r0 left)
    (lo : (mag : Int) * pw exp * ((mag : Int) * pw exp) ≤ X) (hi : X < ((mag : Int) + 1) * pw exp * (((mag : Int) + 1) * pw exp)) (eq : cut = false ↔ X = (mag : Int) * pw exp * ((mag : Int) * pw exp)) : RungR X r0 left := by
  have hq := pw_pos exp
  have hm : 0 ≤ (mag : Int) * pw exp := Int.mul_nonneg (by omega) (Int.le_of_lt hq)
  have hv := vS_nonneg r0
  cases cut
  · have hX := eq.1 rfl
    have e2 : ((mag : Int) + 1) * pw exp = (mag : Int) * pw exp + pw exp := by rw [Int.add_mul, Int.one_mul]
    have A1 : HeldS 1 ((mag : Int) * pw exp) mag exp false := by
      unfold HeldS
      rw [Int.mul_one, e2]
      generalize (mag : Int) * pw exp = Y
      generalize pw exp = q at hq ⊢
      exact ⟨by omega, by omega, ⟨fun _ => rfl, fun _ => rfl⟩⟩
    obtain ⟨q1, q2, q3, _, _, _⟩ := hR _ _ (by decide) A1
    rw [Int.mul_one] at q1 q2 q3
    rw [hX]
    exact ⟨sq_le hv q1, sq_lt hm q2, q3.trans ⟨fun h => by rw [h], fun h => sq_inj hm hv h⟩⟩
  · obtain ⟨q1, q2, q3⟩ := rung_cut hR
    have hX : X ≠ (mag : Int) * pw exp * ((mag : Int) * pw exp) := fun h => by have := eq.2 h; cases this
    have hlt : (mag : Int) * pw exp * ((mag : Int) * pw exp) < X := by
      rcases Int.lt_or_eq_of_le lo with h | h
      · exact h
      · exact absurd h.symm hX
    have h1 := sq_le hv q1
    refine ⟨Int.le_trans h1 lo, Int.lt_of_lt_of_le hi (sq_le (Int.mul_nonneg (by omega) (Int.le_of_lt hq)) q2), ⟨fun h => absurd h q3, fun h => ?_⟩⟩
    rw [h] at hlt
    exact absurd (Int.lt_of_lt_of_le hlt h1) (Int.lt_irrefl _)
theorem RungR.unique {X : Int} {r s : Nat} {l k : Int} (h : RungR X r l) (g : RungR X s k) : r = s := by
  have key : ∀ {r s : Nat} {l k : Int}, RungR X r l → RungR X s k → ¬ r < s := fun {r s l k} h g q => by
    have e : vS (r + 1) ≤ vS s := by
      rcases Nat.lt_or_eq_of_le (show r + 1 ≤ s from q) with q2 | q2
      · exact Int.le_of_lt (vS_lt q2)
      · rw [q2]; exact Int.le_refl _
    exact absurd (Int.lt_of_lt_of_le h.hi (Int.le_trans (sq_le (vS_nonneg _) e) g.lo)) (Int.lt_irrefl _)
  rcases Nat.lt_trichotomy r s with q | q | q
  · exact absurd q (key h g)
  · exact q
  · exact absurd q (key g h)
theorem rungR_sq (r : Nat) : RungR (vS r * vS r) r 0 := ⟨Int.le_refl _, sq_lt (vS_nonneg r) (vS_lt (Nat.lt_succ_self r)), ⟨fun _ => rfl, fun _ => rfl⟩⟩
/-- The bits that a root's number is brought to. -/
def tK (M e : Int) : Int := 124 - (blen M : Int) - (e - (124 - (blen M : Int))) % 2
theorem root_sq1 {M s D X Y N' : Int} (hN : M * D = N') (h1 : s * s ≤ N') (h2 : N' < (s + 1) * (s + 1)) (hX : X = D * Y) (hY : 0 < Y) : s * s * Y ≤ M * X ∧ M * X < (s + 1) * (s + 1) * Y ∧ (N' - s * s = 0 ↔ M * X = s * s * Y) := by
  have e : M * X = N' * Y := by rw [hX, ← Int.mul_assoc, hN]
  rw [e]
  refine ⟨Int.mul_le_mul_of_nonneg_right h1 (Int.le_of_lt hY), Int.mul_lt_mul_of_pos_right h2 hY, ⟨fun h => ?_, fun h => ?_⟩⟩
  · rw [show N' = s * s by omega]
  · have := Int.eq_of_mul_eq_mul_right (Int.ne_of_gt hY) h
    omega
theorem root_sq2 {M s D N t X Y : Int} (hN : D * N + t = M) (t0 : 0 ≤ t) (t1 : t < D) (h1 : s * s ≤ N) (h2 : N < (s + 1) * (s + 1)) (hY : Y = D * X) (hX : 0 < X) : s * s * Y ≤ M * X ∧ M * X < (s + 1) * (s + 1) * Y ∧ ((t = 0 ∧ N - s * s = 0) ↔ M * X = s * s * Y) := by
  have hD : 0 < D := by omega
  have e1 : s * s * Y = (D * (s * s)) * X := by rw [hY, ← Int.mul_assoc, Int.mul_comm (s * s) D]
  have e2 : (s + 1) * (s + 1) * Y = (D * ((s + 1) * (s + 1))) * X := by rw [hY, ← Int.mul_assoc, Int.mul_comm ((s + 1) * (s + 1)) D]
  rw [e1, e2]
  generalize s * s = a at *
  generalize (s + 1) * (s + 1) = b at *
  have q1 : D * a ≤ M := by have := Int.mul_le_mul_of_nonneg_left h1 (Int.le_of_lt hD); omega
  have q2 : M < D * b := by
    have := Int.mul_le_mul_of_nonneg_left (show N + 1 ≤ b from h2) (Int.le_of_lt hD)
    rw [Int.mul_add, Int.mul_one] at this
    omega
  refine ⟨Int.mul_le_mul_of_nonneg_right q1 (Int.le_of_lt hX), Int.mul_lt_mul_of_pos_right q2 hX, ⟨fun h => ?_, fun h => ?_⟩⟩
  · rw [← hN, h.1, show N = a by omega, Int.add_zero]
  · have h3 := Int.eq_of_mul_eq_mul_right (Int.ne_of_gt hX) h
    by_cases h4 : N = a
    · rw [h4] at hN; omega
    · have := Int.mul_le_mul_of_nonneg_left (show a + 1 ≤ N by omega) (Int.le_of_lt hD)
      rw [Int.mul_add, Int.mul_one] at this
      omega
end Go.Proofs.YtcpjdgfnblkfpaaGreatDoor
