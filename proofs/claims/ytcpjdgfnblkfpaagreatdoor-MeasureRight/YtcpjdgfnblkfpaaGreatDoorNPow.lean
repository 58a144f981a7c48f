/-
  Package nat: power, Pow, Shl, by contracts: for every number, every exponent.
-/
import Derived.Test.YtcpjdgfnblkfpaaGreatDoorNW4
import Derived.Test.YtcpjdgfnblkfpaaGreatDoorNLen
import Derived.Test.YtcpjdgfnblkfpaaGreatDoorNLaw
import Derived.Test.YtcpjdgfnblkfpaaGreatDoorNW5
import Derived.Test.YtcpjdgfnblkfpaaGreatDoorNW6
import Derived.WalkMore
import Derived.ScopeJumps
namespace Go.Proofs.YtcpjdgfnblkfpaaGreatDoor
open Go Go.RowKit Go.Proofs.YtcpjdgfnblkfpaaGreatDoor.M
set_option linter.unusedSimpArgs false
set_option linter.unusedVariables false

theorem pow_pos1 {A : Int} (h : 1 ≤ A) (i : Nat) : 1 ≤ A ^ i := by
  induction i with
  | zero => rw [Int.pow_zero]; omega
  | succ i ih =>
    rw [Int.pow_succ]
    have := Int.mul_le_mul ih h (by omega) (by omega)
    omega
theorem pow_mono {A : Int} (h : 1 ≤ A) {i j : Nat} (hij : i ≤ j) : A ^ i ≤ A ^ j := by
  obtain ⟨d, rfl⟩ := Nat.exists_eq_add_of_le hij
  rw [Int.pow_add]
  have a := pow_pos1 h i
  have b := pow_pos1 h d
  have : A ^ i * 1 ≤ A ^ i * A ^ d := Int.mul_le_mul_of_nonneg_left b (by omega)
  omega
theorem and_1 (x : Int) : bits .and .i64 x 1 = x % 2 := and_i64_mask x 1 (by decide)
theorem ans_one (w : World) {g : Nat} (hg : g = w.heap.size) : Ans w (w.alloc (.cells #[.int .i64 1] 3)) 1 (.slice (some ⟨g, 0, none⟩) 1 1) := by
  subst hg
  refine ⟨1, fun _ => 1, (Blk.new w #[.int .i64 1] (fun _ => 1) (fun i hi => by simp at hi; subst hi; rfl)).out (Nat.le_refl _) (Nat.le_refl _) (show 1 ≤ 9223372036854775807 by decide), ⟨fun i _ => by show (0 : Int) ≤ 1 ∧ (1 : Int) < 1073741824; omega, .inr (by show (1 : Int) ≠ 0; omega)⟩, by show (0 : Int) + 1 * 1 = 1; omega, bel_alloc _ _⟩
theorem half_pow (k b : Nat) : k / 2 ^ b = 2 * (k / 2 ^ (b + 1)) + k / 2 ^ b % 2 := by
  rw [Nat.pow_succ, ← Nat.div_div_eq_div_mul]; omega
theorem product_num {w : World} {x y : Value} {A B : Int} (hx : Num w x A) (hy : Num w y B) (hA : A < P 100000) (hB : B < P 100000) :
    Calls Tryz.prog 105 #[x, y] w fun e w' => ∃ v, e = .returned v ∧ Ans w w' (A * B) v := by
  obtain ⟨ao, n, ca, rfl⟩ := hx.shape
  obtain ⟨bo, m, cb, rfl⟩ := hy.shape
  have l1 := hx.len hA
  have l2 := hy.len hB
  obtain ⟨ao', n', ca', d, e1, hR, h2, rfl⟩ := hx
  obtain ⟨bo', m', cb', e, e2, kR, k2, rfl⟩ := hy
  simp only [Value.slice.injEq] at e1 e2
  obtain ⟨rfl, rfl, rfl⟩ := e1
  obtain ⟨rfl, rfl, rfl⟩ := e2
  exact product_any _ _ _ _ _ _ _ _ _ hR kR h2.1 k2.1 l1 l2

end Go.Proofs.YtcpjdgfnblkfpaaGreatDoor
