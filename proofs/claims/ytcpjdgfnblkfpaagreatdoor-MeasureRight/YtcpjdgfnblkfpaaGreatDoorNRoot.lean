/-
  Package nat: root, Root, by contracts: for every number.
-/
import Derived.Test.YtcpjdgfnblkfpaaGreatDoorNW4
import Derived.Test.YtcpjdgfnblkfpaaGreatDoorNLaw
import Derived.Test.YtcpjdgfnblkfpaaGreatDoorNPow
import Derived.Test.YtcpjdgfnblkfpaaGreatDoorND1
import Derived.Deep.LoopGhost
namespace Go.Proofs.YtcpjdgfnblkfpaaGreatDoor
open Go Go.RowKit Go.Proofs.YtcpjdgfnblkfpaaGreatDoor.M
set_option linter.unusedSimpArgs false
set_option linter.unusedVariables false

/-- The square root, cut: the greatest s with s s <= A. -/
def IsRoot (A s : Int) : Prop := 0 ≤ s ∧ s * s ≤ A ∧ A < (s + 1) * (s + 1)
theorem root_above {A s : Int} (hA : 0 ≤ A) (hs : 0 < s) (h : A < s * s) : ∀ r, r * r ≤ A → r < s := fun r hr => by
  rcases Int.lt_or_le r s with q | q
  · exact q
  · have := Int.mul_le_mul q q (by omega) (by omega)
    omega
/-- s is not below the root. -/
def Abv (A s : Int) : Prop := ∀ r, 0 ≤ r → r * r ≤ A → r ≤ s
theorem abv_start {A : Int} (hA : 0 ≤ A) {k : Nat} (h : A < 2 ^ (2 * k)) : Abv A (2 ^ k) := fun r h0 hr => by
  rcases Int.lt_or_le (2 ^ k) r with q | q
  · have h1 := Int.mul_le_mul (Int.le_of_lt q) (Int.le_of_lt q) (Int.le_of_lt (two_pos k)) h0
    rw [← Int.pow_add, ← Nat.two_mul] at h1
    omega
  · exact q
theorem abv_next {A s : Int} (hs : 0 < s) (h : Abv A s) : Abv A ((s + A / s) / 2) := fun r h0 hr => newton_above hs hr
theorem abv_done {A s : Int} (hs : 0 < s) (h : Abv A s) (hst : s ≤ (s + A / s) / 2) : IsRoot A s := by
  refine ⟨by omega, newton_stop hs hst, ?_⟩
  rcases Int.lt_or_le A ((s + 1) * (s + 1)) with q | q
  · exact q
  · have := h (s + 1) (by omega) q
    omega
theorem Num.parts {w : World} {v : Value} {V : Int} (h : Num w v V) {k : Nat} (hV : V < P k) : ∃ ao n cap d, v = .slice ao n cap ∧ Row w ao n cap d ∧ Nrm d n ∧ val d n = V ∧ n ≤ k := by
  obtain ⟨ao, n, cap, rfl⟩ := h.shape
  have hl := h.len hV
  obtain ⟨ao', n', cap', d, e, hR, h2, h3⟩ := h
  simp only [Value.slice.injEq] at e
  obtain ⟨rfl, rfl, rfl⟩ := e
  exact ⟨ao, n, cap, d, rfl, hR, h2, h3, hl⟩
theorem lower_num {w : World} {x : Value} {A : Int} (hx : Num w x A) (hA : A < P 6000) (k : Nat) (hk : (k : Int) < 9223372036854775808) :
    Calls Tryz.prog 104 #[x, .int .i64 k] w fun e w' => ∃ v, e = .returned v ∧ Ans w w' (A / 2 ^ k) v := by
  obtain ⟨ao, n, ca, d, rfl, hR, h2, rfl, hl⟩ := hx.parts hA
  exact lower_any _ _ _ _ _ _ hR h2.1 (by omega) hk
theorem lower_half {w : World} {x : Value} {A : Int} (hx : Num w x A) (hA : A < P 6000) :
    Calls Tryz.prog 104 #[x, .int .i64 1] w fun e w' => ∃ v, e = .returned v ∧ Ans w w' (A / 2) v := lower_num hx hA 1 (by decide)
theorem raise_num {w : World} {x : Value} {A : Int} (hx : Num w x A) (hA : A < P 5000) (k : Nat) (hk : k ≤ 1000000) :
    Calls Tryz.prog 169 #[x, .int .i64 k] w fun e w' => ∃ v, e = .returned v ∧ Ans w w' (A * 2 ^ k) v := by
  obtain ⟨ao, n, ca, d, rfl, hR, h2, rfl, hl⟩ := hx.parts hA
  exact raise_any _ _ _ _ _ _ hR h2.1 (by omega) hk
theorem bitLength_num {w : World} {x : Value} {A : Int} (hx : Num w x A) (hA : A < P 5000) :
    Calls Tryz.prog 103 #[x] w fun e w' => e = .returned (.int .i64 (blen A)) ∧ w' = w := by
  obtain ⟨ao, n, ca, d, rfl, hR, h2, rfl, hl⟩ := hx.parts hA
  exact bitLength_any _ _ _ _ _ hR h2 (by omega)

/-- A root that is answered. -/
def RootA (w w' : World) (A : Int) (v : Value) : Prop := ∃ s, Ans w w' s v ∧ IsRoot A s
theorem root_bnd {A s : Int} (hA : A < P 2000) (hA0 : 0 ≤ A) (hs : 0 < s) (h3 : s < P 3000) : A / s < P 5000 ∧ s < P 5000 ∧ s + A / s < P 6000 := by
  have h1 : A / s ≤ A := Int.ediv_le_self _ hA0
  have p1 := P_le (show 2000 ≤ 3000 by decide)
  have p2 := P_le (show 3000 ≤ 5000 by decide)
  have p3 : P 3000 + P 3000 ≤ P 6000 := by
    have h := P_le (show 3001 ≤ 6000 by decide)
    have e : P 3001 = P 3000 * 1073741824 := P_succ 3000
    have := P_pos 3000
    generalize P 3000 = X at *
    generalize P 6000 = Y at *
    generalize P 3001 = Z at *
    omega
  generalize P 3000 = X at *
  generalize P 6000 = Y at *
  generalize P 5000 = Z at *
  generalize P 2000 = T at *
  refine ⟨?_, ?_, ?_⟩ <;> omega
/-- Where a root's rounds stand: s is in new memory, and not below the root. -/
def RootR (w0 : World) (A : Int) (v : Value) (s : Int) (wr : World) : Prop := Ans w0 wr s v ∧ 0 < s ∧ Abv A s ∧ s < P 3000
end Go.Proofs.YtcpjdgfnblkfpaaGreatDoor
