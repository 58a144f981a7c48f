/-
  Package nat: Cmp, Add, Sub, Mul, by contracts: for every two lists.
-/
import Derived.Test.YtcpjdgfnblkfpaaGreatDoorNW2
import Derived.Test.YtcpjdgfnblkfpaaGreatDoorNW3
namespace Go.Proofs.YtcpjdgfnblkfpaaGreatDoor
open Go Go.RowKit Go.Proofs.YtcpjdgfnblkfpaaGreatDoor.M
set_option linter.unusedSimpArgs false
set_option linter.unusedVariables false

theorem ord_ge {a b : Int} (h : b ≤ a) : ¬ ord a b < 0 := by
  rcases Int.lt_or_eq_of_le h with h1 | h1
  · rw [ord_gt h1]; decide
  · rw [ord_eq h1.symm]; decide
theorem ord_len {d e : Nat → Int} {n m : Nat} (hd : Nrm d n) (he : Nrm e m) (h : n ≠ m) : ord n m = ord (val d n) (val e m) := by
  rcases Nat.lt_or_gt_of_ne h with h1 | h1
  · rw [ord_lt (by omega), ord_lt (nrm_lt hd.1 he h1)]
  · rw [ord_gt (by omega), ord_gt (nrm_lt he.1 hd h1)]
theorem ord_top {d e : Nat → Int} {n k : Nat} (hd : Dig d n) (he : Dig e n) (hk : k < n) (hs : ∀ i, k < i → i < n → d i = e i) (hne : d k ≠ e k) : ord (d k) (e k) = ord (val d n) (val e n) := by
  rcases Int.lt_or_gt_of_ne hne with h1 | h1
  · rw [ord_lt h1, ord_lt (cmp_top hd he hk hs h1)]
  · rw [ord_gt h1, ord_gt (cmp_top he hd hk (fun i a b => (hs i a b).symm) h1)]

/-- What fit hands on. -/
def fitV (ao : Option Addr) (t cap : Nat) : Value := if 2000 < t then .slice none 0 0 else .slice ao t cap
def fitE (t : Nat) : Int := if 2000 < t then 2 else 0
theorem Fit.of {w w' : World} {V : Int} {ao : Option Addr} {t cap : Nat} {d : Nat → Int} (h1 : Out w.heap.size w' (.slice ao t cap) t d) (h2 : Nrm d t) (h3 : val d t = V) (hb : Below w.heap.size w w') : Fit w w' V (fitV ao t cap) (fitE t) := by
  refine ⟨hb, ?_⟩
  by_cases h : 2000 < t
  · refine .inr ⟨?_, by simp [fitE, h], by simp [fitV, h]⟩
    have a := val_top h2.1 (by omega) h2.2
    have b := P_le (show 2000 ≤ t - 1 by omega)
    omega
  · refine .inl ⟨?_, by simp [fitE, h], ?_⟩
    · have a := val_lt h2.1
      have b := P_le (show t ≤ 2000 by omega)
      omega
    · rw [show fitV ao t cap = .slice ao t cap by simp [fitV, h]]
      exact ⟨t, d, h1, h2, h3, hb⟩

/-- The two lists of a call, as they lie. -/
structure Two (w : World) (ao bo : Option Addr) (n m ca cb : Nat) (a b : Nat → Int) : Prop where
  ra : Row w ao n ca a
  rb : Row w bo m cb b
theorem Two.keeps {w w' : World} {ao bo : Option Addr} {n m ca cb : Nat} {a b : Nat → Int} (h : Two w ao bo n m ca cb a b) (hb : Below w.heap.size w w') : Two w' ao bo n m ca cb a b := ⟨h.ra.keeps hb, h.rb.keeps hb⟩

end Go.Proofs.YtcpjdgfnblkfpaaGreatDoor
