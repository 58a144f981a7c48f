/-
  The statements' own helpers: Same, digits, alive, by contracts.
-/
import Derived.Test.YtcpjdgfnblkfpaaGreatDoorNW4
import Derived.Test.YtcpjdgfnblkfpaaGreatDoorNLen
namespace Go.Proofs.YtcpjdgfnblkfpaaGreatDoor
open Go Go.RowKit Go.Proofs.YtcpjdgfnblkfpaaGreatDoor.M
set_option linter.unusedSimpArgs false
set_option linter.unusedVariables false

instance (n : Nat) (a b : Nat → Int) : Decidable (∀ i, i < n → a i = b i) := by infer_instance
/-- Are two lists one? -/
def sameB (a b : Nat → Int) (n m : Nat) : Bool := decide (n = m ∧ ∀ i, i < n → a i = b i)
theorem sameB_of {a b : Nat → Int} {n m : Nat} (ha : Nrm a n) (hb : Nrm b m) (h : val a n = val b m) : sameB a b n m = true := by
  unfold sameB; exact decide_eq_true (nrm_inj ha hb h)
theorem Num.ok {d : Nat → Int} {n : Nat} (h : Nrm d n) (hV : val d n < P 2000) : okB d n = true := by
  refine okB_yes ?_ h
  by_cases hk : n ≤ 2000
  · exact hk
  · have a := val_top h.1 (by omega) h.2
    have b := P_le (show 2000 ≤ n - 1 by omega)
    omega
theorem Fit.ans {w w' : World} {V er : Int} {v : Value} (h : Fit w w' V v er) (hV : V < P 2000) : er = 0 ∧ Ans w w' V v := by
  rcases h.2 with ⟨_, h1, h2⟩ | ⟨h1, _⟩
  · exact ⟨h1, h2⟩
  · omega
theorem valid_num {w : World} {x : Value} {A : Int} (hx : Num w x A) (hA : A < P 2000) :
    Calls Tryz.prog 126 #[x] w fun e w' => e = .returned (.bool true) ∧ w' = w := by
  obtain ⟨ao, n, ca, d, rfl, hR, h2, rfl⟩ := hx
  refine (valid_any _ _ _ _ _ hR).mono ?_
  rintro e w' ⟨rfl, rfl⟩
  exact ⟨ret_bool (Num.ok h2 hA), rfl⟩
theorem P2000_big : 1152921504606846976 < P 2000 := by
  have h1 := P_le (show 3 ≤ 2000 by decide)
  have h2 : P 3 = 1073741824 * 1073741824 * 1073741824 := by decide
  omega

end Go.Proofs.YtcpjdgfnblkfpaaGreatDoor
