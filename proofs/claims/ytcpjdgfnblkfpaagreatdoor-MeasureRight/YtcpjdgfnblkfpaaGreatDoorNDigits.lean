/-
  The statements' own helper digits: a valid list out of any ints, by its contract.
-/
import Derived.Test.YtcpjdgfnblkfpaaGreatDoorNLaw
namespace Go.Proofs.YtcpjdgfnblkfpaaGreatDoor
open Go Go.RowKit Go.Proofs.YtcpjdgfnblkfpaaGreatDoor.M
set_option linter.unusedSimpArgs false
set_option linter.unusedVariables false

theorem Out.cut {B : Nat} {w : World} {ao : Option Addr} {n cap m : Nat} {d : Nat → Int} (h : Out B w (.slice ao n cap) n d) (hm : m ≤ n) : Out B w (.slice ao m cap) m d := by
  refine ⟨by rw [vals_length]; omega, ?_⟩
  rcases h.2 with ⟨hn, h0⟩ | ⟨g, cap', cur, hv, hB, hg, hnc, hcm, hs, ht⟩
  · simp only [Value.slice.injEq] at hn
    obtain ⟨rfl, rfl, rfl⟩ := hn
    obtain rfl : m = 0 := by omega
    exact .inl ⟨rfl, rfl⟩
  · simp only [Value.slice.injEq] at hv
    obtain ⟨rfl, _, rfl⟩ := hv
    refine .inr ⟨g, cap, cur, rfl, hB, hg, by omega, hcm, hs, ?_⟩
    apply vals_ext (by simp; omega)
    intro i hi
    have e : (cur.toList.take (n * 1))[i]? = (vals d n)[i]? := by rw [ht]
    rw [List.getElem?_take, if_pos (by omega), vals_get d (by omega)] at e
    rw [List.getElem?_take, if_pos (by omega)]; exact e

/-- A list of less than N digits. -/
def AnsLt (w w' : World) (N : Nat) (v : Value) : Prop := ∃ V, Ans w w' V v ∧ V < P N
def lenOf : Value → Nat | .slice _ t _ => t | _ => 0
theorem cat_last (f : Nat → Int) (k i : Nat) (hi : i < k + 1) : cat f k (fun _ => f k) i = f i := by
  by_cases h : i < k
  · simp [cat, h]
  · simp [cat, h]; rw [show i = k by omega]
end Go.Proofs.YtcpjdgfnblkfpaaGreatDoor
