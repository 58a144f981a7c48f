/-
  Intervals: plain mathematics of their ends: the lesser and the greater of two patterns, which intervals there are. No Go text in sight.
-/
import Derived.Test.YtcpjdgfnblkfpaaGreatDoorQM
import Derived.Test.YtcpjdgfnblkfpaaGreatDoorMathN
namespace Go.Proofs.YtcpjdgfnblkfpaaGreatDoor.M
open Go Ieee
set_option linter.unusedSimpArgs false
set_option linter.unusedVariables false

/-- a number, or infinite -/
def nn (p : Int) : Prop := rng p ∧ ¬ cls p = 4
def minP (a b : Int) : Int := if key a < key b then a else if key b < key a then b else if a = b then a else -9223372036854775808
def maxP (a b : Int) : Int := if key a < key b then b else if key b < key a then a else if a = b then a else 0
theorem key_zeros {a b : Int} (ha : rng a) (hb : rng b) (h : key a = key b) (hn : ¬ a = b) : (a = 0 ∧ b = -9223372036854775808) ∨ (a = -9223372036854775808 ∧ b = 0) := by
  unfold key rng at *
  split at h <;> split at h <;> omega
theorem nn0 : nn 0 ∧ nn (-9223372036854775808) := by refine ⟨⟨?_, by decide⟩, ⟨?_, by decide⟩⟩ <;> (unfold rng; omega)
theorem minP_nn {a b : Int} (ha : nn a) (hb : nn b) : nn (minP a b) ∧ key (minP a b) ≤ key a ∧ key (minP a b) ≤ key b ∧ (key (minP a b) = key a ∨ key (minP a b) = key b) := by
  unfold minP
  split
  · exact ⟨ha, by omega, by omega, .inl rfl⟩
  · split
    · exact ⟨hb, by omega, by omega, .inr rfl⟩
    · split
      · exact ⟨ha, by omega, by omega, .inl rfl⟩
      · have e : key a = key b := by omega
        have e0 : key (-9223372036854775808) = 0 := by decide
        have e1 : key 0 = 0 := by decide
        rcases key_zeros ha.1 hb.1 e (by assumption) with ⟨rfl, rfl⟩ | ⟨rfl, rfl⟩
        · exact ⟨nn0.2, by omega, by omega, .inr rfl⟩
        · exact ⟨nn0.2, by omega, by omega, .inl rfl⟩
theorem maxP_nn {a b : Int} (ha : nn a) (hb : nn b) : nn (maxP a b) ∧ key a ≤ key (maxP a b) ∧ key b ≤ key (maxP a b) ∧ (key (maxP a b) = key a ∨ key (maxP a b) = key b) := by
  unfold maxP
  split
  · exact ⟨hb, by omega, by omega, .inr rfl⟩
  · split
    · exact ⟨ha, by omega, by omega, .inl rfl⟩
    · split
      · exact ⟨ha, by omega, by omega, .inl rfl⟩
      · have e : key a = key b := by omega
        have e0 : key (-9223372036854775808) = 0 := by decide
        have e1 : key 0 = 0 := by decide
        rcases key_zeros ha.1 hb.1 e (by assumption) with ⟨rfl, rfl⟩ | ⟨rfl, rfl⟩
        · exact ⟨nn0.1, by omega, by omega, .inl rfl⟩
        · exact ⟨nn0.1, by omega, by omega, .inr rfl⟩
/-- Is it an interval? -/
def vld (lo hi : Int) : Bool := decide (¬ cls lo = 4 ∧ ¬ cls hi = 4 ∧ key lo ≤ key hi ∧ key lo < 9218868437227405312 ∧ -9218868437227405312 < key hi)
theorem vld_iff {lo hi : Int} : vld lo hi = true ↔ ¬ cls lo = 4 ∧ ¬ cls hi = 4 ∧ key lo ≤ key hi ∧ key lo < 9218868437227405312 ∧ -9218868437227405312 < key hi := by unfold vld; exact decide_eq_true_iff
theorem key_canon {p : Int} (h : nn p) : key (canon p) = key p ∧ nn (canon p) := by
  have h0 := cls0 h.1
  unfold canon
  rw [if_neg h.2]
  split
  · rename_i hz
    rcases h0.1 hz with rfl | rfl
    · exact ⟨rfl, nn0.1⟩
    · exact ⟨by decide, nn0.1⟩
  · exact ⟨rfl, h⟩
theorem key_le_next {b : Int} (h : nn b) : key b ≤ key (canon (next b)) ∧ nn (canon (next b)) := by
  by_cases hi : b = 9218868437227405312
  · subst hi
    rw [next_inf]
    exact ⟨by decide, ⟨by unfold rng; decide, by decide⟩⟩
  · obtain ⟨h1, h2, _, _⟩ := key_next h.1 h.2 hi
    have hr : nn (next b) := ⟨rng_next h.1, h2⟩
    obtain ⟨k1, k2⟩ := key_canon hr
    exact ⟨by rw [k1, h1]; omega, k2⟩
end Go.Proofs.YtcpjdgfnblkfpaaGreatDoor.M
