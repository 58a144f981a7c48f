/-
  The document's own answers (plumbref2): Valid, trim, Two, Answer, Cmp, Add, Sub, by contracts over the same values.
-/
import Derived.Test.YtcpjdgfnblkfpaaGreatDoorNW4
import Derived.Test.YtcpjdgfnblkfpaaGreatDoorNDigits
namespace Go.Proofs.YtcpjdgfnblkfpaaGreatDoor
open Go Go.RowKit Go.Proofs.YtcpjdgfnblkfpaaGreatDoor.M
set_option linter.unusedSimpArgs false
set_option linter.unusedVariables false

theorem top_of {d : Nat → Int} {t : Nat} (hd : Dig d t) (h : 0 < t → P (t - 1) ≤ val d t) : Top d t := by
  by_cases h0 : t = 0
  · exact .inl h0
  · refine .inr fun e => ?_
    obtain ⟨k, rfl⟩ : ∃ k, t = k + 1 := ⟨t - 1, by omega⟩
    rw [Nat.add_sub_cancel] at e h
    have h1 := h (by omega)
    rw [val_succ, e] at h1
    have h2 := val_lt (hd.le (Nat.le_succ k))
    omega
theorem cat_upd (r : Nat → Int) (k : Nat) (x : Int) : ∀ i, i < k + 1 → cat r k (fun _ => x) i = upd r k x i := fun i hi => by
  by_cases e : i < k
  · simp [cat, e, upd_other r _ (show i ≠ k by omega)]
  · obtain rfl : i = k := by omega
    simp [cat, upd_same]
theorem dig_upd2 {r : Nat → Int} {k : Nat} {x : Int} (h : Dig r k) (hx : 0 ≤ x ∧ x < 1073741824) : Dig (upd r k x) (k + 1) := fun i hi => by
  by_cases e : i = k
  · rw [e, upd_same]; exact hx
  · rw [upd_other r x e]; exact h i (by omega)
end Go.Proofs.YtcpjdgfnblkfpaaGreatDoor
