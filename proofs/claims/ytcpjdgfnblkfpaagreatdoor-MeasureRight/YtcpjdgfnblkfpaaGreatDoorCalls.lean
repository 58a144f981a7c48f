/-
  Package bits' calls that take no join, each by a contract: what it answers for every int, in every world that holds the two layouts.
-/
import Derived.Test.YtcpjdgfnblkfpaaGreatDoorLay
namespace Go.Proofs.YtcpjdgfnblkfpaaGreatDoor
open Go Go.RowKit Go.Proofs.YtcpjdgfnblkfpaaGreatDoor.M
set_option linter.unusedSimpArgs false
set_option linter.unusedVariables false

theorem bitsClass (b : Int) (w : World) (L : Lays w) :
    Calls Tryz.prog 113 #[.int .i64 b] w fun e w' => e = .returned (.int .i64 (cls b)) ∧ Gr w w' := by
  obtain ⟨a0, a1, a2, b0, b1, b2⟩ := L
  go_enter Tryz.func113, Tryz.ntmps113
  go_wp2_with (go_at_call 137; refine (class64 _ _).mono ?_; rintro e w1 ⟨rfl, hg⟩)
  go_ret
  exact ⟨rfl, hg⟩
theorem bitsParts (b : Int) (w : World) (L : Lays w) :
    Calls Tryz.prog 86 #[.int .i64 b] w fun e w' => e = .returned (.tuple #[.bool (pneg b), .int .i64 (pmag b), .int .i64 (pexp b), .bool (pok b)]) ∧ Gr w w' := by
  obtain ⟨a0, a1, a2, b0, b1, b2⟩ := L
  by_cases h : pok b = true
  all_goals
    go_enter Tryz.func86, Tryz.ntmps86
    go_wp2_with (go_at_call 119; refine (parts64 _ _).mono ?_; rintro e w1 ⟨rfl, hg⟩)
    refine bodyPost_ret (v := .tuple #[.bool (pneg b), .int .i64 (pmag b), .int .i64 (pexp b), .bool (pok b)]) (by simp [results, Tryz.results86, go_sem, pneg, h]) rfl ⟨rfl, hg⟩
theorem bitsNeg (b : Int) (w : World) (L : Lays w) (hb : rng b) :
    Calls Tryz.prog 84 #[.int .i64 b] w fun e w' => e = .returned (.int .i64 (neg b)) ∧ Gr w w' := by
  unfold rng at hb
  by_cases h : cls b = 4
  all_goals
    go_enter Tryz.func84, Tryz.ntmps84
    go_wp2_with (go_at_call 113; refine (bitsClass _ _ L).mono ?_; rintro e w1 ⟨rfl, hg⟩)
    go_ret
    exact ⟨b_ret_int (by first | (simp [neg, h]; done) | (rw [xor_i64_sign _ hb.1 hb.2]; simp [neg, h])), hg⟩
theorem bitsCanon (b : Int) (w : World) (L : Lays w) :
    Calls Tryz.prog 120 #[.int .i64 b] w fun e w' => e = .returned (.int .i64 (canon b)) ∧ Gr w w' := by
  by_cases h : cls b = 4 <;> by_cases h0 : cls b = 0
  all_goals first
    | (exfalso; omega)
    | (go_enter Tryz.func120, Tryz.ntmps120
       go_wp2_with (go_at_call 113; refine (bitsClass _ _ L).mono ?_; rintro e w1 ⟨rfl, hg⟩)
       go_ret
       exact ⟨b_ret_int (by simp [canon, h, h0]), hg⟩)
end Go.Proofs.YtcpjdgfnblkfpaaGreatDoor
