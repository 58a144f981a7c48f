/-
  Package bits' calls that take no join, each by a contract: what it answers for every int, in every world that holds the two layouts.
-/
import Derived.Test.YtbljcodhcodmkaaDoorLay
namespace Go.Proofs.YtbljcodhcodmkaaDoor
open Go Go.RowKit Go.Proofs.YtbljcodhcodmkaaDoor.M
set_option linter.unusedSimpArgs false
set_option linter.unusedVariables false

theorem bitsClass (b : Int) (w : World) (L : Lays w) :
    Calls Tryd.prog 31 #[.int .i64 b] w fun e w' => e = .returned (.int .i64 (cls b)) ∧ Gr w w' := by
  obtain ⟨a0, a1, a2, b0, b1, b2⟩ := L
  go_enter Tryd.func31, Tryd.ntmps31
  go_wp2_with (go_at_call 37; refine (class64 _ _).mono ?_; rintro e w1 ⟨rfl, hg⟩)
  go_ret
  exact ⟨rfl, hg⟩
theorem bitsFits32 (b : Int) (w : World) :
    Calls Tryd.prog 39 #[.int .i64 b] w fun e w' => e = .returned (.bool (in32 b)) ∧ w' = w := by
  by_cases h : 0 ≤ b <;> by_cases h2 : b ≤ 4294967295
  all_goals
    go_enter Tryd.func39, Tryd.ntmps39
    go_wp2
    go_ret
    exact ⟨b_ret_bool (by simp [in32]; omega), rfl⟩
theorem bitsClass32 (b : Int) (w : World) (L : Lays w) :
    Calls Tryd.prog 34 #[.int .i64 b] w fun e w' => e = .returned (.int .i64 (cls32 b)) ∧ Gr w w' := by
  obtain ⟨a0, a1, a2, b0, b1, b2⟩ := L
  by_cases h : in32 b = true
  · go_enter Tryd.func34, Tryd.ntmps34
    go_wp2_with (first
      | (go_at_call 39; refine (bitsFits32 _ _).mono ?_; rintro e w1 ⟨rfl, rfl⟩)
      | (go_at_call 37; refine (class32 _ _ h).mono ?_; rintro e w1 ⟨rfl, hg⟩))
    go_ret
    exact ⟨rfl, hg⟩
  · have hn : b < 0 ∨ 4294967296 ≤ b := by simp [in32] at h; omega
    have h' : in32 b = false := by simpa using h
    go_enter Tryd.func34, Tryd.ntmps34
    go_wp2_with (go_at_call 39; refine (bitsFits32 _ _).mono ?_; rintro e w1 ⟨rfl, rfl⟩)
    go_ret
    exact ⟨b_ret_int (by simp [cls32, hn]), Gr.refl _⟩
theorem bitsCanon (b : Int) (w : World) (L : Lays w) :
    Calls Tryd.prog 25 #[.int .i64 b] w fun e w' => e = .returned (.int .i64 (canon b)) ∧ Gr w w' := by
  by_cases h : cls b = 4 <;> by_cases h0 : cls b = 0
  all_goals first
    | (exfalso; omega)
    | (go_enter Tryd.func25, Tryd.ntmps25
       go_wp2_with (go_at_call 31; refine (bitsClass _ _ L).mono ?_; rintro e w1 ⟨rfl, hg⟩)
       go_ret
       exact ⟨b_ret_int (by simp [canon, h, h0]), hg⟩)
end Go.Proofs.YtbljcodhcodmkaaDoor
