/-
  Package bits' calls that take no join, each by a contract: what it answers for every int, in every world that holds the two layouts.
-/
import Derived.Test.YtejbjaddfjelaaaDoorLay
namespace Go.Proofs.YtejbjaddfjelaaaDoor
open Go Go.RowKit Go.Proofs.YtejbjaddfjelaaaDoor.M
set_option linter.unusedSimpArgs false
set_option linter.unusedVariables false

theorem bitsClass (b : Int) (w : World) (L : Lays w) :
    Calls Tryd.prog 24 #[.int .i64 b] w fun e w' => e = .returned (.int .i64 (cls b)) ∧ Gr w w' := by
  obtain ⟨a0, a1, a2, b0, b1, b2⟩ := L
  go_enter Tryd.func24, Tryd.ntmps24
  go_wp2_with (go_at_call 27; refine (class64 _ _).mono ?_; rintro e w1 ⟨rfl, hg⟩)
  go_ret
  exact ⟨rfl, hg⟩
theorem bitsCanon (b : Int) (w : World) (L : Lays w) :
    Calls Tryd.prog 19 #[.int .i64 b] w fun e w' => e = .returned (.int .i64 (canon b)) ∧ Gr w w' := by
  by_cases h : cls b = 4 <;> by_cases h0 : cls b = 0
  all_goals first
    | (exfalso; omega)
    | (go_enter Tryd.func19, Tryd.ntmps19
       go_wp2_with (go_at_call 24; refine (bitsClass _ _ L).mono ?_; rintro e w1 ⟨rfl, hg⟩)
       go_ret
       exact ⟨b_ret_int (by simp [canon, h, h0]), hg⟩)
end Go.Proofs.YtejbjaddfjelaaaDoor
