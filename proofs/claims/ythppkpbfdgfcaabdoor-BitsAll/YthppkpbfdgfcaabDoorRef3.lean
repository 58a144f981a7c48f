/-
  The document's own answers for chapter 1, on: the neighbours and the sign in 32 bits.
-/
import Derived.Test.YthppkpbfdgfcaabDoorRef2
namespace Go.Proofs.YthppkpbfdgfcaabDoor
open Go Go.RowKit Go.Proofs.YthppkpbfdgfcaabDoor.M
set_option linter.unusedSimpArgs false
set_option linter.unusedVariables false

theorem refNeg32 (b : Int) (w : World) (hb : rng b) :
    Calls Tryd.prog 71 #[.int .i64 b] w fun e w' => e = .returned (.int .i64 (neg32 b)) ∧ w' = w := by
  by_cases h : cls32 b = 4
  · go_enter Tryd.func71, Tryd.ntmps71
    go_wp2_with (go_at_call 17; refine (refClass32 _ _).mono ?_; rintro e w1 ⟨rfl, rfl⟩)
    go_ret
    exact ⟨ret_int (by simp [neg32, h]), rfl⟩
  · have hu := cls32_in h
    by_cases h1 : b < 2147483648
    all_goals
      go_enter Tryd.func71, Tryd.ntmps71
      go_wp2_with (go_at_call 17; refine (refClass32 _ _).mono ?_; rintro e w1 ⟨rfl, rfl⟩)
      go_ret
      exact ⟨ret_int (by simp [neg32, h]; try omega), rfl⟩
theorem refNext32 (b : Int) (w : World) (hb : rng b) :
    Calls Tryd.prog 58 #[.int .i64 b] w fun e w' => e = .returned (.int .i64 (next32 b)) ∧ w' = w := by
  by_cases h : cls32 b = 4
  · go_enter Tryd.func58, Tryd.ntmps58
    go_wp2_with (go_at_call 17; refine (refClass32 _ _).mono ?_; rintro e w1 ⟨rfl, rfl⟩)
    go_ret
    exact ⟨ret_int (by simp [next32, h]), rfl⟩
  · have hu := cls32_in h
    by_cases h1 : b = 2139095040
    · subst h1
      go_enter Tryd.func58, Tryd.ntmps58
      go_wp2_with (go_at_call 17; refine (refClass32 _ _).mono ?_; rintro e w1 ⟨rfl, rfl⟩)
      go_ret
      exact ⟨ret_int (by simp [next32, h]), rfl⟩
    · by_cases h2 : b = 2147483648
      · subst h2
        go_enter Tryd.func58, Tryd.ntmps58
        go_wp2_with (go_at_call 17; refine (refClass32 _ _).mono ?_; rintro e w1 ⟨rfl, rfl⟩)
        go_ret
        exact ⟨ret_int (by simp [next32, h]), rfl⟩
      · by_cases h4 : b = 0
        · subst h4
          go_enter Tryd.func58, Tryd.ntmps58
          go_wp2_with (go_at_call 17; refine (refClass32 _ _).mono ?_; rintro e w1 ⟨rfl, rfl⟩)
          go_ret
          exact ⟨ret_int (by simp [next32, h]), rfl⟩
        · have h2' : (b == 2147483648) = false := by simpa using h2
          have h4' : (b == 0) = false := by simpa using h4
          by_cases h3 : 2147483648 < b
          all_goals
            go_enter Tryd.func58, Tryd.ntmps58
            go_wp2_with (go_at_call 17; refine (refClass32 _ _).mono ?_; rintro e w1 ⟨rfl, rfl⟩)
            go_ret
            exact ⟨ret_int (by simp [next32, h, h1, h2]; omega), rfl⟩
theorem refPrev32 (b : Int) (w : World) (hb : rng b) :
    Calls Tryd.prog 60 #[.int .i64 b] w fun e w' => e = .returned (.int .i64 (prev32 b)) ∧ w' = w := by
  have r1 := rng_neg32 hb
  have r2 := rng_next32 r1
  go_enter Tryd.func60, Tryd.ntmps60
  go_wp2_with fail
  refine (refNeg32 _ _ hb).mono ?_
  rintro e w1 ⟨rfl, rfl⟩
  go_wp2_with fail
  refine (refNext32 _ _ r1).mono ?_
  rintro e w1 ⟨rfl, rfl⟩
  go_wp2_with fail
  refine (refNeg32 _ _ r2).mono ?_
  rintro e w1 ⟨rfl, rfl⟩
  go_wp2
  go_ret
  exact ⟨rfl, rfl⟩
end Go.Proofs.YthppkpbfdgfcaabDoor
