/-
  Package bits' calls that take no join, each by a contract: what it answers for every int, in every world that holds the two layouts.
-/
import Derived.Test.YthppkpbfdgfcaacDoorLay
namespace Go.Proofs.YthppkpbfdgfcaacDoor
open Go Go.RowKit Go.Proofs.YthppkpbfdgfcaacDoor.M
set_option linter.unusedSimpArgs false
set_option linter.unusedVariables false

theorem bitsClass (b : Int) (w : World) (L : Lays w) :
    Calls Tryd.prog 17 #[.int .i64 b] w fun e w' => e = .returned (.int .i64 (cls b)) ∧ Grown w w' := by
  obtain ⟨a0, a1, a2, b0, b1, b2⟩ := L
  go_enter Tryd.func17, Tryd.ntmps17
  go_wp2_with (go_at_call 21; refine (class64 _ _).mono ?_; rintro e w1 ⟨rfl, hg⟩)
  go_ret
  exact ⟨rfl, hg⟩
theorem bitsFits32 (b : Int) (w : World) :
    Calls Tryd.prog 14 #[.int .i64 b] w fun e w' => e = .returned (.bool (in32 b)) ∧ w' = w := by
  by_cases h : 0 ≤ b <;> by_cases h2 : b ≤ 4294967295
  all_goals
    go_enter Tryd.func14, Tryd.ntmps14
    go_wp2
    go_ret
    exact ⟨ret_bool (by simp [in32]; omega), rfl⟩
theorem bitsParts (b : Int) (w : World) (L : Lays w) :
    Calls Tryd.prog 16 #[.int .i64 b] w fun e w' => e = .returned (.tuple #[.bool (pneg b), .int .i64 (pmag b), .int .i64 (pexp b), .bool (pok b)]) ∧ Grown w w' := by
  obtain ⟨a0, a1, a2, b0, b1, b2⟩ := L
  by_cases h : pok b = true
  all_goals
    go_enter Tryd.func16, Tryd.ntmps16
    go_wp2_with (go_at_call 15; refine (parts64 _ _).mono ?_; rintro e w1 ⟨rfl, hg⟩)
    refine bodyPost_ret (v := .tuple #[.bool (pneg b), .int .i64 (pmag b), .int .i64 (pexp b), .bool (pok b)]) (by simp [results, Tryd.results16, go_sem, pneg, h]) rfl ⟨rfl, hg⟩
theorem bitsClass32 (b : Int) (w : World) (L : Lays w) :
    Calls Tryd.prog 11 #[.int .i64 b] w fun e w' => e = .returned (.int .i64 (cls32 b)) ∧ Grown w w' := by
  obtain ⟨a0, a1, a2, b0, b1, b2⟩ := L
  by_cases h : in32 b = true
  · go_enter Tryd.func11, Tryd.ntmps11
    go_wp2_with (first
      | (go_at_call 14; refine (bitsFits32 _ _).mono ?_; rintro e w1 ⟨rfl, rfl⟩)
      | (go_at_call 21; refine (class32 _ _ h).mono ?_; rintro e w1 ⟨rfl, hg⟩))
    go_ret
    exact ⟨rfl, hg⟩
  · have hn : b < 0 ∨ 4294967296 ≤ b := by simp [in32] at h; omega
    have h' : in32 b = false := by simpa using h
    go_enter Tryd.func11, Tryd.ntmps11
    go_wp2_with (go_at_call 14; refine (bitsFits32 _ _).mono ?_; rintro e w1 ⟨rfl, rfl⟩)
    go_ret
    exact ⟨ret_int (by simp [cls32, hn]), Grown.refl _⟩
theorem bitsParts32 (b : Int) (w : World) (L : Lays w) :
    Calls Tryd.prog 4 #[.int .i64 b] w fun e w' => e = .returned (.tuple #[.bool (pneg32 b), .int .i64 (pmag32 b), .int .i64 (pexp32 b), .bool (pok32 b)]) ∧ Grown w w' := by
  obtain ⟨a0, a1, a2, b0, b1, b2⟩ := L
  by_cases h : in32 b = true
  · by_cases h2 : pok32 b = true
    all_goals
      go_enter Tryd.func4, Tryd.ntmps4
      go_wp2_with (first
        | (go_at_call 14; refine (bitsFits32 _ _).mono ?_; rintro e w1 ⟨rfl, rfl⟩)
        | (go_at_call 15; refine (parts32 _ _ h).mono ?_; rintro e w1 ⟨rfl, hg⟩))
      refine bodyPost_ret (v := .tuple #[.bool (pneg32 b), .int .i64 (pmag32 b), .int .i64 (pexp32 b), .bool (pok32 b)]) (by simp [results, Tryd.results4, go_sem, pneg32, h2]) rfl ⟨rfl, hg⟩
  · have h' : in32 b = false := by simpa using h
    have h2 : pok32 b = false := by simp [pok32, h']
    go_enter Tryd.func4, Tryd.ntmps4
    go_wp2_with (go_at_call 14; refine (bitsFits32 _ _).mono ?_; rintro e w1 ⟨rfl, rfl⟩)
    refine bodyPost_ret (v := .tuple #[.bool (pneg32 b), .int .i64 (pmag32 b), .int .i64 (pexp32 b), .bool (pok32 b)]) (by simp [results, Tryd.results4, go_sem, pneg32, pmag32, pexp32, h2]) rfl ⟨rfl, Grown.refl _⟩
theorem bitsNext (b : Int) (w : World) (L : Lays w) (hb : rng b) :
    Calls Tryd.prog 13 #[.int .i64 b] w fun e w' => e = .returned (.int .i64 (next b)) ∧ Grown w w' := by
  unfold rng at hb
  by_cases h : cls b = 4
  · go_enter Tryd.func13, Tryd.ntmps13
    go_wp2_with (go_at_call 17; refine (bitsClass _ _ L).mono ?_; rintro e w1 ⟨rfl, hg⟩)
    go_ret
    exact ⟨ret_int (by simp [next, h]), hg⟩
  · have hu : b < 9223372036854775807 := by
      have := cls4_not h
      unfold fld frc at this
      omega
    by_cases h1 : b = 9218868437227405312
    · subst h1
      go_enter Tryd.func13, Tryd.ntmps13
      go_wp2_with (go_at_call 17; refine (bitsClass _ _ L).mono ?_; rintro e w1 ⟨rfl, hg⟩)
      go_ret
      exact ⟨ret_int (by simp [next, h]), hg⟩
    · by_cases h2 : b = -9223372036854775808
      · subst h2
        go_enter Tryd.func13, Tryd.ntmps13
        go_wp2_with (go_at_call 17; refine (bitsClass _ _ L).mono ?_; rintro e w1 ⟨rfl, hg⟩)
        go_ret
        exact ⟨ret_int (by simp [next, h]), hg⟩
      · by_cases h3 : b < 0
        all_goals
          go_enter Tryd.func13, Tryd.ntmps13
          go_wp2_with (go_at_call 17; refine (bitsClass _ _ L).mono ?_; rintro e w1 ⟨rfl, hg⟩)
          go_ret
          exact ⟨ret_int (by simp [next, h, h1, h2]; omega), hg⟩
theorem bitsNext32 (b : Int) (w : World) (L : Lays w) (hb : rng b) :
    Calls Tryd.prog 10 #[.int .i64 b] w fun e w' => e = .returned (.int .i64 (next32 b)) ∧ Grown w w' := by
  unfold rng at hb
  by_cases h : cls32 b = 4
  · go_enter Tryd.func10, Tryd.ntmps10
    go_wp2_with (go_at_call 11; refine (bitsClass32 _ _ L).mono ?_; rintro e w1 ⟨rfl, hg⟩)
    go_ret
    exact ⟨ret_int (by simp [next32, h]), hg⟩
  · have hu := cls32_in h
    by_cases h1 : b = 2139095040
    · subst h1
      go_enter Tryd.func10, Tryd.ntmps10
      go_wp2_with (go_at_call 11; refine (bitsClass32 _ _ L).mono ?_; rintro e w1 ⟨rfl, hg⟩)
      go_ret
      exact ⟨ret_int (by simp [next32, h]), hg⟩
    · by_cases h2 : b = 2147483648
      · subst h2
        go_enter Tryd.func10, Tryd.ntmps10
        go_wp2_with (go_at_call 11; refine (bitsClass32 _ _ L).mono ?_; rintro e w1 ⟨rfl, hg⟩)
        go_ret
        exact ⟨ret_int (by simp [next32, h]), hg⟩
      · by_cases h3 : 2147483648 < b
        all_goals
          go_enter Tryd.func10, Tryd.ntmps10
          go_wp2_with (go_at_call 11; refine (bitsClass32 _ _ L).mono ?_; rintro e w1 ⟨rfl, hg⟩)
          go_ret
          exact ⟨ret_int (by simp [next32, h, h1, h2]; omega), hg⟩
end Go.Proofs.YthppkpbfdgfcaacDoor
