/-
  The document's own answers for chapter 1, on: the calls of 32 bits, the neighbours, the signs, the order.
-/
import Derived.Test.YthppkpbfdgfcaabDoorRef
namespace Go.Proofs.YthppkpbfdgfcaabDoor
open Go Go.RowKit Go.Proofs.YthppkpbfdgfcaabDoor.M
set_option linter.unusedSimpArgs false
set_option linter.unusedVariables false

theorem refValid32 (b : Int) (w : World) :
    Calls Tryd.prog 45 #[.int .i64 b] w fun e w' => e = .returned (.bool (in32 b)) ∧ w' = w := by
  by_cases h : 0 ≤ b <;> by_cases h2 : b < 4294967296
  all_goals
    go_enter Tryd.func45, Tryd.ntmps45
    go_wp2
    go_ret
    exact ⟨ret_bool (by simp [in32]; omega), rfl⟩
theorem refClass32 (b : Int) (w : World) :
    Calls Tryd.prog 17 #[.int .i64 b] w fun e w' => e = .returned (.int .i64 (cls32 b)) ∧ w' = w := by
  by_cases h : in32 b = true
  · have hb := of_decide_eq_true h
    have e1 : b % 2147483648 / 8388608 = fld32 b := by unfold fld32; omega
    have e2 : b % 8388608 = frc32 b := rfl
    have hf := fld32_le b
    have ht := frc32_le b
    have hk := hideIt (rcls_cls32 b h)
    go_enter Tryd.func17, Tryd.ntmps17
    go_wp2_with (first
      | (go_at_call 45; refine (refValid32 _ _).mono ?_; rintro e w1 ⟨rfl, rfl⟩)
      | (go_at_call 44; refine (refcls _ _ _ _ hf.1 ht.1).mono ?_; rintro e w1 ⟨rfl, rfl⟩))
    go_ret
    exact ⟨ret_int hk.out, rfl⟩
  · have hn : b < 0 ∨ 4294967296 ≤ b := by simp [in32] at h; omega
    have h' : in32 b = false := by simpa using h
    have hk : Hid (4 = cls32 b) := by simp [cls32, hn, Hid]
    go_enter Tryd.func17, Tryd.ntmps17
    go_wp2_with (go_at_call 45; refine (refValid32 _ _).mono ?_; rintro e w1 ⟨rfl, rfl⟩)
    go_ret
    exact ⟨ret_int hk.out, rfl⟩
theorem refParts32 (b : Int) (w : World) :
    Calls Tryd.prog 47 #[.int .i64 b] w fun e w' => e = .returned (.tuple #[.bool (pneg32 b), .int .i64 (pmag32 b), .int .i64 (pexp32 b), .bool (pok32 b)]) ∧ w' = w := by
  have hf := fld32_le b
  have ht := frc32_le b
  by_cases h0 : cls32 b = 0
  · have k := hideIt (parts32_sub (.inl h0))
    have hb := cls32_in (b := b) (by omega)
    have e2 : b % 8388608 = frc32 b := rfl
    go_enter Tryd.func47, Tryd.ntmps47
    go_wp2_with (go_at_call 17; refine (refClass32 _ _).mono ?_; rintro e w1 ⟨rfl, rfl⟩)
    refine bodyPost_ret (v := .tuple #[.bool (decide (2147483648 ≤ b)), .int .i64 (frc32 b), .int .i64 (-149), .bool true]) (by simp [results, Tryd.results47, go_sem, e2]) rfl ⟨ret_ttt4 k.out.1 k.out.2.1 k.out.2.2.1 k.out.2.2.2, rfl⟩
  · by_cases h1 : cls32 b = 1
    · have k := hideIt (parts32_sub (.inr h1))
      have hb := cls32_in (b := b) (by omega)
      have e2 : b % 8388608 = frc32 b := rfl
      go_enter Tryd.func47, Tryd.ntmps47
      go_wp2_with (go_at_call 17; refine (refClass32 _ _).mono ?_; rintro e w1 ⟨rfl, rfl⟩)
      refine bodyPost_ret (v := .tuple #[.bool (decide (2147483648 ≤ b)), .int .i64 (frc32 b), .int .i64 (-149), .bool true]) (by simp [results, Tryd.results47, go_sem, e2]) rfl ⟨ret_ttt4 k.out.1 k.out.2.1 k.out.2.2.1 k.out.2.2.2, rfl⟩
    · by_cases h2 : cls32 b = 2
      · have k := hideIt (parts32_norm h2)
        have hb := cls32_in (b := b) (by omega)
        have e1 : b % 2147483648 / 8388608 = fld32 b := by unfold fld32; omega
        have e2 : b % 8388608 = frc32 b := rfl
        go_enter Tryd.func47, Tryd.ntmps47
        go_wp2_with (go_at_call 17; refine (refClass32 _ _).mono ?_; rintro e w1 ⟨rfl, rfl⟩)
        refine bodyPost_ret (v := .tuple #[.bool (decide (2147483648 ≤ b)), .int .i64 (8388608 + frc32 b), .int .i64 (fld32 b - 150), .bool true]) (by simp [results, Tryd.results47, go_sem, e1, e2]) rfl ⟨ret_ttt4 k.out.1 k.out.2.1 k.out.2.2.1 k.out.2.2.2, rfl⟩
      · have k := hideIt (parts32_not h0 h1 h2)
        go_enter Tryd.func47, Tryd.ntmps47
        go_wp2_with (go_at_call 17; refine (refClass32 _ _).mono ?_; rintro e w1 ⟨rfl, rfl⟩)
        refine bodyPost_ret (v := .tuple #[.bool false, .int .i64 0, .int .i64 0, .bool false]) (by simp [results, Tryd.results47, go_sem]) rfl ⟨ret_ttt4 k.out.1 k.out.2.1 k.out.2.2.1 k.out.2.2.2, rfl⟩
theorem refNeg (b : Int) (w : World) (hb : rng b) :
    Calls Tryd.prog 53 #[.int .i64 b] w fun e w' => e = .returned (.int .i64 (neg b)) ∧ w' = w := by
  have hb' := hb
  unfold rng at hb'
  by_cases h : cls b = 4
  · go_enter Tryd.func53, Tryd.ntmps53
    go_wp2_with (go_at_call 16; refine (refClass _ _ hb).mono ?_; rintro e w1 ⟨rfl, rfl⟩)
    go_ret
    exact ⟨ret_int (by simp [neg, h]), rfl⟩
  · go_enter Tryd.func53, Tryd.ntmps53
    go_wp2_with (go_at_call 16; refine (refClass _ _ hb).mono ?_; rintro e w1 ⟨rfl, rfl⟩)
    go_ret
    exact ⟨ret_int (by simp [neg, h, wrap64]; omega), rfl⟩
theorem refAbs (b : Int) (w : World) (hb : rng b) :
    Calls Tryd.prog 54 #[.int .i64 b] w fun e w' => e = .returned (.int .i64 (abs b)) ∧ w' = w := by
  have hb' := hb
  unfold rng at hb'
  by_cases h : cls b = 4 <;> by_cases h1 : b < 0
  all_goals
    go_enter Tryd.func54, Tryd.ntmps54
    go_wp2_with (go_at_call 16; refine (refClass _ _ hb).mono ?_; rintro e w1 ⟨rfl, rfl⟩)
    go_ret
    exact ⟨ret_int (by simp [abs, h]; try omega), rfl⟩
theorem refCanon (b : Int) (w : World) (hb : rng b) :
    Calls Tryd.prog 56 #[.int .i64 b] w fun e w' => e = .returned (.int .i64 (canon b)) ∧ w' = w := by
  by_cases h : cls b = 4 <;> by_cases h0 : cls b = 0
  all_goals first
    | (exfalso; omega)
    | (go_enter Tryd.func56, Tryd.ntmps56
       go_wp2_with (go_at_call 16; refine (refClass _ _ hb).mono ?_; rintro e w1 ⟨rfl, rfl⟩)
       go_ret
       exact ⟨ret_int (by simp [canon, h, h0]), rfl⟩)
theorem refNext (b : Int) (w : World) (hb : rng b) :
    Calls Tryd.prog 50 #[.int .i64 b] w fun e w' => e = .returned (.int .i64 (next b)) ∧ w' = w := by
  have hb' := hb
  unfold rng at hb'
  by_cases h : cls b = 4
  · go_enter Tryd.func50, Tryd.ntmps50
    go_wp2_with (go_at_call 16; refine (refClass _ _ hb).mono ?_; rintro e w1 ⟨rfl, rfl⟩)
    go_ret
    exact ⟨ret_int (by simp [next, h]), rfl⟩
  · have hu : b < 9223372036854775807 := by
      have := cls4_not h
      unfold fld frc at this
      omega
    by_cases h1 : b = 9218868437227405312
    · subst h1
      go_enter Tryd.func50, Tryd.ntmps50
      go_wp2_with (go_at_call 16; refine (refClass _ _ hb).mono ?_; rintro e w1 ⟨rfl, rfl⟩)
      go_ret
      exact ⟨ret_int (by simp [next, h]), rfl⟩
    · by_cases h2 : b = -9223372036854775808
      · subst h2
        go_enter Tryd.func50, Tryd.ntmps50
        go_wp2_with (go_at_call 16; refine (refClass _ _ hb).mono ?_; rintro e w1 ⟨rfl, rfl⟩)
        go_ret
        exact ⟨ret_int (by simp [next, h]), rfl⟩
      · by_cases h4 : b = 0
        · subst h4
          go_enter Tryd.func50, Tryd.ntmps50
          go_wp2_with (go_at_call 16; refine (refClass _ _ hb).mono ?_; rintro e w1 ⟨rfl, rfl⟩)
          go_ret
          exact ⟨ret_int (by simp [next, h]), rfl⟩
        · have h2' : (b == -9223372036854775808) = false := by simpa using h2
          have h4' : (b == 0) = false := by simpa using h4
          by_cases h3 : b < 0
          all_goals
            go_enter Tryd.func50, Tryd.ntmps50
            go_wp2_with (go_at_call 16; refine (refClass _ _ hb).mono ?_; rintro e w1 ⟨rfl, rfl⟩)
            go_ret
            exact ⟨ret_int (by simp [next, h, h1, h2]; omega), rfl⟩
theorem refPrev (b : Int) (w : World) (hb : rng b) :
    Calls Tryd.prog 51 #[.int .i64 b] w fun e w' => e = .returned (.int .i64 (prev b)) ∧ w' = w := by
  have r1 := rng_neg hb
  have r2 := rng_next r1
  go_enter Tryd.func51, Tryd.ntmps51
  go_wp2_with fail
  refine (refNeg _ _ hb).mono ?_
  rintro e w1 ⟨rfl, rfl⟩
  go_wp2_with fail
  refine (refNext _ _ r1).mono ?_
  rintro e w1 ⟨rfl, rfl⟩
  go_wp2_with fail
  refine (refNeg _ _ r2).mono ?_
  rintro e w1 ⟨rfl, rfl⟩
  go_wp2
  go_ret
  exact ⟨rfl, rfl⟩
end Go.Proofs.YthppkpbfdgfcaabDoor
