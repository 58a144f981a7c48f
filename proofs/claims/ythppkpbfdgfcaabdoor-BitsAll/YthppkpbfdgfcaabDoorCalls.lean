/-
  Package bits' calls that take no join, each by a contract: what it answers for every int, in every world that holds the two layouts.
-/
import Derived.Test.YthppkpbfdgfcaabDoorLay
namespace Go.Proofs.YthppkpbfdgfcaabDoor
open Go Go.RowKit Go.Proofs.YthppkpbfdgfcaabDoor.M
set_option linter.unusedSimpArgs false
set_option linter.unusedVariables false

theorem bitsClass (b : Int) (w : World) (L : Lays w) :
    Calls Tryd.prog 26 #[.int .i64 b] w fun e w' => e = .returned (.int .i64 (cls b)) ∧ Grown w w' := by
  obtain ⟨a0, a1, a2, b0, b1, b2⟩ := L
  go_enter Tryd.func26, Tryd.ntmps26
  go_wp2_with (go_at_call 66; refine (class64 _ _).mono ?_; rintro e w1 ⟨rfl, hg⟩)
  go_ret
  exact ⟨rfl, hg⟩
theorem bitsFits32 (b : Int) (w : World) :
    Calls Tryd.prog 39 #[.int .i64 b] w fun e w' => e = .returned (.bool (in32 b)) ∧ w' = w := by
  by_cases h : 0 ≤ b <;> by_cases h2 : b ≤ 4294967295
  all_goals
    go_enter Tryd.func39, Tryd.ntmps39
    go_wp2
    go_ret
    exact ⟨ret_bool (by simp [in32]; omega), rfl⟩
theorem bitsParts (b : Int) (w : World) (L : Lays w) :
    Calls Tryd.prog 24 #[.int .i64 b] w fun e w' => e = .returned (.tuple #[.bool (pneg b), .int .i64 (pmag b), .int .i64 (pexp b), .bool (pok b)]) ∧ Grown w w' := by
  obtain ⟨a0, a1, a2, b0, b1, b2⟩ := L
  by_cases h : pok b = true
  all_goals
    go_enter Tryd.func24, Tryd.ntmps24
    go_wp2_with (go_at_call 64; refine (parts64 _ _).mono ?_; rintro e w1 ⟨rfl, hg⟩)
    refine bodyPost_ret (v := .tuple #[.bool (pneg b), .int .i64 (pmag b), .int .i64 (pexp b), .bool (pok b)]) (by simp [results, Tryd.results24, go_sem, pneg, h]) rfl ⟨rfl, hg⟩
theorem bitsClass32 (b : Int) (w : World) (L : Lays w) :
    Calls Tryd.prog 30 #[.int .i64 b] w fun e w' => e = .returned (.int .i64 (cls32 b)) ∧ Grown w w' := by
  obtain ⟨a0, a1, a2, b0, b1, b2⟩ := L
  by_cases h : in32 b = true
  · go_enter Tryd.func30, Tryd.ntmps30
    go_wp2_with (first
      | (go_at_call 39; refine (bitsFits32 _ _).mono ?_; rintro e w1 ⟨rfl, rfl⟩)
      | (go_at_call 66; refine (class32 _ _ h).mono ?_; rintro e w1 ⟨rfl, hg⟩))
    go_ret
    exact ⟨rfl, hg⟩
  · have hn : b < 0 ∨ 4294967296 ≤ b := by simp [in32] at h; omega
    have h' : in32 b = false := by simpa using h
    go_enter Tryd.func30, Tryd.ntmps30
    go_wp2_with (go_at_call 39; refine (bitsFits32 _ _).mono ?_; rintro e w1 ⟨rfl, rfl⟩)
    go_ret
    exact ⟨ret_int (by simp [cls32, hn]), Grown.refl _⟩
theorem bitsParts32 (b : Int) (w : World) (L : Lays w) :
    Calls Tryd.prog 28 #[.int .i64 b] w fun e w' => e = .returned (.tuple #[.bool (pneg32 b), .int .i64 (pmag32 b), .int .i64 (pexp32 b), .bool (pok32 b)]) ∧ Grown w w' := by
  obtain ⟨a0, a1, a2, b0, b1, b2⟩ := L
  by_cases h : in32 b = true
  · by_cases h2 : pok32 b = true
    all_goals
      go_enter Tryd.func28, Tryd.ntmps28
      go_wp2_with (first
        | (go_at_call 39; refine (bitsFits32 _ _).mono ?_; rintro e w1 ⟨rfl, rfl⟩)
        | (go_at_call 64; refine (parts32 _ _ h).mono ?_; rintro e w1 ⟨rfl, hg⟩))
      refine bodyPost_ret (v := .tuple #[.bool (pneg32 b), .int .i64 (pmag32 b), .int .i64 (pexp32 b), .bool (pok32 b)]) (by simp [results, Tryd.results28, go_sem, pneg32, h2]) rfl ⟨rfl, hg⟩
  · have h' : in32 b = false := by simpa using h
    have h2 : pok32 b = false := by simp [pok32, h']
    go_enter Tryd.func28, Tryd.ntmps28
    go_wp2_with (go_at_call 39; refine (bitsFits32 _ _).mono ?_; rintro e w1 ⟨rfl, rfl⟩)
    refine bodyPost_ret (v := .tuple #[.bool (pneg32 b), .int .i64 (pmag32 b), .int .i64 (pexp32 b), .bool (pok32 b)]) (by simp [results, Tryd.results28, go_sem, pneg32, pmag32, pexp32, h2]) rfl ⟨rfl, Grown.refl _⟩
theorem bitsNext (b : Int) (w : World) (L : Lays w) (hb : rng b) :
    Calls Tryd.prog 31 #[.int .i64 b] w fun e w' => e = .returned (.int .i64 (next b)) ∧ Grown w w' := by
  unfold rng at hb
  by_cases h : cls b = 4
  · go_enter Tryd.func31, Tryd.ntmps31
    go_wp2_with (go_at_call 26; refine (bitsClass _ _ L).mono ?_; rintro e w1 ⟨rfl, hg⟩)
    go_ret
    exact ⟨ret_int (by simp [next, h]), hg⟩
  · have hu : b < 9223372036854775807 := by
      have := cls4_not h
      unfold fld frc at this
      omega
    by_cases h1 : b = 9218868437227405312
    · subst h1
      go_enter Tryd.func31, Tryd.ntmps31
      go_wp2_with (go_at_call 26; refine (bitsClass _ _ L).mono ?_; rintro e w1 ⟨rfl, hg⟩)
      go_ret
      exact ⟨ret_int (by simp [next, h]), hg⟩
    · by_cases h2 : b = -9223372036854775808
      · subst h2
        go_enter Tryd.func31, Tryd.ntmps31
        go_wp2_with (go_at_call 26; refine (bitsClass _ _ L).mono ?_; rintro e w1 ⟨rfl, hg⟩)
        go_ret
        exact ⟨ret_int (by simp [next, h]), hg⟩
      · by_cases h3 : b < 0
        all_goals
          go_enter Tryd.func31, Tryd.ntmps31
          go_wp2_with (go_at_call 26; refine (bitsClass _ _ L).mono ?_; rintro e w1 ⟨rfl, hg⟩)
          go_ret
          exact ⟨ret_int (by simp [next, h, h1, h2]; omega), hg⟩
theorem bitsNeg (b : Int) (w : World) (L : Lays w) (hb : rng b) :
    Calls Tryd.prog 27 #[.int .i64 b] w fun e w' => e = .returned (.int .i64 (neg b)) ∧ Grown w w' := by
  unfold rng at hb
  by_cases h : cls b = 4
  all_goals
    go_enter Tryd.func27, Tryd.ntmps27
    go_wp2_with (go_at_call 26; refine (bitsClass _ _ L).mono ?_; rintro e w1 ⟨rfl, hg⟩)
    go_ret
    exact ⟨ret_int (by first | (simp [neg, h]; done) | (rw [xor_i64_sign _ hb.1 hb.2]; simp [neg, h])), hg⟩
theorem bitsAbs (b : Int) (w : World) (L : Lays w) (hb : rng b) :
    Calls Tryd.prog 36 #[.int .i64 b] w fun e w' => e = .returned (.int .i64 (abs b)) ∧ Grown w w' := by
  unfold rng at hb
  by_cases h : cls b = 4
  all_goals
    go_enter Tryd.func36, Tryd.ntmps36
    go_wp2_with (go_at_call 26; refine (bitsClass _ _ L).mono ?_; rintro e w1 ⟨rfl, hg⟩)
    go_ret
    exact ⟨ret_int (by first | (simp [abs, h]; done) | (rw [andNot_i64_sign _ hb.1 hb.2]; simp [abs, h])), hg⟩
theorem bitsCanon (b : Int) (w : World) (L : Lays w) :
    Calls Tryd.prog 55 #[.int .i64 b] w fun e w' => e = .returned (.int .i64 (canon b)) ∧ Grown w w' := by
  by_cases h : cls b = 4 <;> by_cases h0 : cls b = 0
  all_goals first
    | (exfalso; omega)
    | (go_enter Tryd.func55, Tryd.ntmps55
       go_wp2_with (go_at_call 26; refine (bitsClass _ _ L).mono ?_; rintro e w1 ⟨rfl, hg⟩)
       go_ret
       exact ⟨ret_int (by simp [canon, h, h0]), hg⟩)
theorem bitsPrev (b : Int) (w : World) (L : Lays w) (hb : rng b) :
    Calls Tryd.prog 34 #[.int .i64 b] w fun e w' => e = .returned (.int .i64 (prev b)) ∧ Grown w w' := by
  have r1 := rng_neg hb
  have r2 := rng_next r1
  go_enter Tryd.func34, Tryd.ntmps34
  go_wp2_with fail
  go_at_call 27
  refine (bitsNeg _ _ L hb).mono ?_
  rintro e w1 ⟨rfl, g1⟩
  go_wp2_with fail
  refine (bitsNext _ _ (L.grown g1) r1).mono ?_
  rintro e w2 ⟨rfl, g2⟩
  go_wp2_with fail
  refine (bitsNeg _ _ (L.grown (gTrans g1 g2)) r2).mono ?_
  rintro e w3 ⟨rfl, g3⟩
  go_wp2
  go_ret
  exact ⟨rfl, gTrans (gTrans g1 g2) g3⟩
theorem bitsNext32 (b : Int) (w : World) (L : Lays w) (hb : rng b) :
    Calls Tryd.prog 57 #[.int .i64 b] w fun e w' => e = .returned (.int .i64 (next32 b)) ∧ Grown w w' := by
  unfold rng at hb
  by_cases h : cls32 b = 4
  · go_enter Tryd.func57, Tryd.ntmps57
    go_wp2_with (go_at_call 30; refine (bitsClass32 _ _ L).mono ?_; rintro e w1 ⟨rfl, hg⟩)
    go_ret
    exact ⟨ret_int (by simp [next32, h]), hg⟩
  · have hu := cls32_in h
    by_cases h1 : b = 2139095040
    · subst h1
      go_enter Tryd.func57, Tryd.ntmps57
      go_wp2_with (go_at_call 30; refine (bitsClass32 _ _ L).mono ?_; rintro e w1 ⟨rfl, hg⟩)
      go_ret
      exact ⟨ret_int (by simp [next32, h]), hg⟩
    · by_cases h2 : b = 2147483648
      · subst h2
        go_enter Tryd.func57, Tryd.ntmps57
        go_wp2_with (go_at_call 30; refine (bitsClass32 _ _ L).mono ?_; rintro e w1 ⟨rfl, hg⟩)
        go_ret
        exact ⟨ret_int (by simp [next32, h]), hg⟩
      · by_cases h3 : 2147483648 < b
        all_goals
          go_enter Tryd.func57, Tryd.ntmps57
          go_wp2_with (go_at_call 30; refine (bitsClass32 _ _ L).mono ?_; rintro e w1 ⟨rfl, hg⟩)
          go_ret
          exact ⟨ret_int (by simp [next32, h, h1, h2]; omega), hg⟩
theorem bitsNeg32 (b : Int) (w : World) (L : Lays w) (hb : rng b) :
    Calls Tryd.prog 70 #[.int .i64 b] w fun e w' => e = .returned (.int .i64 (neg32 b)) ∧ Grown w w' := by
  unfold rng at hb
  by_cases h : cls32 b = 4
  · go_enter Tryd.func70, Tryd.ntmps70
    go_wp2_with (go_at_call 30; refine (bitsClass32 _ _ L).mono ?_; rintro e w1 ⟨rfl, hg⟩)
    go_ret
    exact ⟨ret_int (by simp [neg32, h]), hg⟩
  · have hu := cls32_in h
    go_enter Tryd.func70, Tryd.ntmps70
    go_wp2_with (go_at_call 30; refine (bitsClass32 _ _ L).mono ?_; rintro e w1 ⟨rfl, hg⟩)
    go_ret
    exact ⟨ret_int (by rw [xor_i64_sign32 _ hu.1 hu.2]; simp [neg32, h]), hg⟩
theorem bitsPrev32 (b : Int) (w : World) (L : Lays w) (hb : rng b) :
    Calls Tryd.prog 59 #[.int .i64 b] w fun e w' => e = .returned (.int .i64 (prev32 b)) ∧ Grown w w' := by
  have r1 := rng_neg32 hb
  have r2 := rng_next32 r1
  go_enter Tryd.func59, Tryd.ntmps59
  go_wp2_with fail
  go_at_call 70
  refine (bitsNeg32 _ _ L hb).mono ?_
  rintro e w1 ⟨rfl, g1⟩
  go_wp2_with fail
  refine (bitsNext32 _ _ (L.grown g1) r1).mono ?_
  rintro e w2 ⟨rfl, g2⟩
  go_wp2_with fail
  refine (bitsNeg32 _ _ (L.grown (gTrans g1 g2)) r2).mono ?_
  rintro e w3 ⟨rfl, g3⟩
  go_wp2
  go_ret
  exact ⟨rfl, gTrans (gTrans g1 g2) g3⟩
end Go.Proofs.YthppkpbfdgfcaabDoor
