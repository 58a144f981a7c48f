/-
  The document's own answers for chapter 1 (package plumbref1), but for Join: each call by a contract over the same plain functions as package bits'.
-/
import Derived.Test.YthppkpbfdgfcaabDoorLay
namespace Go.Proofs.YthppkpbfdgfcaabDoor
open Go Go.RowKit Go.Proofs.YthppkpbfdgfcaabDoor.M
set_option linter.unusedSimpArgs false
set_option linter.unusedVariables false

theorem hideIt {p : Prop} (h : p) : Hid p := h

theorem refCut (b : Int) (w : World) (hb : rng b) :
    Calls Tryd.prog 43 #[.int .i64 b] w fun e w' => e = .returned (.tuple #[.bool (decide (b < 0)), .int .i64 (fld b), .int .i64 (frc b)]) ∧ w' = w := by
  unfold rng at hb
  by_cases h : b < 0
  all_goals
    go_enter Tryd.func43, Tryd.ntmps43
    go_wp2
    go_ret3
    exact ⟨ret_bii (by simp; try omega) (by unfold fld; omega) (by unfold frc; omega), rfl⟩
theorem refcls (f t most : Int) (w : World) (hf : 0 ≤ f) (ht : 0 ≤ t) :
    Calls Tryd.prog 44 #[.int .i64 f, .int .i64 t, .int .i64 most] w fun e w' => e = .returned (.int .i64 (rcls f t most)) ∧ w' = w := by
  by_cases h1 : f = most
  · subst h1
    by_cases h2 : t = 0
    all_goals
      go_enter Tryd.func44, Tryd.ntmps44
      go_wp2
      go_ret
      exact ⟨ret_int (by simp [rcls, h2]), rfl⟩
  · by_cases h2 : 0 < f <;> by_cases h3 : 0 < t
    all_goals
      go_enter Tryd.func44, Tryd.ntmps44
      go_wp2
      go_ret
      exact ⟨ret_int (by simp [rcls, h1]; omega), rfl⟩
theorem refClass (b : Int) (w : World) (hb : rng b) :
    Calls Tryd.prog 16 #[.int .i64 b] w fun e w' => e = .returned (.int .i64 (cls b)) ∧ w' = w := by
  have hf := fld_le b
  have ht := frc_le b
  go_enter Tryd.func16, Tryd.ntmps16
  go_wp2_with (first
    | (go_at_call 43; refine (refCut _ _ hb).mono ?_; rintro e w1 ⟨rfl, rfl⟩)
    | (go_at_call 44; refine (refcls _ _ _ _ hf.1 ht.1).mono ?_; rintro e w1 ⟨rfl, rfl⟩))
  go_ret
  exact ⟨ret_int (rcls_cls b), rfl⟩
theorem refParts (b : Int) (w : World) (hb : rng b) :
    Calls Tryd.prog 46 #[.int .i64 b] w fun e w' => e = .returned (.tuple #[.bool (pneg b), .int .i64 (pmag b), .int .i64 (pexp b), .bool (pok b)]) ∧ w' = w := by
  have hf := fld_le b
  have ht := frc_le b
  by_cases h0 : cls b = 0
  · have k := hideIt (parts_sub (.inl h0))
    go_enter Tryd.func46, Tryd.ntmps46
    go_wp2_with (first
      | (go_at_call 43; refine (refCut _ _ hb).mono ?_; rintro e w1 ⟨rfl, rfl⟩)
      | (go_at_call 16; refine (refClass _ _ hb).mono ?_; rintro e w1 ⟨rfl, rfl⟩))
    refine bodyPost_ret (v := .tuple #[.bool (decide (b < 0)), .int .i64 (frc b), .int .i64 (-1074), .bool true]) (by simp [results, Tryd.results46, go_sem]) rfl ⟨ret_ttt4 k.out.1 k.out.2.1 k.out.2.2.1 k.out.2.2.2, rfl⟩
  · by_cases h1 : cls b = 1
    · have k := hideIt (parts_sub (.inr h1))
      go_enter Tryd.func46, Tryd.ntmps46
      go_wp2_with (first
        | (go_at_call 43; refine (refCut _ _ hb).mono ?_; rintro e w1 ⟨rfl, rfl⟩)
        | (go_at_call 16; refine (refClass _ _ hb).mono ?_; rintro e w1 ⟨rfl, rfl⟩))
      refine bodyPost_ret (v := .tuple #[.bool (decide (b < 0)), .int .i64 (frc b), .int .i64 (-1074), .bool true]) (by simp [results, Tryd.results46, go_sem]) rfl ⟨ret_ttt4 k.out.1 k.out.2.1 k.out.2.2.1 k.out.2.2.2, rfl⟩
    · by_cases h2 : cls b = 2
      · have k := hideIt (parts_norm h2)
        go_enter Tryd.func46, Tryd.ntmps46
        go_wp2_with (first
          | (go_at_call 43; refine (refCut _ _ hb).mono ?_; rintro e w1 ⟨rfl, rfl⟩)
          | (go_at_call 16; refine (refClass _ _ hb).mono ?_; rintro e w1 ⟨rfl, rfl⟩))
        refine bodyPost_ret (v := .tuple #[.bool (decide (b < 0)), .int .i64 (4503599627370496 + frc b), .int .i64 (fld b - 1075), .bool true]) (by simp [results, Tryd.results46, go_sem]) rfl ⟨ret_ttt4 k.out.1 k.out.2.1 k.out.2.2.1 k.out.2.2.2, rfl⟩
      · have k := hideIt (parts_not h0 h1 h2)
        go_enter Tryd.func46, Tryd.ntmps46
        go_wp2_with (first
          | (go_at_call 43; refine (refCut _ _ hb).mono ?_; rintro e w1 ⟨rfl, rfl⟩)
          | (go_at_call 16; refine (refClass _ _ hb).mono ?_; rintro e w1 ⟨rfl, rfl⟩))
        refine bodyPost_ret (v := .tuple #[.bool false, .int .i64 0, .int .i64 0, .bool false]) (by simp [results, Tryd.results46, go_sem]) rfl ⟨ret_ttt4 k.out.1 k.out.2.1 k.out.2.2.1 k.out.2.2.2, rfl⟩
end Go.Proofs.YthppkpbfdgfcaabDoor
