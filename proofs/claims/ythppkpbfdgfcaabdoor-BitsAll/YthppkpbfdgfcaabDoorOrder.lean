/-
  Less, Same, Order of package bits and of the document's own answer, each by a contract over the same plain functions.
-/
import Derived.Test.YthppkpbfdgfcaabDoorMathF
import Derived.Test.YthppkpbfdgfcaabDoorAlive
import Derived.Test.YthppkpbfdgfcaabDoorRef2
namespace Go.Proofs.YthppkpbfdgfcaabDoor
open Go Go.RowKit Go.Proofs.YthppkpbfdgfcaabDoor.M
set_option linter.unusedSimpArgs false
set_option linter.unusedVariables false

theorem bitsLess (a b : Int) (w : World) (ha : rng a) (hb : rng b) :
    Calls Tryd.prog 32 #[.int .i64 a, .int .i64 b] w fun e w' => e = .returned (.bool (less a b)) ∧ w' = w := by
  have k := less_order ha hb
  go_enter Tryd.func32, Tryd.ntmps32
  go_wp2_with (go_at_call 10; refine (bitsFloat _ _).mono ?_; rintro e w1 ⟨rfl, rfl⟩)
  go_ret
  exact ⟨rfl, rfl⟩
theorem bitsSame (a b : Int) (w : World) (ha : rng a) (hb : rng b) :
    Calls Tryd.prog 33 #[.int .i64 a, .int .i64 b] w fun e w' => e = .returned (.bool (same a b)) ∧ w' = w := by
  have k := same_order ha hb
  go_enter Tryd.func33, Tryd.ntmps33
  go_wp2_with (go_at_call 10; refine (bitsFloat _ _).mono ?_; rintro e w1 ⟨rfl, rfl⟩)
  go_ret
  exact ⟨rfl, rfl⟩
theorem cmpInt (x y : Int) (w : World) :
    Calls Tryd.prog 67 #[.int .i64 x, .int .i64 y] w fun e w' => e = .returned (.int .i64 (cmp x y)) ∧ w' = w := by
  have hx : (x != x) = false := by simp
  rcases Int.lt_trichotomy x y with h | h | h
  · go_enter Tryd.func67, Tryd.ntmps67
    go_wp2
    go_ret
    exact ⟨ret_int (by simp [cmp, h]), rfl⟩
  · subst h
    go_enter Tryd.func67, Tryd.ntmps67
    go_wp2
    go_ret
    exact ⟨ret_int (by simp [cmp]), rfl⟩
  · go_enter Tryd.func67, Tryd.ntmps67
    go_wp2
    go_ret
    exact ⟨ret_int (by simp [cmp, h]; omega), rfl⟩
theorem bitsRank (b : Int) (w : World) (L : Lays w) (hb : rng b) :
    Calls Tryd.prog 68 #[.int .i64 b] w fun e w' => e = .returned (.int .i64 (rank b)) ∧ Grown w w' := by
  have hb' := hb
  unfold rng at hb'
  by_cases h : cls b = 4
  · go_enter Tryd.func68, Tryd.ntmps68
    go_wp2_with (go_at_call 26; refine (bitsClass _ _ L).mono ?_; rintro e w1 ⟨rfl, hg⟩)
    go_ret
    exact ⟨ret_int (by simp [rank, h]), hg⟩
  · by_cases h1 : b < 0
    · go_enter Tryd.func68, Tryd.ntmps68
      go_wp2_with (go_at_call 26; refine (bitsClass _ _ L).mono ?_; rintro e w1 ⟨rfl, hg⟩)
      go_ret
      exact ⟨ret_int (by rw [andNot_i64_sign _ hb'.1 hb'.2, if_pos h1, not_i64 _ (by omega) (by omega)]; simp [rank, h, place, h1]; omega), hg⟩
    · go_enter Tryd.func68, Tryd.ntmps68
      go_wp2_with (go_at_call 26; refine (bitsClass _ _ L).mono ?_; rintro e w1 ⟨rfl, hg⟩)
      go_ret
      exact ⟨ret_int (by simp [rank, h, place]; omega), hg⟩
theorem bitsOrd (a b : Int) (w : World) (L : Lays w) (ha : rng a) (hb : rng b) :
    Calls Tryd.prog 35 #[.int .i64 a, .int .i64 b] w fun e w' => e = .returned (.int .i64 (ord a b)) ∧ Grown w w' := by
  have k := hideIt (cmp_rank ha hb)
  go_enter Tryd.func35, Tryd.ntmps35
  go_wp2_with fail
  refine (bitsRank _ _ L ha).mono ?_
  rintro e w1 ⟨rfl, g1⟩
  have L1 := L.grown g1
  go_wp2_with fail
  refine (bitsRank _ _ L1 hb).mono ?_
  rintro e w2 ⟨rfl, g2⟩
  go_wp2_with fail
  refine (cmpInt _ _ _).mono ?_
  rintro e w3 ⟨rfl, rfl⟩
  go_wp2
  go_ret
  exact ⟨ret_int k.out, gTrans g1 g2⟩
theorem refPlace (b : Int) (w : World) (hb : rng b) :
    Calls Tryd.prog 72 #[.int .i64 b] w fun e w' => e = .returned (.int .i64 (place b)) ∧ w' = w := by
  unfold rng at hb
  by_cases h : b < 0
  all_goals
    go_enter Tryd.func72, Tryd.ntmps72
    go_wp2
    go_ret
    exact ⟨ret_int (by simp [place]; omega), rfl⟩
theorem refLess (a b : Int) (w : World) (ha : rng a) (hb : rng b) :
    Calls Tryd.prog 61 #[.int .i64 a, .int .i64 b] w fun e w' => e = .returned (.bool (less a b)) ∧ w' = w := by
  have ca := rng_canon ha
  have cb := rng_canon hb
  by_cases h1 : cls a = 4
  · go_enter Tryd.func61, Tryd.ntmps61
    go_wp2_with (go_at_call 16; refine (refClass _ _ ha).mono ?_; rintro e w1 ⟨rfl, rfl⟩)
    go_ret
    exact ⟨ret_bool (by simp [less, h1]), rfl⟩
  · have h1' : (cls a == 4) = false := by simpa using h1
    by_cases h2 : cls b = 4
    · go_enter Tryd.func61, Tryd.ntmps61
      go_wp2_with fail
      refine (refClass _ _ ha).mono ?_
      rintro e w1 ⟨rfl, rfl⟩
      go_wp2_with fail
      refine (refClass _ _ hb).mono ?_
      rintro e w1 ⟨rfl, rfl⟩
      go_wp2
      go_ret
      exact ⟨ret_bool (by simp [less, h2]), rfl⟩
    · have h2' : (cls b == 4) = false := by simpa using h2
      have k := hideIt (less_place ha hb h1 h2)
      go_enter Tryd.func61, Tryd.ntmps61
      go_wp2_with fail
      refine (refClass _ _ ha).mono ?_
      rintro e w1 ⟨rfl, rfl⟩
      go_wp2_with fail
      refine (refClass _ _ hb).mono ?_
      rintro e w1 ⟨rfl, rfl⟩
      go_wp2_with fail
      refine (refCanon _ _ ha).mono ?_
      rintro e w1 ⟨rfl, rfl⟩
      go_wp2_with fail
      refine (refPlace _ _ ca).mono ?_
      rintro e w1 ⟨rfl, rfl⟩
      go_wp2_with fail
      refine (refCanon _ _ hb).mono ?_
      rintro e w1 ⟨rfl, rfl⟩
      go_wp2_with fail
      refine (refPlace _ _ cb).mono ?_
      rintro e w1 ⟨rfl, rfl⟩
      go_wp2
      go_ret
      exact ⟨ret_bool k.out, rfl⟩
theorem refSame (a b : Int) (w : World) (ha : rng a) (hb : rng b) :
    Calls Tryd.prog 62 #[.int .i64 a, .int .i64 b] w fun e w' => e = .returned (.bool (same a b)) ∧ w' = w := by
  have k := hideIt (same_canon ha hb)
  by_cases h1 : cls a = 4
  · go_enter Tryd.func62, Tryd.ntmps62
    go_wp2_with (go_at_call 16; refine (refClass _ _ ha).mono ?_; rintro e w1 ⟨rfl, rfl⟩)
    go_ret
    exact ⟨ret_bool (by simp [same, h1]), rfl⟩
  · have h1' : (cls a != 4) = true := by simpa using h1
    go_enter Tryd.func62, Tryd.ntmps62
    go_wp2_with fail
    refine (refClass _ _ ha).mono ?_
    rintro e w1 ⟨rfl, rfl⟩
    go_wp2_with fail
    refine (refCanon _ _ ha).mono ?_
    rintro e w1 ⟨rfl, rfl⟩
    go_wp2_with fail
    refine (refCanon _ _ hb).mono ?_
    rintro e w1 ⟨rfl, rfl⟩
    go_wp2
    go_ret
    exact ⟨ret_bool (by rw [← k.out]; simp [h1]; rfl), rfl⟩
theorem refOrd (a b : Int) (w : World) (ha : rng a) (hb : rng b) :
    Calls Tryd.prog 63 #[.int .i64 a, .int .i64 b] w fun e w' => e = .returned (.int .i64 (ord a b)) ∧ w' = w := by
  by_cases h1 : cls a = 4 <;> by_cases h2 : cls b = 4
  · have h1' : (cls a == 4) = true := by simpa using h1
    have h2' : (cls b == 4) = true := by simpa using h2
    go_enter Tryd.func63, Tryd.ntmps63
    go_wp2_with fail
    refine (refClass _ _ ha).mono ?_
    rintro e w1 ⟨rfl, rfl⟩
    go_wp2_with fail
    refine (refClass _ _ hb).mono ?_
    rintro e w1 ⟨rfl, rfl⟩
    go_wp2
    go_ret
    exact ⟨ret_int (by simp [ord, h1, h2]), rfl⟩
  · have h1' : (cls a == 4) = true := by simpa using h1
    have h2' : (cls b == 4) = false := by simpa using h2
    go_enter Tryd.func63, Tryd.ntmps63
    go_wp2_with fail
    refine (refClass _ _ ha).mono ?_
    rintro e w1 ⟨rfl, rfl⟩
    go_wp2_with fail
    refine (refClass _ _ hb).mono ?_
    rintro e w1 ⟨rfl, rfl⟩
    go_wp2
    go_ret
    exact ⟨ret_int (by simp [ord, h1, h2]), rfl⟩
  · have h1' : (cls a == 4) = false := by simpa using h1
    have h2' : (cls b == 4) = true := by simpa using h2
    go_enter Tryd.func63, Tryd.ntmps63
    go_wp2_with fail
    refine (refClass _ _ ha).mono ?_
    rintro e w1 ⟨rfl, rfl⟩
    go_wp2_with fail
    refine (refClass _ _ hb).mono ?_
    rintro e w1 ⟨rfl, rfl⟩
    go_wp2
    go_ret
    exact ⟨ret_int (by simp [ord, h1, h2]), rfl⟩
  · have h1' : (cls a == 4) = false := by simpa using h1
    have h2' : (cls b == 4) = false := by simpa using h2
    by_cases h3 : place a < place b
    · go_enter Tryd.func63, Tryd.ntmps63
      go_wp2_with fail
      refine (refClass _ _ ha).mono ?_
      rintro e w1 ⟨rfl, rfl⟩
      go_wp2_with fail
      refine (refClass _ _ hb).mono ?_
      rintro e w1 ⟨rfl, rfl⟩
      go_wp2_with fail
      refine (refPlace _ _ ha).mono ?_
      rintro e w1 ⟨rfl, rfl⟩
      go_wp2_with fail
      refine (refPlace _ _ hb).mono ?_
      rintro e w1 ⟨rfl, rfl⟩
      go_wp2
      go_ret
      exact ⟨ret_int (by simp [ord, h1, h2, h3]), rfl⟩
    · by_cases h4 : place b < place a
      all_goals
        go_enter Tryd.func63, Tryd.ntmps63
        go_wp2_with fail
        refine (refClass _ _ ha).mono ?_
        rintro e w1 ⟨rfl, rfl⟩
        go_wp2_with fail
        refine (refClass _ _ hb).mono ?_
        rintro e w1 ⟨rfl, rfl⟩
        go_wp2_with fail
        refine (refPlace _ _ ha).mono ?_
        rintro e w1 ⟨rfl, rfl⟩
        go_wp2_with fail
        refine (refPlace _ _ hb).mono ?_
        rintro e w1 ⟨rfl, rfl⟩
        go_wp2_with fail
        refine (refPlace _ _ ha).mono ?_
        rintro e w1 ⟨rfl, rfl⟩
        go_wp2_with fail
        refine (refPlace _ _ hb).mono ?_
        rintro e w1 ⟨rfl, rfl⟩
        go_wp2
        go_ret
        exact ⟨ret_int (by simp [ord, h1, h2]; omega), rfl⟩
end Go.Proofs.YthppkpbfdgfcaabDoor
