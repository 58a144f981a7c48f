/-
  Ulp of package bits and of the document's own answer, by contracts over the same plain function.
-/
import Derived.Test.YthppkpbfdgfcaabDoorCalls
import Derived.Test.YthppkpbfdgfcaabDoorRef2
import Derived.Test.YthppkpbfdgfcaabDoorJoin
import Derived.Test.YthppkpbfdgfcaabDoorRefJoin
namespace Go.Proofs.YthppkpbfdgfcaabDoor
open Go Go.RowKit Go.Proofs.YthppkpbfdgfcaabDoor.M
set_option linter.unusedSimpArgs false
set_option linter.unusedVariables false

def ulp (b : Int) : Int := if pok b = true then jp false 1 (pexp b) else abs b
theorem rng_pexp (b : Int) : rng (pexp b) := by
  have := fld_le b
  unfold rng pexp; repeat' split
  all_goals omega
theorem rng_one : rng 1 := by unfold rng; omega
theorem abs_inf {b : Int} (hb : rng b) (h : pok b = false) (h4 : ¬ cls b = 4) : abs b = 9218868437227405312 := by
  have n := cls4_not h4
  have hf : fld b = 2047 := by simpa [pok] using h
  unfold rng at hb
  unfold abs; rw [if_neg h4]
  unfold fld frc at *
  split <;> omega
theorem bitsUlp (b : Int) (w : World) (E : Env w) (hb : rng b) :
    Calls Tryd.prog 37 #[.int .i64 b] w fun e w' => e = .returned (.int .i64 (ulp b)) ∧ Grown w w' := by
  cases h : pok b
  · have h' := hideIt h
    go_enter Tryd.func37, Tryd.ntmps37
    go_wp2_with fail
    refine (bitsParts _ _ E.lays).mono ?_
    rintro e w1 ⟨rfl, g1⟩
    go_wp2_with fail
    refine (bitsAbs _ _ (E.lays.grown g1) hb).mono ?_
    rintro e w2 ⟨rfl, g2⟩
    go_wp2
    go_ret
    exact ⟨ret_int (by simp [ulp, h'.out]), gTrans g1 g2⟩
  · have h' := hideIt h
    have r1 := rng_one
    have r2 := rng_pexp b
    go_enter Tryd.func37, Tryd.ntmps37
    go_wp2_with fail
    refine (bitsParts _ _ E.lays).mono ?_
    rintro e w1 ⟨rfl, g1⟩
    go_wp2_with fail
    refine (bitsJoin _ _ _ _ (E.grown g1) r1 r2).mono ?_
    rintro e w2 ⟨rfl, g2⟩
    go_wp2
    go_ret
    exact ⟨ret_int (by simp [ulp, h'.out]), gTrans g1 g2⟩
theorem refUlp (b : Int) (w : World) (hb : rng b) :
    Calls Tryd.prog 52 #[.int .i64 b] w fun e w' => e = .returned (.int .i64 (ulp b)) ∧ w' = w := by
  cases h : pok b
  · have h' := hideIt h
    by_cases h4 : cls b = 4
    · go_enter Tryd.func52, Tryd.ntmps52
      go_wp2_with fail
      refine (refParts _ _ hb).mono ?_
      rintro e w1 ⟨rfl, rfl⟩
      go_wp2_with fail
      refine (refClass _ _ hb).mono ?_
      rintro e w1 ⟨rfl, rfl⟩
      go_wp2
      go_ret
      exact ⟨ret_int (by simp [ulp, h'.out, abs, h4]), rfl⟩
    · have ha := hideIt (abs_inf hb h h4)
      go_enter Tryd.func52, Tryd.ntmps52
      go_wp2_with fail
      refine (refParts _ _ hb).mono ?_
      rintro e w1 ⟨rfl, rfl⟩
      go_wp2_with fail
      refine (refClass _ _ hb).mono ?_
      rintro e w1 ⟨rfl, rfl⟩
      go_wp2
      go_ret
      exact ⟨ret_int (by simp [ulp, h'.out, ha.out]), rfl⟩
  · have h' := hideIt h
    have r1 := rng_one
    have r2 := rng_pexp b
    go_enter Tryd.func52, Tryd.ntmps52
    go_wp2_with fail
    refine (refParts _ _ hb).mono ?_
    rintro e w1 ⟨rfl, rfl⟩
    go_wp2_with fail
    refine (refJoin _ _ _ _ r1 r2).mono ?_
    rintro e w1 ⟨rfl, rfl⟩
    go_wp2
    go_ret
    exact ⟨ret_int (by simp [ulp, h'.out]), rfl⟩
end Go.Proofs.YthppkpbfdgfcaabDoor
