/-
  The document's own answers for chapter 9 (package plumbref9), by contracts: Coordinate, Finite, Zero, Normal, Rank, Cmp, Tame.
-/
import Derived.Test.YtgfmjcekgpjloaaDoorQPt
namespace Go.Proofs.YtgfmjcekgpjloaaDoor
open Go Go.RowKit Go.Proofs.YtgfmjcekgpjloaaDoor.M
set_option linter.unusedSimpArgs false
set_option linter.unusedVariables false

theorem q_coord {b : Int} (hb : rng b) (w : World) :
    Calls Tryd.prog 9 #[.int .i64 b] w fun e w' => e = .returned (.bool (pok b)) ∧ w' = w := by
  have hb' := hb
  unfold rng at hb'
  have hm : bits .and .i64 (b / 4503599627370496) 2047 = fld b := and_i64_mask (b / 4503599627370496) 11 (by omega)
  go_enter Tryd.func9, Tryd.ntmps9
  go_wp2
  go_ret
  exact ⟨b_ret_bool (by unfold pok; by_cases h : fld b = 2047 <;> simp [h]), rfl⟩
theorem q_refFinite {x y : Int} (hx : rng x) (hy : rng y) (w : World) :
    Calls Tryd.prog 8 #[.agg #[.int .i64 x, .int .i64 y]] w fun e w' => e = .returned (.bool (pok x && pok y)) ∧ Below w.heap.size w w' := by
  cases h1 : pok x <;> cases h2 : pok y
  all_goals
    go_enter Tryd.func8, Tryd.ntmps8
    go_wp2_with fail
    refine (q_coord hx _).mono ?_
    rintro _ _ ⟨rfl, rfl⟩
    go_wp2_with fail
    refine (q_coord hy _).mono ?_
    rintro _ _ ⟨rfl, rfl⟩
    go_wp2
    go_ret
    exact ⟨rfl, bel_alloc _ _⟩
/-- 0 for -0 -/
def q0 (b : Int) : Int := if b = -9223372036854775808 then 0 else b
theorem q_zero (b : Int) (w : World) :
    Calls Tryd.prog 16 #[.int .i64 b] w fun e w' => e = .returned (.int .i64 (q0 b)) ∧ w' = w := by
  by_cases h : b = -9223372036854775808
  · subst h
    go_enter Tryd.func16, Tryd.ntmps16
    go_wp2
    go_ret
    exact ⟨rfl, rfl⟩
  · have hr : q0 b = b := by unfold q0; rw [if_neg h]
    go_enter Tryd.func16, Tryd.ntmps16
    go_wp2
    go_ret
    exact ⟨b_ret_int (by first | rfl | exact hr.symm), rfl⟩
theorem q0_rg {b : Int} (hb : rng b) : q0 b = 0 ↔ rg b = 0 := by
  unfold rng at hb; unfold q0 rg
  repeat' split
  all_goals omega
end Go.Proofs.YtgfmjcekgpjloaaDoor
