/-
  Package nat: Div, by its contract.
-/
import Derived.Test.YtmbajngbiefilabDoorNLaw
import Derived.Test.YtmbajngbiefilabDoorND1
namespace Go.Proofs.YtmbajngbiefilabDoor
open Go Go.RowKit Go.Proofs.YtmbajngbiefilabDoor.M
set_option linter.unusedSimpArgs false
set_option linter.unusedVariables false

set_option maxHeartbeats 400000 in
theorem div_yes (ao bo : Option Addr) (n m ca cb : Nat) (a b : Nat → Int) (w : World) (h : Two w ao bo n m ca cb a b) (oa : okB a n = true) (ob : okB b m = true) (hm : 0 < m) :
    Calls Tryd.prog 9 #[.slice ao n ca, .slice bo m cb] w fun e w' => ∃ v1 v2, e = .returned (.tuple #[v1, v2, .int .i64 0]) ∧ Ans2 w w' (val a n / val b m) v1 (val a n % val b m) v2 := by
  obtain ⟨la, na⟩ := okB_out oa
  obtain ⟨lb, nb⟩ := okB_out ob
  have hz : ((m : Int) == 0) = false := by simp; omega
  go_enter Tryd.func9, Tryd.ntmps9
  go_wp2_with fail
  refine (valid_any _ _ _ _ _ h.ra).mono ?_
  rintro e w' ⟨rfl, rfl⟩
  go_wp2_with fail
  refine (valid_any _ _ _ _ _ h.rb).mono ?_
  rintro e w' ⟨rfl, rfl⟩
  go_wp2_with fail
  refine (divide_any _ _ _ _ _ _ _ _ _ h.ra h.rb na nb (by omega) hm).mono ?_
  rintro e w1 ⟨v1, v2, rfl, hA⟩
  go_wp2
  go_ret3
  exact ⟨_, _, rfl, hA⟩
set_option maxHeartbeats 400000 in
theorem div_zero (ao bo : Option Addr) (n ca cb : Nat) (a b : Nat → Int) (w : World) (h : Two w ao bo n 0 ca cb a b) (oa : okB a n = true) (ob : okB b 0 = true) :
    Calls Tryd.prog 9 #[.slice ao n ca, .slice bo 0 cb] w fun e w' => e = .returned (.tuple #[.slice none 0 0, .slice none 0 0, .int .i64 12]) ∧ w' = w := by
  go_enter Tryd.func9, Tryd.ntmps9
  go_wp2_with fail
  refine (valid_any _ _ _ _ _ h.ra).mono ?_
  rintro e w' ⟨rfl, rfl⟩
  go_wp2_with fail
  refine (valid_any _ _ _ _ _ h.rb).mono ?_
  rintro e w' ⟨rfl, rfl⟩
  go_wp2
  go_ret3
  exact ⟨rfl, rfl⟩
theorem div_num {w : World} {x y : Value} {A B : Int} (hx : Num w x A) (hy : Num w y B) (hA : A < P 2000) (hB : B < P 2000) (h0 : 0 < B) :
    Calls Tryd.prog 9 #[x, y] w fun e w' => ∃ v1 v2, e = .returned (.tuple #[v1, v2, .int .i64 0]) ∧ Ans2 w w' (A / B) v1 (A % B) v2 := by
  obtain ⟨ao, n, ca, d, rfl, hR, h2, rfl⟩ := hx
  obtain ⟨bo, m, cb, e, rfl, kR, k2, rfl⟩ := hy
  have hm : 0 < m := by
    by_cases h : 0 < m
    · exact h
    · obtain rfl : m = 0 := by omega
      exact absurd h0 (Int.lt_irrefl 0)
  exact div_yes _ _ _ _ _ _ _ _ _ ⟨hR, kR⟩ (Num.ok h2 hA) (Num.ok k2 hB) hm
end Go.Proofs.YtmbajngbiefilabDoor
