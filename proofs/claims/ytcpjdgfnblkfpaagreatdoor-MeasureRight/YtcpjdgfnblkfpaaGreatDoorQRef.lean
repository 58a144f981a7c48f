/-
  The document's own answers for chapter 9 (package plumbref9), by contracts: Coordinate, Finite, Zero, Normal, Rank, Cmp, Tame.
-/
import Derived.Test.YtcpjdgfnblkfpaaGreatDoorQPt
namespace Go.Proofs.YtcpjdgfnblkfpaaGreatDoor
open Go Go.RowKit Go.Proofs.YtcpjdgfnblkfpaaGreatDoor.M
set_option linter.unusedSimpArgs false
set_option linter.unusedVariables false

theorem q_coord {b : Int} (hb : rng b) (w : World) :
    Calls Tryz.prog 27 #[.int .i64 b] w fun e w' => e = .returned (.bool (pok b)) ∧ w' = w := by
  have hb' := hb
  unfold rng at hb'
  have hm : bits .and .i64 (b / 4503599627370496) 2047 = fld b := and_i64_mask (b / 4503599627370496) 11 (by omega)
  go_enter Tryz.func27, Tryz.ntmps27
  go_wp2
  go_ret
  exact ⟨b_ret_bool (by unfold pok; by_cases h : fld b = 2047 <;> simp [h]), rfl⟩
theorem q_refFinite {x y : Int} (hx : rng x) (hy : rng y) (w : World) :
    Calls Tryz.prog 11 #[.agg #[.int .i64 x, .int .i64 y]] w fun e w' => e = .returned (.bool (pok x && pok y)) ∧ Below w.heap.size w w' := by
  cases h1 : pok x <;> cases h2 : pok y
  all_goals
    go_enter Tryz.func11, Tryz.ntmps11
    go_wp2_with fail
    refine (q_coord hx _).mono ?_
    rintro _ _ ⟨rfl, rfl⟩
    go_wp2_with fail
    refine (q_coord hy _).mono ?_
    rintro _ _ ⟨rfl, rfl⟩
    go_wp2
    go_ret
    exact ⟨rfl, bel_alloc _ _⟩
/-- 0 for -0 -/
def q0 (b : Int) : Int := if b = -9223372036854775808 then 0 else b
theorem q_rank {b : Int} (hb : rng b) (w : World) :
    Calls Tryz.prog 25 #[.int .i64 b] w fun e w' => e = .returned (.int .i64 (key b)) ∧ w' = w := by
  unfold rng at hb
  by_cases h : b < 0
  · have hr : key b = -(b + 9223372036854775808) := by unfold key; rw [if_pos h]
    go_enter Tryz.func25, Tryz.ntmps25
    go_wp2
    go_ret
    exact ⟨b_ret_int (by first | rfl | omega | (rw [hr]; omega)), rfl⟩
  · have hr : key b = b := by unfold key; rw [if_neg h]
    go_enter Tryz.func25, Tryz.ntmps25
    go_wp2
    go_ret
    exact ⟨b_ret_int (by first | rfl | exact hr.symm), rfl⟩
set_option maxRecDepth 100000 in
theorem q_refCmp {ax ay bx by' : Int} (hax : rng ax) (hay : rng ay) (hbx : rng bx) (hby : rng by') (w : World) :
    Calls Tryz.prog 7 #[.agg #[.int .i64 ax, .int .i64 ay], .agg #[.int .i64 bx, .int .i64 by']] w fun e w' => e = .returned (.int .i64 (pcmp ax ay bx by')) ∧ Below w.heap.size w w' := by
  have C1 : Hid (∀ W, Calls Tryz.prog 25 #[.int .i64 ax] W fun e w' => e = .returned (.int .i64 (key ax)) ∧ w' = W) := fun W => q_rank hax W
  have C2 : Hid (∀ W, Calls Tryz.prog 25 #[.int .i64 bx] W fun e w' => e = .returned (.int .i64 (key bx)) ∧ w' = W) := fun W => q_rank hbx W
  have C3 : Hid (∀ W, Calls Tryz.prog 25 #[.int .i64 ay] W fun e w' => e = .returned (.int .i64 (key ay)) ∧ w' = W) := fun W => q_rank hay W
  have C4 : Hid (∀ W, Calls Tryz.prog 25 #[.int .i64 by'] W fun e w' => e = .returned (.int .i64 (key by')) ∧ w' = W) := fun W => q_rank hby W
  have r1 := rng_key hax
  have r2 := rng_key hay
  have r3 := rng_key hbx
  have r4 := rng_key hby
  unfold pcmp
  clear hax hay hbx hby
  generalize key ax = A at *
  generalize key bx = B at *
  generalize key ay = C at *
  generalize key by' = D at *
  have hbe := bel_alloc2 w (.cells #[.int .i64 ax, .int .i64 ay] 25) (.cells #[.int .i64 bx, .int .i64 by'] 25)
  by_cases h : A = B
  · subst h
    rw [if_pos rfl]
    rcases Int.lt_trichotomy C D with k | k | k
    · have e : cmp C D = -1 := by unfold cmp; rw [if_pos k]
      go_enter Tryz.func7, Tryz.ntmps7
      go_wp2_with fail
      refine (C1.out _).mono ?_
      rintro _ _ ⟨rfl, rfl⟩
      go_wp2_with fail
      refine (C2.out _).mono ?_
      rintro _ _ ⟨rfl, rfl⟩
      go_wp2_with fail
      refine (C3.out _).mono ?_
      rintro _ _ ⟨rfl, rfl⟩
      go_wp2_with fail
      refine (C4.out _).mono ?_
      rintro _ _ ⟨rfl, rfl⟩
      go_wp2
      go_ret
      exact ⟨b_ret_int e.symm, hbe⟩
    · have e : cmp C D = 0 := by unfold cmp; rw [if_neg (by omega), if_neg (by omega)]
      have k2 : ¬ C < D := by omega
      have k3 : ¬ D < C := by omega
      go_enter Tryz.func7, Tryz.ntmps7
      go_wp2_with fail
      refine (C1.out _).mono ?_
      rintro _ _ ⟨rfl, rfl⟩
      go_wp2_with fail
      refine (C2.out _).mono ?_
      rintro _ _ ⟨rfl, rfl⟩
      go_wp2_with fail
      refine (C3.out _).mono ?_
      rintro _ _ ⟨rfl, rfl⟩
      go_wp2_with fail
      refine (C4.out _).mono ?_
      rintro _ _ ⟨rfl, rfl⟩
      clear k
      go_wp2
      go_ret
      exact ⟨b_ret_int e.symm, hbe⟩
    · have e : cmp C D = 1 := by unfold cmp; rw [if_neg (by omega), if_pos k]
      have k2 : ¬ C < D := by omega
      go_enter Tryz.func7, Tryz.ntmps7
      go_wp2_with fail
      refine (C1.out _).mono ?_
      rintro _ _ ⟨rfl, rfl⟩
      go_wp2_with fail
      refine (C2.out _).mono ?_
      rintro _ _ ⟨rfl, rfl⟩
      go_wp2_with fail
      refine (C3.out _).mono ?_
      rintro _ _ ⟨rfl, rfl⟩
      go_wp2_with fail
      refine (C4.out _).mono ?_
      rintro _ _ ⟨rfl, rfl⟩
      go_wp2
      go_ret
      exact ⟨b_ret_int e.symm, hbe⟩
  · rw [if_neg h]
    rcases Int.lt_trichotomy A B with k | k | k
    · have e : cmp A B = -1 := by unfold cmp; rw [if_pos k]
      go_enter Tryz.func7, Tryz.ntmps7
      go_wp2_with fail
      refine (C1.out _).mono ?_
      rintro _ _ ⟨rfl, rfl⟩
      go_wp2_with fail
      refine (C2.out _).mono ?_
      rintro _ _ ⟨rfl, rfl⟩
      go_wp2
      go_ret
      exact ⟨b_ret_int e.symm, hbe⟩
    · omega
    · have e : cmp A B = 1 := by unfold cmp; rw [if_neg (by omega), if_pos k]
      have k2 : ¬ A < B := by omega
      go_enter Tryz.func7, Tryz.ntmps7
      go_wp2_with fail
      refine (C1.out _).mono ?_
      rintro _ _ ⟨rfl, rfl⟩
      go_wp2_with fail
      refine (C2.out _).mono ?_
      rintro _ _ ⟨rfl, rfl⟩
      go_wp2
      go_ret
      exact ⟨b_ret_int e.symm, hbe⟩
theorem q0_rg {b : Int} (hb : rng b) : q0 b = 0 ↔ rg b = 0 := by
  unfold rng at hb; unfold q0 rg
  repeat' split
  all_goals omega
end Go.Proofs.YtcpjdgfnblkfpaaGreatDoor
