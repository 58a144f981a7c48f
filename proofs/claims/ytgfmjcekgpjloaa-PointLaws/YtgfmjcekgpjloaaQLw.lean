/-
  plumblaw9.PointLaws: what its calls answer.
-/
import Derived.Test.YtgfmjcekgpjloaaQTop
import Derived.Test.YtgfmjcekgpjloaaQShut
namespace Go.Proofs.Ytgfmjcekgpjloaa.pointLaws
open Go Go.ChangeShapes Go.WideShapes Go.ChangeAt Go.RowKit Go.Proofs.Ytgfmjcekgpjloaa Go.Proofs.Ytgfmjcekgpjloaa.M
set_option linter.unusedSimpArgs false
set_option linter.unusedVariables false

theorem pcmp_back (ax ay bx by' : Int) : pcmp bx by' ax ay = - pcmp ax ay bx by' := by
  unfold pcmp cmp
  repeat' split
  all_goals omega
theorem pcmp_trans (ax ay bx by' cx cy : Int) : (pcmp ax ay bx by' ≤ 0 → pcmp bx by' cx cy ≤ 0 → pcmp ax ay cx cy ≤ 0) ∧ (pcmp ax ay bx by' < 0 → pcmp bx by' cx cy ≤ 0 → pcmp ax ay cx cy < 0) := by
  unfold pcmp
  generalize key ax = A
  generalize key ay = B
  generalize key bx = C
  generalize key by' = D
  generalize key cx = E
  generalize key cy = F
  unfold cmp
  refine ⟨?_, ?_⟩
  all_goals
    repeat' split
    all_goals omega
theorem heap3 (w : World) (a b c : Obj) : (((w.alloc a).alloc b).alloc c).heap[w.heap.size]? = some a ∧ (((w.alloc a).alloc b).alloc c).heap[w.heap.size + 1]? = some b ∧ (((w.alloc a).alloc b).alloc c).heap[w.heap.size + 2]? = some c := by
  have h : (((w.alloc a).alloc b).alloc c).heap = ((w.heap.push a).push b).push c := rfl
  rw [h]
  refine ⟨?_, ?_, ?_⟩
  · simp [Array.getElem?_push]
    omega
  · rw [Array.getElem?_push, if_neg (by simp), Array.getElem?_push, if_pos (by simp)]
  · rw [Array.getElem?_push, if_pos (by simp)]
theorem pok_low {n : Int} (h0 : 0 ≤ n) (h1 : n ≤ 9214364837600034816) : pok n = true ∧ rng n ∧ key n = n := by
  refine ⟨?_, by unfold rng; omega, q_key h0⟩
  rw [pok_rg' (by unfold rng; omega)]
  have : rg n = n := by unfold rg; rw [if_neg (by omega)]
  rw [this]; simp; omega
theorem pok_neg {n : Int} (h0 : 0 ≤ n) (h1 : n ≤ 9214364837600034816) : pok (n - 9223372036854775808) = true ∧ rng (n - 9223372036854775808) ∧ key (n - 9223372036854775808) = -n := by
  refine ⟨?_, by unfold rng; omega, ?_⟩
  · rw [pok_rg' (by unfold rng; omega)]
    have : rg (n - 9223372036854775808) = n := by unfold rg; rw [if_pos (by omega)]; omega
    rw [this]; simp; omega
  · unfold key; rw [if_pos (by omega)]; omega
theorem cmp_p {n : Int} (h0 : 0 ≤ n) (h1 : n < 9214364837600034816) (W : World) : Calls Try.prog 8 #[.agg #[.int .i64 n, .int .i64 (-9223372036854775808)], .agg #[.int .i64 n, .int .i64 0]] W fun e w' => e = .returned (.tuple #[.int .i64 0, .int .i64 0]) ∧ Below W.heap.size W w' := by
  obtain ⟨a, b, c⟩ := pok_low h0 (by omega : n ≤ 9214364837600034816)
  have := pointCmp b (show rng (-9223372036854775808) by unfold rng; omega) b (show rng 0 by unfold rng; omega) W
  rw [a, show pok (-9223372036854775808) = true by decide, show pok 0 = true by decide, show pcmp n (-9223372036854775808) n 0 = 0 by unfold pcmp; rw [if_pos rfl]; decide] at this
  exact this
theorem cmp_q {n m : Int} (h0 : 0 ≤ n) (h1 : n < 9214364837600034816) (g0 : 0 ≤ m) (g1 : m < 65536) (W : World) : Calls Try.prog 8 #[.agg #[.int .i64 n, .int .i64 m], .agg #[.int .i64 (n + 1), .int .i64 (-9223372036854775808)]] W fun e w' => e = .returned (.tuple #[.int .i64 (-1), .int .i64 0]) ∧ Below W.heap.size W w' := by
  obtain ⟨a, b, c⟩ := pok_low h0 (by omega : n ≤ 9214364837600034816)
  obtain ⟨a', b', c'⟩ := pok_low (show 0 ≤ n + 1 by omega) (by omega)
  obtain ⟨a2, b2, c2⟩ := pok_low g0 (by omega : m ≤ 9214364837600034816)
  have := pointCmp b b2 b' (show rng (-9223372036854775808) by unfold rng; omega) W
  rw [a, a', a2, show pok (-9223372036854775808) = true by decide, show pcmp n m (n + 1) (-9223372036854775808) = -1 by unfold pcmp; rw [c, c', if_neg (by omega)]; unfold cmp; rw [if_pos (by omega)]] at this
  exact this
theorem cmp_r {n : Int} (h0 : 0 ≤ n) (h1 : n < 9214364837600034816) (W : World) : Calls Try.prog 8 #[.agg #[.int .i64 (n + 1 - 9223372036854775808), .int .i64 0], .agg #[.int .i64 (n - 9223372036854775808), .int .i64 0]] W fun e w' => e = .returned (.tuple #[.int .i64 (-1), .int .i64 0]) ∧ Below W.heap.size W w' := by
  obtain ⟨a, b, c⟩ := pok_neg h0 (by omega : n ≤ 9214364837600034816)
  obtain ⟨a', b', c'⟩ := pok_neg (show 0 ≤ n + 1 by omega) (by omega)
  have r0 : rng 0 := by unfold rng; omega
  have := pointCmp b' r0 b r0 W
  rw [a, a', show pok 0 = true by decide, show pcmp (n + 1 - 9223372036854775808) 0 (n - 9223372036854775808) 0 = -1 by unfold pcmp; rw [c, c', if_neg (by omega)]; unfold cmp; rw [if_pos (by omega)]] at this
  exact this
end Go.Proofs.Ytgfmjcekgpjloaa.pointLaws
