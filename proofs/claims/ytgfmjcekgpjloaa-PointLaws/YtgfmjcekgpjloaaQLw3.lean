/-
  plumblaw9.PointLaws: its walk, case 3.
-/
import Derived.Test.YtgfmjcekgpjloaaQLw
namespace Go.Proofs.Ytgfmjcekgpjloaa.pointLaws
open Go Go.ChangeShapes Go.WideShapes Go.ChangeAt Go.RowKit Go.Proofs.Ytgfmjcekgpjloaa Go.Proofs.Ytgfmjcekgpjloaa.M
set_option linter.unusedSimpArgs false
set_option linter.unusedVariables false

set_option maxRecDepth 100000 in
set_option maxHeartbeats 4000000 in
theorem wA1 (ax ay bx by' cx cy n : Int) (x2 x3 f4 : Int) (w : World) (hn : rng n)
    (C1 : Hid (∀ W, Calls Try.prog 8 #[.agg #[.int .i64 ax, .int .i64 ay], .agg #[.int .i64 bx, .int .i64 by']] W fun e w' => e = .returned (.tuple #[.int .i64 1, .int .i64 0]) ∧ Below W.heap.size W w'))
    (C2 : Hid (∀ W, Calls Try.prog 8 #[.agg #[.int .i64 bx, .int .i64 by'], .agg #[.int .i64 cx, .int .i64 cy]] W fun e w' => e = .returned (.tuple #[.int .i64 x2, .int .i64 0]) ∧ Below W.heap.size W w'))
    (C3 : Hid (∀ W, Calls Try.prog 8 #[.agg #[.int .i64 ax, .int .i64 ay], .agg #[.int .i64 cx, .int .i64 cy]] W fun e w' => e = .returned (.tuple #[.int .i64 x3, .int .i64 0]) ∧ Below W.heap.size W w'))
    (C4 : Hid (∀ W, Calls Try.prog 8 #[.agg #[.int .i64 bx, .int .i64 by'], .agg #[.int .i64 ax, .int .i64 ay]] W fun e w' => e = .returned (.tuple #[.int .i64 (-1), .int .i64 f4]) ∧ Below W.heap.size W w')) :
    Calls Try.prog 5 #[.agg #[.int .i64 ax, .int .i64 ay], .agg #[.int .i64 bx, .int .i64 by'], .agg #[.int .i64 cx, .int .i64 cy], .int .i64 n] w fun e w' => e = .returned (.bool true) ∧ Below w.heap.size w w' := by
  have hm : bits .and .i64 ax 65535 = ax % 65536 := and_i64_mask ax 16 (by omega)
  have hm1 : 0 ≤ ax % 65536 ∧ ax % 65536 < 65536 := by omega
  obtain ⟨p0, p1, p2⟩ := heap3 w (.cells #[.int .i64 ax, .int .i64 ay] 23) (.cells #[.int .i64 bx, .int .i64 by'] 23) (.cells #[.int .i64 cx, .int .i64 cy] 23)
  have hb3 : Below w.heap.size w (((w.alloc (.cells #[.int .i64 ax, .int .i64 ay] 23)).alloc (.cells #[.int .i64 bx, .int .i64 by'] 23)).alloc (.cells #[.int .i64 cx, .int .i64 cy] 23)) := bel_trans (bel_alloc2 w _ _) (bel_alloc _ _)
  have HP : Hid (0 ≤ n ∧ n < 9214364837600034816 → ∀ W, Calls Try.prog 8 #[.agg #[.int .i64 n, .int .i64 (-9223372036854775808)], .agg #[.int .i64 n, .int .i64 0]] W fun e w' => e = .returned (.tuple #[.int .i64 0, .int .i64 0]) ∧ Below W.heap.size W w') := fun h W => cmp_p h.1 h.2 W
  have HQ : Hid (0 ≤ n ∧ n < 9214364837600034816 → ∀ W, Calls Try.prog 8 #[.agg #[.int .i64 n, .int .i64 (ax % 65536)], .agg #[.int .i64 (n + 1), .int .i64 (-9223372036854775808)]] W fun e w' => e = .returned (.tuple #[.int .i64 (-1), .int .i64 0]) ∧ Below W.heap.size W w') := fun h W => cmp_q h.1 h.2 hm1.1 hm1.2 W
  have HR : Hid (0 ≤ n ∧ n < 9214364837600034816 → ∀ W, Calls Try.prog 8 #[.agg #[.int .i64 (n + 1 - 9223372036854775808), .int .i64 0], .agg #[.int .i64 (n - 9223372036854775808), .int .i64 0]] W fun e w' => e = .returned (.tuple #[.int .i64 (-1), .int .i64 0]) ∧ Below W.heap.size W w') := fun h W => cmp_r h.1 h.2 W
  have hO : Hid (0 ≤ n ∧ n < 9214364837600034816 → bits .or .i64 (n + 1) (-9223372036854775808) = n + 1 - 9223372036854775808 ∧ bits .or .i64 n (-9223372036854775808) = n - 9223372036854775808) := fun h => ⟨or_i64_sign _ (by omega) (by omega), or_i64_sign _ (by omega) (by omega)⟩
  clear hm1
  unfold rng at hn
  go_enter Try.func5, Try.ntmps5
  go_wp2_with fail
  generalize ((w.alloc (.cells #[.int .i64 ax, .int .i64 ay] 23)).alloc (.cells #[.int .i64 bx, .int .i64 by'] 23)).alloc (.cells #[.int .i64 cx, .int .i64 cy] 23) = wx at *
  refine (alive9 _).mono ?_
  rintro _ w1 ⟨rfl, hb4⟩
  have q00 := (hb4.block _ (Array.getElem?_eq_some_iff.1 p0).1).trans p0
  have q01 := (hb4.block _ (Array.getElem?_eq_some_iff.1 p1).1).trans p1
  have q02 := (hb4.block _ (Array.getElem?_eq_some_iff.1 p2).1).trans p2
  have c0 := blkC q00 0 rfl
  have c1 := blkC q00 1 rfl
  have c2 := blkC q01 0 rfl
  have c3 := blkC q01 1 rfl
  have c4 := blkC q02 0 rfl
  have c5 := blkC q02 1 rfl
  clear p0 p1 p2 q00 q01 q02
  go_wp2_with fail
  refine (C1.out _).mono ?_
  rintro _ w2 ⟨rfl, hb5⟩
  replace c0 := q_cell c0 hb5
  replace c1 := q_cell c1 hb5
  replace c2 := q_cell c2 hb5
  replace c3 := q_cell c3 hb5
  replace c4 := q_cell c4 hb5
  replace c5 := q_cell c5 hb5
  go_wp2_with fail
  refine (C2.out _).mono ?_
  rintro _ w3 ⟨rfl, hb6⟩
  replace c0 := q_cell c0 hb6
  replace c1 := q_cell c1 hb6
  replace c2 := q_cell c2 hb6
  replace c3 := q_cell c3 hb6
  replace c4 := q_cell c4 hb6
  replace c5 := q_cell c5 hb6
  go_wp2_with fail
  refine (C3.out _).mono ?_
  rintro _ w4 ⟨rfl, hb7⟩
  replace c0 := q_cell c0 hb7
  replace c1 := q_cell c1 hb7
  replace c2 := q_cell c2 hb7
  replace c3 := q_cell c3 hb7
  clear c4 c5
  go_wp2_with fail
  refine (C4.out _).mono ?_
  rintro _ w5 ⟨rfl, hb8⟩
  replace c0 := q_cell c0 hb8
  have hbw := bel_trans hb3 (bel_trans hb4 (bel_trans hb5 (bel_trans hb6 (bel_trans hb7 hb8))))
  clear c1 c2 c3 C1 C2 C3 C4 hb3 hb4 hb5 hb6 hb7 hb8
  by_cases n0 : n < 0
  · go_wp2_with (go_at_call 10; refine (q_num _ _).mono ?_; rintro _ _ ⟨rfl, rfl⟩)
    go_ret
    exact ⟨rfl, hbw⟩
  by_cases n1 : 9214364837600034816 ≤ n
  · go_wp2_with (go_at_call 10; refine (q_num _ _).mono ?_; rintro _ _ ⟨rfl, rfl⟩)
    go_ret
    exact ⟨rfl, hbw⟩
  obtain ⟨o1, o2⟩ := hO.out ⟨by omega, by omega⟩
  have KP : Hid (∀ W, Calls Try.prog 8 #[.agg #[.int .i64 n, .int .i64 (-9223372036854775808)], .agg #[.int .i64 n, .int .i64 0]] W fun e w' => e = .returned (.tuple #[.int .i64 0, .int .i64 0]) ∧ Below W.heap.size W w') := HP.out ⟨by omega, by omega⟩
  have KQ : Hid (∀ W, Calls Try.prog 8 #[.agg #[.int .i64 n, .int .i64 (ax % 65536)], .agg #[.int .i64 (n + 1), .int .i64 (-9223372036854775808)]] W fun e w' => e = .returned (.tuple #[.int .i64 (-1), .int .i64 0]) ∧ Below W.heap.size W w') := HQ.out ⟨by omega, by omega⟩
  have KR : Hid (∀ W, Calls Try.prog 8 #[.agg #[.int .i64 (n + 1 - 9223372036854775808), .int .i64 0], .agg #[.int .i64 (n - 9223372036854775808), .int .i64 0]] W fun e w' => e = .returned (.tuple #[.int .i64 (-1), .int .i64 0]) ∧ Below W.heap.size W w') := HR.out ⟨by omega, by omega⟩
  clear HP HQ HR hO
  go_wp2_with (go_at_call 10; refine (q_num _ _).mono ?_; rintro _ _ ⟨rfl, rfl⟩)
  refine (KP.out _).mono ?_
  rintro _ w6 ⟨rfl, hb9⟩
  replace c0 := q_cell c0 hb9
  go_wp2_with fail
  refine (KQ.out _).mono ?_
  rintro _ w7 ⟨rfl, hb10⟩
  go_wp2_with fail
  refine (KR.out _).mono ?_
  rintro _ w8 ⟨rfl, hb11⟩
  go_wp2_with (go_at_call 10; refine (q_num _ _).mono ?_; rintro _ _ ⟨rfl, rfl⟩)
  go_ret
  exact ⟨rfl, bel_trans hbw (bel_trans hb9 (bel_trans hb10 hb11))⟩
end Go.Proofs.Ytgfmjcekgpjloaa.pointLaws
