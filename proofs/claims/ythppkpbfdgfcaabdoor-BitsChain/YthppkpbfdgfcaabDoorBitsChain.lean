/-
  Proved: at any three ints, plumblaw1.BitsChain answers true: bits.Order is an order of all patterns, by value wherever values differ; where the two layouts lie as the program's text lays them.
-/
import Derived.Test.YthppkpbfdgfcaabDoorCards
import Derived.Test.YthppkpbfdgfcaabDoorTie
import Derived.Test.YthppkpbfdgfcaabDoorLaid
import Derived.Test.YthppkpbfdgfcaabDoorOrder
import Derived.Test.YthppkpbfdgfcaabDoorMathN
import Derived.OpenShut
namespace Go.Proofs.YthppkpbfdgfcaabDoor.bitsChain
open Go Go.ChangeShapes Go.WideShapes Go.ChangeAt Go.RowKit Go.Proofs.YthppkpbfdgfcaabDoor Go.Proofs.YthppkpbfdgfcaabDoor.M
set_option linter.unusedSimpArgs false
set_option linter.unusedVariables false


theorem way0 (a b c : Int) (ha : rng a) (hb : rng b) (hc : rng c) (w : World) (L : Lays w) (hx : ord a b = -1) (hy : ord b a = 1) (hla : less a b = true) (hlb : less b a = false) (ka : (cls a == 4) = false) (na : (cls a != 4) = true) (nb : (cls b != 4) = true) (s1 : same a a = true) (s2 : same a b = false) (hbc : ord b c ≤ 0) (hac : ord a c ≤ 0) :
    Calls Tryd.prog 8 #[.int .i64 a, .int .i64 b, .int .i64 c] w fun e w' => e = .returned (.bool true) ∧ Grown w w' := by
  go_enter Tryd.func8, Tryd.ntmps8
  go_wp2_with fail
  refine (bitsOrd _ _ _ L ha hb).mono ?_
  rintro e w1 ⟨rfl, g1⟩
  have L1 := L.grown g1
  go_wp2_with fail
  refine (alive _ L1).mono ?_
  rintro e w2 ⟨rfl, g2⟩
  have L2 := L1.grown g2
  go_wp2_with fail
  refine (bitsOrd _ _ _ L2 hb ha).mono ?_
  rintro e w3 ⟨rfl, g3⟩
  have L3 := L2.grown g3
  go_wp2_with fail
  refine (bitsLess _ _ _ ha hb).mono ?_
  rintro e w0 ⟨rfl, rfl⟩
  go_wp2_with fail
  refine (bitsLess _ _ _ hb ha).mono ?_
  rintro e w0 ⟨rfl, rfl⟩
  go_wp2_with fail
  refine (bitsOrd _ _ _ L3 hb hc).mono ?_
  rintro e w4 ⟨rfl, g4⟩
  have L4 := L3.grown g4
  go_wp2_with fail
  refine (bitsOrd _ _ _ L4 ha hc).mono ?_
  rintro e w5 ⟨rfl, g5⟩
  have L5 := L4.grown g5
  go_wp2_with fail
  refine (bitsSame _ _ _ ha ha).mono ?_
  rintro e w0 ⟨rfl, rfl⟩
  go_wp2_with fail
  refine (bitsClass _ _ L5).mono ?_
  rintro e w6 ⟨rfl, g6⟩
  have L6 := L5.grown g6
  go_wp2_with fail
  refine (bitsSame _ _ _ ha hb).mono ?_
  rintro e w0 ⟨rfl, rfl⟩
  go_wp2_with fail
  refine (bitsClass _ _ L6).mono ?_
  rintro e w7 ⟨rfl, g7⟩
  have L7 := L6.grown g7
  go_wp2_with fail
  refine (bitsClass _ _ L7).mono ?_
  rintro e w8 ⟨rfl, g8⟩
  have L8 := L7.grown g8
  go_wp2_with fail
  refine (bitsLess _ _ _ ha hb).mono ?_
  rintro e w0 ⟨rfl, rfl⟩
  go_wp2
  go_ret
  exact ⟨rfl, (gTrans (gTrans (gTrans (gTrans (gTrans (gTrans (gTrans g1 g2) g3) g4) g5) g6) g7) g8)⟩

theorem way1 (a b c : Int) (ha : rng a) (hb : rng b) (hc : rng c) (w : World) (L : Lays w) (hx : ord a b = -1) (hy : ord b a = 1) (hla : less a b = true) (hlb : less b a = false) (ka : (cls a == 4) = false) (na : (cls a != 4) = true) (nb : (cls b != 4) = true) (s1 : same a a = true) (s2 : same a b = false) (hbc : 0 < ord b c) :
    Calls Tryd.prog 8 #[.int .i64 a, .int .i64 b, .int .i64 c] w fun e w' => e = .returned (.bool true) ∧ Grown w w' := by
  go_enter Tryd.func8, Tryd.ntmps8
  go_wp2_with fail
  refine (bitsOrd _ _ _ L ha hb).mono ?_
  rintro e w1 ⟨rfl, g1⟩
  have L1 := L.grown g1
  go_wp2_with fail
  refine (alive _ L1).mono ?_
  rintro e w2 ⟨rfl, g2⟩
  have L2 := L1.grown g2
  go_wp2_with fail
  refine (bitsOrd _ _ _ L2 hb ha).mono ?_
  rintro e w3 ⟨rfl, g3⟩
  have L3 := L2.grown g3
  go_wp2_with fail
  refine (bitsLess _ _ _ ha hb).mono ?_
  rintro e w0 ⟨rfl, rfl⟩
  go_wp2_with fail
  refine (bitsLess _ _ _ hb ha).mono ?_
  rintro e w0 ⟨rfl, rfl⟩
  go_wp2_with fail
  refine (bitsOrd _ _ _ L3 hb hc).mono ?_
  rintro e w4 ⟨rfl, g4⟩
  have L4 := L3.grown g4
  go_wp2_with fail
  refine (bitsSame _ _ _ ha ha).mono ?_
  rintro e w0 ⟨rfl, rfl⟩
  go_wp2_with fail
  refine (bitsClass _ _ L4).mono ?_
  rintro e w5 ⟨rfl, g5⟩
  have L5 := L4.grown g5
  go_wp2_with fail
  refine (bitsSame _ _ _ ha hb).mono ?_
  rintro e w0 ⟨rfl, rfl⟩
  go_wp2_with fail
  refine (bitsClass _ _ L5).mono ?_
  rintro e w6 ⟨rfl, g6⟩
  have L6 := L5.grown g6
  go_wp2_with fail
  refine (bitsClass _ _ L6).mono ?_
  rintro e w7 ⟨rfl, g7⟩
  have L7 := L6.grown g7
  go_wp2_with fail
  refine (bitsLess _ _ _ ha hb).mono ?_
  rintro e w0 ⟨rfl, rfl⟩
  go_wp2
  go_ret
  exact ⟨rfl, (gTrans (gTrans (gTrans (gTrans (gTrans (gTrans g1 g2) g3) g4) g5) g6) g7)⟩

theorem way2 (a b c : Int) (ha : rng a) (hb : rng b) (hc : rng c) (w : World) (L : Lays w) (hx : ord a b = -1) (hy : ord b a = 1) (hla : less a b = false) (hlb : less b a = false) (ka : (cls a == 4) = false) (na : (cls a != 4) = true) (nb : (cls b != 4) = true) (s1 : same a a = true) (s2 : same a b = true) (hbc : ord b c ≤ 0) (hac : ord a c ≤ 0) :
    Calls Tryd.prog 8 #[.int .i64 a, .int .i64 b, .int .i64 c] w fun e w' => e = .returned (.bool true) ∧ Grown w w' := by
  go_enter Tryd.func8, Tryd.ntmps8
  go_wp2_with fail
  refine (bitsOrd _ _ _ L ha hb).mono ?_
  rintro e w1 ⟨rfl, g1⟩
  have L1 := L.grown g1
  go_wp2_with fail
  refine (alive _ L1).mono ?_
  rintro e w2 ⟨rfl, g2⟩
  have L2 := L1.grown g2
  go_wp2_with fail
  refine (bitsOrd _ _ _ L2 hb ha).mono ?_
  rintro e w3 ⟨rfl, g3⟩
  have L3 := L2.grown g3
  go_wp2_with fail
  refine (bitsLess _ _ _ ha hb).mono ?_
  rintro e w0 ⟨rfl, rfl⟩
  go_wp2_with fail
  refine (bitsLess _ _ _ hb ha).mono ?_
  rintro e w0 ⟨rfl, rfl⟩
  go_wp2_with fail
  refine (bitsOrd _ _ _ L3 hb hc).mono ?_
  rintro e w4 ⟨rfl, g4⟩
  have L4 := L3.grown g4
  go_wp2_with fail
  refine (bitsOrd _ _ _ L4 ha hc).mono ?_
  rintro e w5 ⟨rfl, g5⟩
  have L5 := L4.grown g5
  go_wp2_with fail
  refine (bitsSame _ _ _ ha ha).mono ?_
  rintro e w0 ⟨rfl, rfl⟩
  go_wp2_with fail
  refine (bitsClass _ _ L5).mono ?_
  rintro e w6 ⟨rfl, g6⟩
  have L6 := L5.grown g6
  go_wp2_with fail
  refine (bitsSame _ _ _ ha hb).mono ?_
  rintro e w0 ⟨rfl, rfl⟩
  go_wp2_with fail
  refine (bitsClass _ _ L6).mono ?_
  rintro e w7 ⟨rfl, g7⟩
  have L7 := L6.grown g7
  go_wp2_with fail
  refine (bitsClass _ _ L7).mono ?_
  rintro e w8 ⟨rfl, g8⟩
  have L8 := L7.grown g8
  go_wp2_with fail
  refine (bitsLess _ _ _ ha hb).mono ?_
  rintro e w0 ⟨rfl, rfl⟩
  go_wp2_with fail
  refine (bitsLess _ _ _ hb ha).mono ?_
  rintro e w0 ⟨rfl, rfl⟩
  go_wp2
  go_ret
  exact ⟨rfl, (gTrans (gTrans (gTrans (gTrans (gTrans (gTrans (gTrans g1 g2) g3) g4) g5) g6) g7) g8)⟩

theorem way3 (a b c : Int) (ha : rng a) (hb : rng b) (hc : rng c) (w : World) (L : Lays w) (hx : ord a b = -1) (hy : ord b a = 1) (hla : less a b = false) (hlb : less b a = false) (ka : (cls a == 4) = false) (na : (cls a != 4) = true) (nb : (cls b != 4) = false) (s1 : same a a = true) (s2 : same a b = false) (hbc : ord b c ≤ 0) (hac : ord a c ≤ 0) :
    Calls Tryd.prog 8 #[.int .i64 a, .int .i64 b, .int .i64 c] w fun e w' => e = .returned (.bool true) ∧ Grown w w' := by
  go_enter Tryd.func8, Tryd.ntmps8
  go_wp2_with fail
  refine (bitsOrd _ _ _ L ha hb).mono ?_
  rintro e w1 ⟨rfl, g1⟩
  have L1 := L.grown g1
  go_wp2_with fail
  refine (alive _ L1).mono ?_
  rintro e w2 ⟨rfl, g2⟩
  have L2 := L1.grown g2
  go_wp2_with fail
  refine (bitsOrd _ _ _ L2 hb ha).mono ?_
  rintro e w3 ⟨rfl, g3⟩
  have L3 := L2.grown g3
  go_wp2_with fail
  refine (bitsLess _ _ _ ha hb).mono ?_
  rintro e w0 ⟨rfl, rfl⟩
  go_wp2_with fail
  refine (bitsLess _ _ _ hb ha).mono ?_
  rintro e w0 ⟨rfl, rfl⟩
  go_wp2_with fail
  refine (bitsOrd _ _ _ L3 hb hc).mono ?_
  rintro e w4 ⟨rfl, g4⟩
  have L4 := L3.grown g4
  go_wp2_with fail
  refine (bitsOrd _ _ _ L4 ha hc).mono ?_
  rintro e w5 ⟨rfl, g5⟩
  have L5 := L4.grown g5
  go_wp2_with fail
  refine (bitsSame _ _ _ ha ha).mono ?_
  rintro e w0 ⟨rfl, rfl⟩
  go_wp2_with fail
  refine (bitsClass _ _ L5).mono ?_
  rintro e w6 ⟨rfl, g6⟩
  have L6 := L5.grown g6
  go_wp2_with fail
  refine (bitsSame _ _ _ ha hb).mono ?_
  rintro e w0 ⟨rfl, rfl⟩
  go_wp2_with fail
  refine (bitsClass _ _ L6).mono ?_
  rintro e w7 ⟨rfl, g7⟩
  have L7 := L6.grown g7
  go_wp2_with fail
  refine (bitsClass _ _ L7).mono ?_
  rintro e w8 ⟨rfl, g8⟩
  have L8 := L7.grown g8
  go_wp2
  go_ret
  exact ⟨rfl, (gTrans (gTrans (gTrans (gTrans (gTrans (gTrans (gTrans g1 g2) g3) g4) g5) g6) g7) g8)⟩

theorem way4 (a b c : Int) (ha : rng a) (hb : rng b) (hc : rng c) (w : World) (L : Lays w) (hx : ord a b = -1) (hy : ord b a = 1) (hla : less a b = false) (hlb : less b a = false) (ka : (cls a == 4) = true) (na : (cls a != 4) = false) (nb : (cls b != 4) = true) (s1 : same a a = false) (s2 : same a b = false) (hbc : ord b c ≤ 0) (hac : ord a c ≤ 0) :
    Calls Tryd.prog 8 #[.int .i64 a, .int .i64 b, .int .i64 c] w fun e w' => e = .returned (.bool true) ∧ Grown w w' := by
  go_enter Tryd.func8, Tryd.ntmps8
  go_wp2_with fail
  refine (bitsOrd _ _ _ L ha hb).mono ?_
  rintro e w1 ⟨rfl, g1⟩
  have L1 := L.grown g1
  go_wp2_with fail
  refine (alive _ L1).mono ?_
  rintro e w2 ⟨rfl, g2⟩
  have L2 := L1.grown g2
  go_wp2_with fail
  refine (bitsOrd _ _ _ L2 hb ha).mono ?_
  rintro e w3 ⟨rfl, g3⟩
  have L3 := L2.grown g3
  go_wp2_with fail
  refine (bitsLess _ _ _ ha hb).mono ?_
  rintro e w0 ⟨rfl, rfl⟩
  go_wp2_with fail
  refine (bitsLess _ _ _ hb ha).mono ?_
  rintro e w0 ⟨rfl, rfl⟩
  go_wp2_with fail
  refine (bitsOrd _ _ _ L3 hb hc).mono ?_
  rintro e w4 ⟨rfl, g4⟩
  have L4 := L3.grown g4
  go_wp2_with fail
  refine (bitsOrd _ _ _ L4 ha hc).mono ?_
  rintro e w5 ⟨rfl, g5⟩
  have L5 := L4.grown g5
  go_wp2_with fail
  refine (bitsSame _ _ _ ha ha).mono ?_
  rintro e w0 ⟨rfl, rfl⟩
  go_wp2_with fail
  refine (bitsClass _ _ L5).mono ?_
  rintro e w6 ⟨rfl, g6⟩
  have L6 := L5.grown g6
  go_wp2_with fail
  refine (bitsSame _ _ _ ha hb).mono ?_
  rintro e w0 ⟨rfl, rfl⟩
  go_wp2_with fail
  refine (bitsClass _ _ L6).mono ?_
  rintro e w7 ⟨rfl, g7⟩
  have L7 := L6.grown g7
  go_wp2
  go_ret
  exact ⟨rfl, (gTrans (gTrans (gTrans (gTrans (gTrans (gTrans g1 g2) g3) g4) g5) g6) g7)⟩

theorem way5 (a b c : Int) (ha : rng a) (hb : rng b) (hc : rng c) (w : World) (L : Lays w) (hx : ord a b = -1) (hy : ord b a = 1) (hla : less a b = false) (hlb : less b a = false) (ka : (cls a == 4) = true) (na : (cls a != 4) = false) (nb : (cls b != 4) = false) (s1 : same a a = false) (s2 : same a b = false) (hbc : ord b c ≤ 0) (hac : ord a c ≤ 0) :
    Calls Tryd.prog 8 #[.int .i64 a, .int .i64 b, .int .i64 c] w fun e w' => e = .returned (.bool true) ∧ Grown w w' := by
  go_enter Tryd.func8, Tryd.ntmps8
  go_wp2_with fail
  refine (bitsOrd _ _ _ L ha hb).mono ?_
  rintro e w1 ⟨rfl, g1⟩
  have L1 := L.grown g1
  go_wp2_with fail
  refine (alive _ L1).mono ?_
  rintro e w2 ⟨rfl, g2⟩
  have L2 := L1.grown g2
  go_wp2_with fail
  refine (bitsOrd _ _ _ L2 hb ha).mono ?_
  rintro e w3 ⟨rfl, g3⟩
  have L3 := L2.grown g3
  go_wp2_with fail
  refine (bitsLess _ _ _ ha hb).mono ?_
  rintro e w0 ⟨rfl, rfl⟩
  go_wp2_with fail
  refine (bitsLess _ _ _ hb ha).mono ?_
  rintro e w0 ⟨rfl, rfl⟩
  go_wp2_with fail
  refine (bitsOrd _ _ _ L3 hb hc).mono ?_
  rintro e w4 ⟨rfl, g4⟩
  have L4 := L3.grown g4
  go_wp2_with fail
  refine (bitsOrd _ _ _ L4 ha hc).mono ?_
  rintro e w5 ⟨rfl, g5⟩
  have L5 := L4.grown g5
  go_wp2_with fail
  refine (bitsSame _ _ _ ha ha).mono ?_
  rintro e w0 ⟨rfl, rfl⟩
  go_wp2_with fail
  refine (bitsClass _ _ L5).mono ?_
  rintro e w6 ⟨rfl, g6⟩
  have L6 := L5.grown g6
  go_wp2_with fail
  refine (bitsSame _ _ _ ha hb).mono ?_
  rintro e w0 ⟨rfl, rfl⟩
  go_wp2_with fail
  refine (bitsClass _ _ L6).mono ?_
  rintro e w7 ⟨rfl, g7⟩
  have L7 := L6.grown g7
  go_wp2
  go_ret
  exact ⟨rfl, (gTrans (gTrans (gTrans (gTrans (gTrans (gTrans g1 g2) g3) g4) g5) g6) g7)⟩

theorem way6 (a b c : Int) (ha : rng a) (hb : rng b) (hc : rng c) (w : World) (L : Lays w) (hx : ord a b = -1) (hy : ord b a = 1) (hla : less a b = false) (hlb : less b a = false) (ka : (cls a == 4) = false) (na : (cls a != 4) = true) (nb : (cls b != 4) = true) (s1 : same a a = true) (s2 : same a b = true) (hbc : 0 < ord b c) :
    Calls Tryd.prog 8 #[.int .i64 a, .int .i64 b, .int .i64 c] w fun e w' => e = .returned (.bool true) ∧ Grown w w' := by
  go_enter Tryd.func8, Tryd.ntmps8
  go_wp2_with fail
  refine (bitsOrd _ _ _ L ha hb).mono ?_
  rintro e w1 ⟨rfl, g1⟩
  have L1 := L.grown g1
  go_wp2_with fail
  refine (alive _ L1).mono ?_
  rintro e w2 ⟨rfl, g2⟩
  have L2 := L1.grown g2
  go_wp2_with fail
  refine (bitsOrd _ _ _ L2 hb ha).mono ?_
  rintro e w3 ⟨rfl, g3⟩
  have L3 := L2.grown g3
  go_wp2_with fail
  refine (bitsLess _ _ _ ha hb).mono ?_
  rintro e w0 ⟨rfl, rfl⟩
  go_wp2_with fail
  refine (bitsLess _ _ _ hb ha).mono ?_
  rintro e w0 ⟨rfl, rfl⟩
  go_wp2_with fail
  refine (bitsOrd _ _ _ L3 hb hc).mono ?_
  rintro e w4 ⟨rfl, g4⟩
  have L4 := L3.grown g4
  go_wp2_with fail
  refine (bitsSame _ _ _ ha ha).mono ?_
  rintro e w0 ⟨rfl, rfl⟩
  go_wp2_with fail
  refine (bitsClass _ _ L4).mono ?_
  rintro e w5 ⟨rfl, g5⟩
  have L5 := L4.grown g5
  go_wp2_with fail
  refine (bitsSame _ _ _ ha hb).mono ?_
  rintro e w0 ⟨rfl, rfl⟩
  go_wp2_with fail
  refine (bitsClass _ _ L5).mono ?_
  rintro e w6 ⟨rfl, g6⟩
  have L6 := L5.grown g6
  go_wp2_with fail
  refine (bitsClass _ _ L6).mono ?_
  rintro e w7 ⟨rfl, g7⟩
  have L7 := L6.grown g7
  go_wp2_with fail
  refine (bitsLess _ _ _ ha hb).mono ?_
  rintro e w0 ⟨rfl, rfl⟩
  go_wp2_with fail
  refine (bitsLess _ _ _ hb ha).mono ?_
  rintro e w0 ⟨rfl, rfl⟩
  go_wp2
  go_ret
  exact ⟨rfl, (gTrans (gTrans (gTrans (gTrans (gTrans (gTrans g1 g2) g3) g4) g5) g6) g7)⟩

theorem way7 (a b c : Int) (ha : rng a) (hb : rng b) (hc : rng c) (w : World) (L : Lays w) (hx : ord a b = -1) (hy : ord b a = 1) (hla : less a b = false) (hlb : less b a = false) (ka : (cls a == 4) = false) (na : (cls a != 4) = true) (nb : (cls b != 4) = false) (s1 : same a a = true) (s2 : same a b = false) (hbc : 0 < ord b c) :
    Calls Tryd.prog 8 #[.int .i64 a, .int .i64 b, .int .i64 c] w fun e w' => e = .returned (.bool true) ∧ Grown w w' := by
  go_enter Tryd.func8, Tryd.ntmps8
  go_wp2_with fail
  refine (bitsOrd _ _ _ L ha hb).mono ?_
  rintro e w1 ⟨rfl, g1⟩
  have L1 := L.grown g1
  go_wp2_with fail
  refine (alive _ L1).mono ?_
  rintro e w2 ⟨rfl, g2⟩
  have L2 := L1.grown g2
  go_wp2_with fail
  refine (bitsOrd _ _ _ L2 hb ha).mono ?_
  rintro e w3 ⟨rfl, g3⟩
  have L3 := L2.grown g3
  go_wp2_with fail
  refine (bitsLess _ _ _ ha hb).mono ?_
  rintro e w0 ⟨rfl, rfl⟩
  go_wp2_with fail
  refine (bitsLess _ _ _ hb ha).mono ?_
  rintro e w0 ⟨rfl, rfl⟩
  go_wp2_with fail
  refine (bitsOrd _ _ _ L3 hb hc).mono ?_
  rintro e w4 ⟨rfl, g4⟩
  have L4 := L3.grown g4
  go_wp2_with fail
  refine (bitsSame _ _ _ ha ha).mono ?_
  rintro e w0 ⟨rfl, rfl⟩
  go_wp2_with fail
  refine (bitsClass _ _ L4).mono ?_
  rintro e w5 ⟨rfl, g5⟩
  have L5 := L4.grown g5
  go_wp2_with fail
  refine (bitsSame _ _ _ ha hb).mono ?_
  rintro e w0 ⟨rfl, rfl⟩
  go_wp2_with fail
  refine (bitsClass _ _ L5).mono ?_
  rintro e w6 ⟨rfl, g6⟩
  have L6 := L5.grown g6
  go_wp2_with fail
  refine (bitsClass _ _ L6).mono ?_
  rintro e w7 ⟨rfl, g7⟩
  have L7 := L6.grown g7
  go_wp2
  go_ret
  exact ⟨rfl, (gTrans (gTrans (gTrans (gTrans (gTrans (gTrans g1 g2) g3) g4) g5) g6) g7)⟩

theorem way8 (a b c : Int) (ha : rng a) (hb : rng b) (hc : rng c) (w : World) (L : Lays w) (hx : ord a b = -1) (hy : ord b a = 1) (hla : less a b = false) (hlb : less b a = false) (ka : (cls a == 4) = true) (na : (cls a != 4) = false) (nb : (cls b != 4) = true) (s1 : same a a = false) (s2 : same a b = false) (hbc : 0 < ord b c) :
    Calls Tryd.prog 8 #[.int .i64 a, .int .i64 b, .int .i64 c] w fun e w' => e = .returned (.bool true) ∧ Grown w w' := by
  go_enter Tryd.func8, Tryd.ntmps8
  go_wp2_with fail
  refine (bitsOrd _ _ _ L ha hb).mono ?_
  rintro e w1 ⟨rfl, g1⟩
  have L1 := L.grown g1
  go_wp2_with fail
  refine (alive _ L1).mono ?_
  rintro e w2 ⟨rfl, g2⟩
  have L2 := L1.grown g2
  go_wp2_with fail
  refine (bitsOrd _ _ _ L2 hb ha).mono ?_
  rintro e w3 ⟨rfl, g3⟩
  have L3 := L2.grown g3
  go_wp2_with fail
  refine (bitsLess _ _ _ ha hb).mono ?_
  rintro e w0 ⟨rfl, rfl⟩
  go_wp2_with fail
  refine (bitsLess _ _ _ hb ha).mono ?_
  rintro e w0 ⟨rfl, rfl⟩
  go_wp2_with fail
  refine (bitsOrd _ _ _ L3 hb hc).mono ?_
  rintro e w4 ⟨rfl, g4⟩
  have L4 := L3.grown g4
  go_wp2_with fail
  refine (bitsSame _ _ _ ha ha).mono ?_
  rintro e w0 ⟨rfl, rfl⟩
  go_wp2_with fail
  refine (bitsClass _ _ L4).mono ?_
  rintro e w5 ⟨rfl, g5⟩
  have L5 := L4.grown g5
  go_wp2_with fail
  refine (bitsSame _ _ _ ha hb).mono ?_
  rintro e w0 ⟨rfl, rfl⟩
  go_wp2_with fail
  refine (bitsClass _ _ L5).mono ?_
  rintro e w6 ⟨rfl, g6⟩
  have L6 := L5.grown g6
  go_wp2
  go_ret
  exact ⟨rfl, (gTrans (gTrans (gTrans (gTrans (gTrans g1 g2) g3) g4) g5) g6)⟩

theorem way9 (a b c : Int) (ha : rng a) (hb : rng b) (hc : rng c) (w : World) (L : Lays w) (hx : ord a b = -1) (hy : ord b a = 1) (hla : less a b = false) (hlb : less b a = false) (ka : (cls a == 4) = true) (na : (cls a != 4) = false) (nb : (cls b != 4) = false) (s1 : same a a = false) (s2 : same a b = false) (hbc : 0 < ord b c) :
    Calls Tryd.prog 8 #[.int .i64 a, .int .i64 b, .int .i64 c] w fun e w' => e = .returned (.bool true) ∧ Grown w w' := by
  go_enter Tryd.func8, Tryd.ntmps8
  go_wp2_with fail
  refine (bitsOrd _ _ _ L ha hb).mono ?_
  rintro e w1 ⟨rfl, g1⟩
  have L1 := L.grown g1
  go_wp2_with fail
  refine (alive _ L1).mono ?_
  rintro e w2 ⟨rfl, g2⟩
  have L2 := L1.grown g2
  go_wp2_with fail
  refine (bitsOrd _ _ _ L2 hb ha).mono ?_
  rintro e w3 ⟨rfl, g3⟩
  have L3 := L2.grown g3
  go_wp2_with fail
  refine (bitsLess _ _ _ ha hb).mono ?_
  rintro e w0 ⟨rfl, rfl⟩
  go_wp2_with fail
  refine (bitsLess _ _ _ hb ha).mono ?_
  rintro e w0 ⟨rfl, rfl⟩
  go_wp2_with fail
  refine (bitsOrd _ _ _ L3 hb hc).mono ?_
  rintro e w4 ⟨rfl, g4⟩
  have L4 := L3.grown g4
  go_wp2_with fail
  refine (bitsSame _ _ _ ha ha).mono ?_
  rintro e w0 ⟨rfl, rfl⟩
  go_wp2_with fail
  refine (bitsClass _ _ L4).mono ?_
  rintro e w5 ⟨rfl, g5⟩
  have L5 := L4.grown g5
  go_wp2_with fail
  refine (bitsSame _ _ _ ha hb).mono ?_
  rintro e w0 ⟨rfl, rfl⟩
  go_wp2_with fail
  refine (bitsClass _ _ L5).mono ?_
  rintro e w6 ⟨rfl, g6⟩
  have L6 := L5.grown g6
  go_wp2
  go_ret
  exact ⟨rfl, (gTrans (gTrans (gTrans (gTrans (gTrans g1 g2) g3) g4) g5) g6)⟩

theorem way10 (a b c : Int) (ha : rng a) (hb : rng b) (hc : rng c) (w : World) (L : Lays w) (hx : ord a b = 0) (hy : ord b a = 0) (hla : less a b = false) (hlb : less b a = false) (ka : (cls a == 4) = false) (na : (cls a != 4) = true) (nb : (cls b != 4) = true) (s1 : same a a = true) (s2 : same a b = true) (hbc : ord b c ≤ 0) (hac : ord a c ≤ 0) :
    Calls Tryd.prog 8 #[.int .i64 a, .int .i64 b, .int .i64 c] w fun e w' => e = .returned (.bool true) ∧ Grown w w' := by
  go_enter Tryd.func8, Tryd.ntmps8
  go_wp2_with fail
  refine (bitsOrd _ _ _ L ha hb).mono ?_
  rintro e w1 ⟨rfl, g1⟩
  have L1 := L.grown g1
  go_wp2_with fail
  refine (alive _ L1).mono ?_
  rintro e w2 ⟨rfl, g2⟩
  have L2 := L1.grown g2
  go_wp2_with fail
  refine (bitsOrd _ _ _ L2 hb ha).mono ?_
  rintro e w3 ⟨rfl, g3⟩
  have L3 := L2.grown g3
  go_wp2_with fail
  refine (bitsLess _ _ _ ha hb).mono ?_
  rintro e w0 ⟨rfl, rfl⟩
  go_wp2_with fail
  refine (bitsLess _ _ _ hb ha).mono ?_
  rintro e w0 ⟨rfl, rfl⟩
  go_wp2_with fail
  refine (bitsOrd _ _ _ L3 hb hc).mono ?_
  rintro e w4 ⟨rfl, g4⟩
  have L4 := L3.grown g4
  go_wp2_with fail
  refine (bitsOrd _ _ _ L4 ha hc).mono ?_
  rintro e w5 ⟨rfl, g5⟩
  have L5 := L4.grown g5
  go_wp2_with fail
  refine (bitsSame _ _ _ ha ha).mono ?_
  rintro e w0 ⟨rfl, rfl⟩
  go_wp2_with fail
  refine (bitsClass _ _ L5).mono ?_
  rintro e w6 ⟨rfl, g6⟩
  have L6 := L5.grown g6
  go_wp2_with fail
  refine (bitsSame _ _ _ ha hb).mono ?_
  rintro e w0 ⟨rfl, rfl⟩
  go_wp2_with fail
  refine (bitsClass _ _ L6).mono ?_
  rintro e w7 ⟨rfl, g7⟩
  have L7 := L6.grown g7
  go_wp2_with fail
  refine (bitsClass _ _ L7).mono ?_
  rintro e w8 ⟨rfl, g8⟩
  have L8 := L7.grown g8
  go_wp2_with fail
  refine (bitsLess _ _ _ ha hb).mono ?_
  rintro e w0 ⟨rfl, rfl⟩
  go_wp2_with fail
  refine (bitsLess _ _ _ hb ha).mono ?_
  rintro e w0 ⟨rfl, rfl⟩
  go_wp2
  go_ret
  exact ⟨rfl, (gTrans (gTrans (gTrans (gTrans (gTrans (gTrans (gTrans g1 g2) g3) g4) g5) g6) g7) g8)⟩

theorem way11 (a b c : Int) (ha : rng a) (hb : rng b) (hc : rng c) (w : World) (L : Lays w) (hx : ord a b = 0) (hy : ord b a = 0) (hla : less a b = false) (hlb : less b a = false) (ka : (cls a == 4) = false) (na : (cls a != 4) = true) (nb : (cls b != 4) = false) (s1 : same a a = true) (s2 : same a b = false) (hbc : ord b c ≤ 0) (hac : ord a c ≤ 0) :
    Calls Tryd.prog 8 #[.int .i64 a, .int .i64 b, .int .i64 c] w fun e w' => e = .returned (.bool true) ∧ Grown w w' := by
  go_enter Tryd.func8, Tryd.ntmps8
  go_wp2_with fail
  refine (bitsOrd _ _ _ L ha hb).mono ?_
  rintro e w1 ⟨rfl, g1⟩
  have L1 := L.grown g1
  go_wp2_with fail
  refine (alive _ L1).mono ?_
  rintro e w2 ⟨rfl, g2⟩
  have L2 := L1.grown g2
  go_wp2_with fail
  refine (bitsOrd _ _ _ L2 hb ha).mono ?_
  rintro e w3 ⟨rfl, g3⟩
  have L3 := L2.grown g3
  go_wp2_with fail
  refine (bitsLess _ _ _ ha hb).mono ?_
  rintro e w0 ⟨rfl, rfl⟩
  go_wp2_with fail
  refine (bitsLess _ _ _ hb ha).mono ?_
  rintro e w0 ⟨rfl, rfl⟩
  go_wp2_with fail
  refine (bitsOrd _ _ _ L3 hb hc).mono ?_
  rintro e w4 ⟨rfl, g4⟩
  have L4 := L3.grown g4
  go_wp2_with fail
  refine (bitsOrd _ _ _ L4 ha hc).mono ?_
  rintro e w5 ⟨rfl, g5⟩
  have L5 := L4.grown g5
  go_wp2_with fail
  refine (bitsSame _ _ _ ha ha).mono ?_
  rintro e w0 ⟨rfl, rfl⟩
  go_wp2_with fail
  refine (bitsClass _ _ L5).mono ?_
  rintro e w6 ⟨rfl, g6⟩
  have L6 := L5.grown g6
  go_wp2_with fail
  refine (bitsSame _ _ _ ha hb).mono ?_
  rintro e w0 ⟨rfl, rfl⟩
  go_wp2_with fail
  refine (bitsClass _ _ L6).mono ?_
  rintro e w7 ⟨rfl, g7⟩
  have L7 := L6.grown g7
  go_wp2_with fail
  refine (bitsClass _ _ L7).mono ?_
  rintro e w8 ⟨rfl, g8⟩
  have L8 := L7.grown g8
  go_wp2
  go_ret
  exact ⟨rfl, (gTrans (gTrans (gTrans (gTrans (gTrans (gTrans (gTrans g1 g2) g3) g4) g5) g6) g7) g8)⟩

theorem way12 (a b c : Int) (ha : rng a) (hb : rng b) (hc : rng c) (w : World) (L : Lays w) (hx : ord a b = 0) (hy : ord b a = 0) (hla : less a b = false) (hlb : less b a = false) (ka : (cls a == 4) = true) (na : (cls a != 4) = false) (nb : (cls b != 4) = true) (s1 : same a a = false) (s2 : same a b = false) (hbc : ord b c ≤ 0) (hac : ord a c ≤ 0) :
    Calls Tryd.prog 8 #[.int .i64 a, .int .i64 b, .int .i64 c] w fun e w' => e = .returned (.bool true) ∧ Grown w w' := by
  go_enter Tryd.func8, Tryd.ntmps8
  go_wp2_with fail
  refine (bitsOrd _ _ _ L ha hb).mono ?_
  rintro e w1 ⟨rfl, g1⟩
  have L1 := L.grown g1
  go_wp2_with fail
  refine (alive _ L1).mono ?_
  rintro e w2 ⟨rfl, g2⟩
  have L2 := L1.grown g2
  go_wp2_with fail
  refine (bitsOrd _ _ _ L2 hb ha).mono ?_
  rintro e w3 ⟨rfl, g3⟩
  have L3 := L2.grown g3
  go_wp2_with fail
  refine (bitsLess _ _ _ ha hb).mono ?_
  rintro e w0 ⟨rfl, rfl⟩
  go_wp2_with fail
  refine (bitsLess _ _ _ hb ha).mono ?_
  rintro e w0 ⟨rfl, rfl⟩
  go_wp2_with fail
  refine (bitsOrd _ _ _ L3 hb hc).mono ?_
  rintro e w4 ⟨rfl, g4⟩
  have L4 := L3.grown g4
  go_wp2_with fail
  refine (bitsOrd _ _ _ L4 ha hc).mono ?_
  rintro e w5 ⟨rfl, g5⟩
  have L5 := L4.grown g5
  go_wp2_with fail
  refine (bitsSame _ _ _ ha ha).mono ?_
  rintro e w0 ⟨rfl, rfl⟩
  go_wp2_with fail
  refine (bitsClass _ _ L5).mono ?_
  rintro e w6 ⟨rfl, g6⟩
  have L6 := L5.grown g6
  go_wp2_with fail
  refine (bitsSame _ _ _ ha hb).mono ?_
  rintro e w0 ⟨rfl, rfl⟩
  go_wp2_with fail
  refine (bitsClass _ _ L6).mono ?_
  rintro e w7 ⟨rfl, g7⟩
  have L7 := L6.grown g7
  go_wp2
  go_ret
  exact ⟨rfl, (gTrans (gTrans (gTrans (gTrans (gTrans (gTrans g1 g2) g3) g4) g5) g6) g7)⟩

theorem way13 (a b c : Int) (ha : rng a) (hb : rng b) (hc : rng c) (w : World) (L : Lays w) (hx : ord a b = 0) (hy : ord b a = 0) (hla : less a b = false) (hlb : less b a = false) (ka : (cls a == 4) = true) (na : (cls a != 4) = false) (nb : (cls b != 4) = false) (s1 : same a a = false) (s2 : same a b = false) (hbc : ord b c ≤ 0) (hac : ord a c ≤ 0) :
    Calls Tryd.prog 8 #[.int .i64 a, .int .i64 b, .int .i64 c] w fun e w' => e = .returned (.bool true) ∧ Grown w w' := by
  go_enter Tryd.func8, Tryd.ntmps8
  go_wp2_with fail
  refine (bitsOrd _ _ _ L ha hb).mono ?_
  rintro e w1 ⟨rfl, g1⟩
  have L1 := L.grown g1
  go_wp2_with fail
  refine (alive _ L1).mono ?_
  rintro e w2 ⟨rfl, g2⟩
  have L2 := L1.grown g2
  go_wp2_with fail
  refine (bitsOrd _ _ _ L2 hb ha).mono ?_
  rintro e w3 ⟨rfl, g3⟩
  have L3 := L2.grown g3
  go_wp2_with fail
  refine (bitsLess _ _ _ ha hb).mono ?_
  rintro e w0 ⟨rfl, rfl⟩
  go_wp2_with fail
  refine (bitsLess _ _ _ hb ha).mono ?_
  rintro e w0 ⟨rfl, rfl⟩
  go_wp2_with fail
  refine (bitsOrd _ _ _ L3 hb hc).mono ?_
  rintro e w4 ⟨rfl, g4⟩
  have L4 := L3.grown g4
  go_wp2_with fail
  refine (bitsOrd _ _ _ L4 ha hc).mono ?_
  rintro e w5 ⟨rfl, g5⟩
  have L5 := L4.grown g5
  go_wp2_with fail
  refine (bitsSame _ _ _ ha ha).mono ?_
  rintro e w0 ⟨rfl, rfl⟩
  go_wp2_with fail
  refine (bitsClass _ _ L5).mono ?_
  rintro e w6 ⟨rfl, g6⟩
  have L6 := L5.grown g6
  go_wp2_with fail
  refine (bitsSame _ _ _ ha hb).mono ?_
  rintro e w0 ⟨rfl, rfl⟩
  go_wp2_with fail
  refine (bitsClass _ _ L6).mono ?_
  rintro e w7 ⟨rfl, g7⟩
  have L7 := L6.grown g7
  go_wp2
  go_ret
  exact ⟨rfl, (gTrans (gTrans (gTrans (gTrans (gTrans (gTrans g1 g2) g3) g4) g5) g6) g7)⟩

theorem way14 (a b c : Int) (ha : rng a) (hb : rng b) (hc : rng c) (w : World) (L : Lays w) (hx : ord a b = 0) (hy : ord b a = 0) (hla : less a b = false) (hlb : less b a = false) (ka : (cls a == 4) = false) (na : (cls a != 4) = true) (nb : (cls b != 4) = true) (s1 : same a a = true) (s2 : same a b = true) (hbc : 0 < ord b c) :
    Calls Tryd.prog 8 #[.int .i64 a, .int .i64 b, .int .i64 c] w fun e w' => e = .returned (.bool true) ∧ Grown w w' := by
  go_enter Tryd.func8, Tryd.ntmps8
  go_wp2_with fail
  refine (bitsOrd _ _ _ L ha hb).mono ?_
  rintro e w1 ⟨rfl, g1⟩
  have L1 := L.grown g1
  go_wp2_with fail
  refine (alive _ L1).mono ?_
  rintro e w2 ⟨rfl, g2⟩
  have L2 := L1.grown g2
  go_wp2_with fail
  refine (bitsOrd _ _ _ L2 hb ha).mono ?_
  rintro e w3 ⟨rfl, g3⟩
  have L3 := L2.grown g3
  go_wp2_with fail
  refine (bitsLess _ _ _ ha hb).mono ?_
  rintro e w0 ⟨rfl, rfl⟩
  go_wp2_with fail
  refine (bitsLess _ _ _ hb ha).mono ?_
  rintro e w0 ⟨rfl, rfl⟩
  go_wp2_with fail
  refine (bitsOrd _ _ _ L3 hb hc).mono ?_
  rintro e w4 ⟨rfl, g4⟩
  have L4 := L3.grown g4
  go_wp2_with fail
  refine (bitsSame _ _ _ ha ha).mono ?_
  rintro e w0 ⟨rfl, rfl⟩
  go_wp2_with fail
  refine (bitsClass _ _ L4).mono ?_
  rintro e w5 ⟨rfl, g5⟩
  have L5 := L4.grown g5
  go_wp2_with fail
  refine (bitsSame _ _ _ ha hb).mono ?_
  rintro e w0 ⟨rfl, rfl⟩
  go_wp2_with fail
  refine (bitsClass _ _ L5).mono ?_
  rintro e w6 ⟨rfl, g6⟩
  have L6 := L5.grown g6
  go_wp2_with fail
  refine (bitsClass _ _ L6).mono ?_
  rintro e w7 ⟨rfl, g7⟩
  have L7 := L6.grown g7
  go_wp2_with fail
  refine (bitsLess _ _ _ ha hb).mono ?_
  rintro e w0 ⟨rfl, rfl⟩
  go_wp2_with fail
  refine (bitsLess _ _ _ hb ha).mono ?_
  rintro e w0 ⟨rfl, rfl⟩
  go_wp2
  go_ret
  exact ⟨rfl, (gTrans (gTrans (gTrans (gTrans (gTrans (gTrans g1 g2) g3) g4) g5) g6) g7)⟩

theorem way15 (a b c : Int) (ha : rng a) (hb : rng b) (hc : rng c) (w : World) (L : Lays w) (hx : ord a b = 0) (hy : ord b a = 0) (hla : less a b = false) (hlb : less b a = false) (ka : (cls a == 4) = false) (na : (cls a != 4) = true) (nb : (cls b != 4) = false) (s1 : same a a = true) (s2 : same a b = false) (hbc : 0 < ord b c) :
    Calls Tryd.prog 8 #[.int .i64 a, .int .i64 b, .int .i64 c] w fun e w' => e = .returned (.bool true) ∧ Grown w w' := by
  go_enter Tryd.func8, Tryd.ntmps8
  go_wp2_with fail
  refine (bitsOrd _ _ _ L ha hb).mono ?_
  rintro e w1 ⟨rfl, g1⟩
  have L1 := L.grown g1
  go_wp2_with fail
  refine (alive _ L1).mono ?_
  rintro e w2 ⟨rfl, g2⟩
  have L2 := L1.grown g2
  go_wp2_with fail
  refine (bitsOrd _ _ _ L2 hb ha).mono ?_
  rintro e w3 ⟨rfl, g3⟩
  have L3 := L2.grown g3
  go_wp2_with fail
  refine (bitsLess _ _ _ ha hb).mono ?_
  rintro e w0 ⟨rfl, rfl⟩
  go_wp2_with fail
  refine (bitsLess _ _ _ hb ha).mono ?_
  rintro e w0 ⟨rfl, rfl⟩
  go_wp2_with fail
  refine (bitsOrd _ _ _ L3 hb hc).mono ?_
  rintro e w4 ⟨rfl, g4⟩
  have L4 := L3.grown g4
  go_wp2_with fail
  refine (bitsSame _ _ _ ha ha).mono ?_
  rintro e w0 ⟨rfl, rfl⟩
  go_wp2_with fail
  refine (bitsClass _ _ L4).mono ?_
  rintro e w5 ⟨rfl, g5⟩
  have L5 := L4.grown g5
  go_wp2_with fail
  refine (bitsSame _ _ _ ha hb).mono ?_
  rintro e w0 ⟨rfl, rfl⟩
  go_wp2_with fail
  refine (bitsClass _ _ L5).mono ?_
  rintro e w6 ⟨rfl, g6⟩
  have L6 := L5.grown g6
  go_wp2_with fail
  refine (bitsClass _ _ L6).mono ?_
  rintro e w7 ⟨rfl, g7⟩
  have L7 := L6.grown g7
  go_wp2
  go_ret
  exact ⟨rfl, (gTrans (gTrans (gTrans (gTrans (gTrans (gTrans g1 g2) g3) g4) g5) g6) g7)⟩

theorem way16 (a b c : Int) (ha : rng a) (hb : rng b) (hc : rng c) (w : World) (L : Lays w) (hx : ord a b = 0) (hy : ord b a = 0) (hla : less a b = false) (hlb : less b a = false) (ka : (cls a == 4) = true) (na : (cls a != 4) = false) (nb : (cls b != 4) = true) (s1 : same a a = false) (s2 : same a b = false) (hbc : 0 < ord b c) :
    Calls Tryd.prog 8 #[.int .i64 a, .int .i64 b, .int .i64 c] w fun e w' => e = .returned (.bool true) ∧ Grown w w' := by
  go_enter Tryd.func8, Tryd.ntmps8
  go_wp2_with fail
  refine (bitsOrd _ _ _ L ha hb).mono ?_
  rintro e w1 ⟨rfl, g1⟩
  have L1 := L.grown g1
  go_wp2_with fail
  refine (alive _ L1).mono ?_
  rintro e w2 ⟨rfl, g2⟩
  have L2 := L1.grown g2
  go_wp2_with fail
  refine (bitsOrd _ _ _ L2 hb ha).mono ?_
  rintro e w3 ⟨rfl, g3⟩
  have L3 := L2.grown g3
  go_wp2_with fail
  refine (bitsLess _ _ _ ha hb).mono ?_
  rintro e w0 ⟨rfl, rfl⟩
  go_wp2_with fail
  refine (bitsLess _ _ _ hb ha).mono ?_
  rintro e w0 ⟨rfl, rfl⟩
  go_wp2_with fail
  refine (bitsOrd _ _ _ L3 hb hc).mono ?_
  rintro e w4 ⟨rfl, g4⟩
  have L4 := L3.grown g4
  go_wp2_with fail
  refine (bitsSame _ _ _ ha ha).mono ?_
  rintro e w0 ⟨rfl, rfl⟩
  go_wp2_with fail
  refine (bitsClass _ _ L4).mono ?_
  rintro e w5 ⟨rfl, g5⟩
  have L5 := L4.grown g5
  go_wp2_with fail
  refine (bitsSame _ _ _ ha hb).mono ?_
  rintro e w0 ⟨rfl, rfl⟩
  go_wp2_with fail
  refine (bitsClass _ _ L5).mono ?_
  rintro e w6 ⟨rfl, g6⟩
  have L6 := L5.grown g6
  go_wp2
  go_ret
  exact ⟨rfl, (gTrans (gTrans (gTrans (gTrans (gTrans g1 g2) g3) g4) g5) g6)⟩

theorem way17 (a b c : Int) (ha : rng a) (hb : rng b) (hc : rng c) (w : World) (L : Lays w) (hx : ord a b = 0) (hy : ord b a = 0) (hla : less a b = false) (hlb : less b a = false) (ka : (cls a == 4) = true) (na : (cls a != 4) = false) (nb : (cls b != 4) = false) (s1 : same a a = false) (s2 : same a b = false) (hbc : 0 < ord b c) :
    Calls Tryd.prog 8 #[.int .i64 a, .int .i64 b, .int .i64 c] w fun e w' => e = .returned (.bool true) ∧ Grown w w' := by
  go_enter Tryd.func8, Tryd.ntmps8
  go_wp2_with fail
  refine (bitsOrd _ _ _ L ha hb).mono ?_
  rintro e w1 ⟨rfl, g1⟩
  have L1 := L.grown g1
  go_wp2_with fail
  refine (alive _ L1).mono ?_
  rintro e w2 ⟨rfl, g2⟩
  have L2 := L1.grown g2
  go_wp2_with fail
  refine (bitsOrd _ _ _ L2 hb ha).mono ?_
  rintro e w3 ⟨rfl, g3⟩
  have L3 := L2.grown g3
  go_wp2_with fail
  refine (bitsLess _ _ _ ha hb).mono ?_
  rintro e w0 ⟨rfl, rfl⟩
  go_wp2_with fail
  refine (bitsLess _ _ _ hb ha).mono ?_
  rintro e w0 ⟨rfl, rfl⟩
  go_wp2_with fail
  refine (bitsOrd _ _ _ L3 hb hc).mono ?_
  rintro e w4 ⟨rfl, g4⟩
  have L4 := L3.grown g4
  go_wp2_with fail
  refine (bitsSame _ _ _ ha ha).mono ?_
  rintro e w0 ⟨rfl, rfl⟩
  go_wp2_with fail
  refine (bitsClass _ _ L4).mono ?_
  rintro e w5 ⟨rfl, g5⟩
  have L5 := L4.grown g5
  go_wp2_with fail
  refine (bitsSame _ _ _ ha hb).mono ?_
  rintro e w0 ⟨rfl, rfl⟩
  go_wp2_with fail
  refine (bitsClass _ _ L5).mono ?_
  rintro e w6 ⟨rfl, g6⟩
  have L6 := L5.grown g6
  go_wp2
  go_ret
  exact ⟨rfl, (gTrans (gTrans (gTrans (gTrans (gTrans g1 g2) g3) g4) g5) g6)⟩

theorem way18 (a b c : Int) (ha : rng a) (hb : rng b) (hc : rng c) (w : World) (L : Lays w) (hx : ord a b = 1) (hy : ord b a = -1) (hla : less a b = false) (hlb : less b a = true) (ka : (cls a == 4) = false) (na : (cls a != 4) = true) (nb : (cls b != 4) = true) (s1 : same a a = true) (s2 : same a b = false) :
    Calls Tryd.prog 8 #[.int .i64 a, .int .i64 b, .int .i64 c] w fun e w' => e = .returned (.bool true) ∧ Grown w w' := by
  go_enter Tryd.func8, Tryd.ntmps8
  go_wp2_with fail
  refine (bitsOrd _ _ _ L ha hb).mono ?_
  rintro e w1 ⟨rfl, g1⟩
  have L1 := L.grown g1
  go_wp2_with fail
  refine (alive _ L1).mono ?_
  rintro e w2 ⟨rfl, g2⟩
  have L2 := L1.grown g2
  go_wp2_with fail
  refine (bitsOrd _ _ _ L2 hb ha).mono ?_
  rintro e w3 ⟨rfl, g3⟩
  have L3 := L2.grown g3
  go_wp2_with fail
  refine (bitsLess _ _ _ ha hb).mono ?_
  rintro e w0 ⟨rfl, rfl⟩
  go_wp2_with fail
  refine (bitsLess _ _ _ hb ha).mono ?_
  rintro e w0 ⟨rfl, rfl⟩
  go_wp2_with fail
  refine (bitsSame _ _ _ ha ha).mono ?_
  rintro e w0 ⟨rfl, rfl⟩
  go_wp2_with fail
  refine (bitsClass _ _ L3).mono ?_
  rintro e w4 ⟨rfl, g4⟩
  have L4 := L3.grown g4
  go_wp2_with fail
  refine (bitsSame _ _ _ ha hb).mono ?_
  rintro e w0 ⟨rfl, rfl⟩
  go_wp2_with fail
  refine (bitsClass _ _ L4).mono ?_
  rintro e w5 ⟨rfl, g5⟩
  have L5 := L4.grown g5
  go_wp2_with fail
  refine (bitsClass _ _ L5).mono ?_
  rintro e w6 ⟨rfl, g6⟩
  have L6 := L5.grown g6
  go_wp2_with fail
  refine (bitsLess _ _ _ ha hb).mono ?_
  rintro e w0 ⟨rfl, rfl⟩
  go_wp2_with fail
  refine (bitsLess _ _ _ hb ha).mono ?_
  rintro e w0 ⟨rfl, rfl⟩
  go_wp2
  go_ret
  exact ⟨rfl, (gTrans (gTrans (gTrans (gTrans (gTrans g1 g2) g3) g4) g5) g6)⟩

theorem way19 (a b c : Int) (ha : rng a) (hb : rng b) (hc : rng c) (w : World) (L : Lays w) (hx : ord a b = 1) (hy : ord b a = -1) (hla : less a b = false) (hlb : less b a = false) (ka : (cls a == 4) = false) (na : (cls a != 4) = true) (nb : (cls b != 4) = true) (s1 : same a a = true) (s2 : same a b = true) :
    Calls Tryd.prog 8 #[.int .i64 a, .int .i64 b, .int .i64 c] w fun e w' => e = .returned (.bool true) ∧ Grown w w' := by
  go_enter Tryd.func8, Tryd.ntmps8
  go_wp2_with fail
  refine (bitsOrd _ _ _ L ha hb).mono ?_
  rintro e w1 ⟨rfl, g1⟩
  have L1 := L.grown g1
  go_wp2_with fail
  refine (alive _ L1).mono ?_
  rintro e w2 ⟨rfl, g2⟩
  have L2 := L1.grown g2
  go_wp2_with fail
  refine (bitsOrd _ _ _ L2 hb ha).mono ?_
  rintro e w3 ⟨rfl, g3⟩
  have L3 := L2.grown g3
  go_wp2_with fail
  refine (bitsLess _ _ _ ha hb).mono ?_
  rintro e w0 ⟨rfl, rfl⟩
  go_wp2_with fail
  refine (bitsLess _ _ _ hb ha).mono ?_
  rintro e w0 ⟨rfl, rfl⟩
  go_wp2_with fail
  refine (bitsSame _ _ _ ha ha).mono ?_
  rintro e w0 ⟨rfl, rfl⟩
  go_wp2_with fail
  refine (bitsClass _ _ L3).mono ?_
  rintro e w4 ⟨rfl, g4⟩
  have L4 := L3.grown g4
  go_wp2_with fail
  refine (bitsSame _ _ _ ha hb).mono ?_
  rintro e w0 ⟨rfl, rfl⟩
  go_wp2_with fail
  refine (bitsClass _ _ L4).mono ?_
  rintro e w5 ⟨rfl, g5⟩
  have L5 := L4.grown g5
  go_wp2_with fail
  refine (bitsClass _ _ L5).mono ?_
  rintro e w6 ⟨rfl, g6⟩
  have L6 := L5.grown g6
  go_wp2_with fail
  refine (bitsLess _ _ _ ha hb).mono ?_
  rintro e w0 ⟨rfl, rfl⟩
  go_wp2_with fail
  refine (bitsLess _ _ _ hb ha).mono ?_
  rintro e w0 ⟨rfl, rfl⟩
  go_wp2
  go_ret
  exact ⟨rfl, (gTrans (gTrans (gTrans (gTrans (gTrans g1 g2) g3) g4) g5) g6)⟩

theorem way20 (a b c : Int) (ha : rng a) (hb : rng b) (hc : rng c) (w : World) (L : Lays w) (hx : ord a b = 1) (hy : ord b a = -1) (hla : less a b = false) (hlb : less b a = false) (ka : (cls a == 4) = false) (na : (cls a != 4) = true) (nb : (cls b != 4) = false) (s1 : same a a = true) (s2 : same a b = false) :
    Calls Tryd.prog 8 #[.int .i64 a, .int .i64 b, .int .i64 c] w fun e w' => e = .returned (.bool true) ∧ Grown w w' := by
  go_enter Tryd.func8, Tryd.ntmps8
  go_wp2_with fail
  refine (bitsOrd _ _ _ L ha hb).mono ?_
  rintro e w1 ⟨rfl, g1⟩
  have L1 := L.grown g1
  go_wp2_with fail
  refine (alive _ L1).mono ?_
  rintro e w2 ⟨rfl, g2⟩
  have L2 := L1.grown g2
  go_wp2_with fail
  refine (bitsOrd _ _ _ L2 hb ha).mono ?_
  rintro e w3 ⟨rfl, g3⟩
  have L3 := L2.grown g3
  go_wp2_with fail
  refine (bitsLess _ _ _ ha hb).mono ?_
  rintro e w0 ⟨rfl, rfl⟩
  go_wp2_with fail
  refine (bitsLess _ _ _ hb ha).mono ?_
  rintro e w0 ⟨rfl, rfl⟩
  go_wp2_with fail
  refine (bitsSame _ _ _ ha ha).mono ?_
  rintro e w0 ⟨rfl, rfl⟩
  go_wp2_with fail
  refine (bitsClass _ _ L3).mono ?_
  rintro e w4 ⟨rfl, g4⟩
  have L4 := L3.grown g4
  go_wp2_with fail
  refine (bitsSame _ _ _ ha hb).mono ?_
  rintro e w0 ⟨rfl, rfl⟩
  go_wp2_with fail
  refine (bitsClass _ _ L4).mono ?_
  rintro e w5 ⟨rfl, g5⟩
  have L5 := L4.grown g5
  go_wp2_with fail
  refine (bitsClass _ _ L5).mono ?_
  rintro e w6 ⟨rfl, g6⟩
  have L6 := L5.grown g6
  go_wp2
  go_ret
  exact ⟨rfl, (gTrans (gTrans (gTrans (gTrans (gTrans g1 g2) g3) g4) g5) g6)⟩

theorem way21 (a b c : Int) (ha : rng a) (hb : rng b) (hc : rng c) (w : World) (L : Lays w) (hx : ord a b = 1) (hy : ord b a = -1) (hla : less a b = false) (hlb : less b a = false) (ka : (cls a == 4) = true) (na : (cls a != 4) = false) (nb : (cls b != 4) = true) (s1 : same a a = false) (s2 : same a b = false) :
    Calls Tryd.prog 8 #[.int .i64 a, .int .i64 b, .int .i64 c] w fun e w' => e = .returned (.bool true) ∧ Grown w w' := by
  go_enter Tryd.func8, Tryd.ntmps8
  go_wp2_with fail
  refine (bitsOrd _ _ _ L ha hb).mono ?_
  rintro e w1 ⟨rfl, g1⟩
  have L1 := L.grown g1
  go_wp2_with fail
  refine (alive _ L1).mono ?_
  rintro e w2 ⟨rfl, g2⟩
  have L2 := L1.grown g2
  go_wp2_with fail
  refine (bitsOrd _ _ _ L2 hb ha).mono ?_
  rintro e w3 ⟨rfl, g3⟩
  have L3 := L2.grown g3
  go_wp2_with fail
  refine (bitsLess _ _ _ ha hb).mono ?_
  rintro e w0 ⟨rfl, rfl⟩
  go_wp2_with fail
  refine (bitsLess _ _ _ hb ha).mono ?_
  rintro e w0 ⟨rfl, rfl⟩
  go_wp2_with fail
  refine (bitsSame _ _ _ ha ha).mono ?_
  rintro e w0 ⟨rfl, rfl⟩
  go_wp2_with fail
  refine (bitsClass _ _ L3).mono ?_
  rintro e w4 ⟨rfl, g4⟩
  have L4 := L3.grown g4
  go_wp2_with fail
  refine (bitsSame _ _ _ ha hb).mono ?_
  rintro e w0 ⟨rfl, rfl⟩
  go_wp2_with fail
  refine (bitsClass _ _ L4).mono ?_
  rintro e w5 ⟨rfl, g5⟩
  have L5 := L4.grown g5
  go_wp2
  go_ret
  exact ⟨rfl, (gTrans (gTrans (gTrans (gTrans g1 g2) g3) g4) g5)⟩

theorem way22 (a b c : Int) (ha : rng a) (hb : rng b) (hc : rng c) (w : World) (L : Lays w) (hx : ord a b = 1) (hy : ord b a = -1) (hla : less a b = false) (hlb : less b a = false) (ka : (cls a == 4) = true) (na : (cls a != 4) = false) (nb : (cls b != 4) = false) (s1 : same a a = false) (s2 : same a b = false) :
    Calls Tryd.prog 8 #[.int .i64 a, .int .i64 b, .int .i64 c] w fun e w' => e = .returned (.bool true) ∧ Grown w w' := by
  go_enter Tryd.func8, Tryd.ntmps8
  go_wp2_with fail
  refine (bitsOrd _ _ _ L ha hb).mono ?_
  rintro e w1 ⟨rfl, g1⟩
  have L1 := L.grown g1
  go_wp2_with fail
  refine (alive _ L1).mono ?_
  rintro e w2 ⟨rfl, g2⟩
  have L2 := L1.grown g2
  go_wp2_with fail
  refine (bitsOrd _ _ _ L2 hb ha).mono ?_
  rintro e w3 ⟨rfl, g3⟩
  have L3 := L2.grown g3
  go_wp2_with fail
  refine (bitsLess _ _ _ ha hb).mono ?_
  rintro e w0 ⟨rfl, rfl⟩
  go_wp2_with fail
  refine (bitsLess _ _ _ hb ha).mono ?_
  rintro e w0 ⟨rfl, rfl⟩
  go_wp2_with fail
  refine (bitsSame _ _ _ ha ha).mono ?_
  rintro e w0 ⟨rfl, rfl⟩
  go_wp2_with fail
  refine (bitsClass _ _ L3).mono ?_
  rintro e w4 ⟨rfl, g4⟩
  have L4 := L3.grown g4
  go_wp2_with fail
  refine (bitsSame _ _ _ ha hb).mono ?_
  rintro e w0 ⟨rfl, rfl⟩
  go_wp2_with fail
  refine (bitsClass _ _ L4).mono ?_
  rintro e w5 ⟨rfl, g5⟩
  have L5 := L4.grown g5
  go_wp2
  go_ret
  exact ⟨rfl, (gTrans (gTrans (gTrans (gTrans g1 g2) g3) g4) g5)⟩

theorem walk (a b c : Int) (ha : rng a) (hb : rng b) (hc : rng c) (w : World) (L : Lays w) :
    Calls Tryd.prog 8 #[.int .i64 a, .int .i64 b, .int .i64 c] w fun e w' => e = .returned (.bool true) ∧ Grown w w' := by
  have s1 := same_self a
  have s2 := same_iff a b
  have c1 := ord_neg b a
  have tr : ord a b ≤ 0 → ord b c ≤ 0 → ord a c ≤ 0 := fun h k => ord_trans h k
  have l1 : less a b = true → ord a b = -1 := ord_less ha hb
  have l2 : less b a = true → ord a b = 1 := fun h => by have := ord_less hb ha h; omega
  have na1 : cls a = 4 → less a b = false ∧ less b a = false := fun h => by simp [less, h]
  have nb1 : cls b = 4 → less a b = false ∧ less b a = false := fun h => by simp [less, h]
  rcases ord_cases a b with hx | hx | hx
  · have hy : ord b a = 1 := by omega
    cases hla : less a b <;> cases hlb : less b a
    · by_cases ka' : cls a = 4 <;> by_cases kb' : cls b = 4
      · have ka : (cls a == 4) = true := by simpa using ka'
        have na : (cls a != 4) = false := by simpa using ka'
        have nb : (cls b != 4) = false := by simpa using kb'
        simp only [hla, hlb, ka', kb', decide_true, decide_false, Bool.not_true, Bool.not_false, Bool.true_and, Bool.and_true, Bool.false_and, Bool.and_false] at s1 s2
        by_cases hbc : ord b c ≤ 0
        · have hac : ord a c ≤ 0 := tr (by omega) hbc
          exact way5 a b c ha hb hc w L (by assumption) (by assumption) (by assumption) (by assumption) (by assumption) (by assumption) (by assumption) (by assumption) (by assumption) (by assumption) (by assumption)
        · have hbc : 0 < ord b c := by omega
          exact way9 a b c ha hb hc w L (by assumption) (by assumption) (by assumption) (by assumption) (by assumption) (by assumption) (by assumption) (by assumption) (by assumption) (by assumption)
      · have ka : (cls a == 4) = true := by simpa using ka'
        have na : (cls a != 4) = false := by simpa using ka'
        have nb : (cls b != 4) = true := by simpa using kb'
        simp only [hla, hlb, ka', kb', decide_true, decide_false, Bool.not_true, Bool.not_false, Bool.true_and, Bool.and_true, Bool.false_and, Bool.and_false] at s1 s2
        by_cases hbc : ord b c ≤ 0
        · have hac : ord a c ≤ 0 := tr (by omega) hbc
          exact way4 a b c ha hb hc w L (by assumption) (by assumption) (by assumption) (by assumption) (by assumption) (by assumption) (by assumption) (by assumption) (by assumption) (by assumption) (by assumption)
        · have hbc : 0 < ord b c := by omega
          exact way8 a b c ha hb hc w L (by assumption) (by assumption) (by assumption) (by assumption) (by assumption) (by assumption) (by assumption) (by assumption) (by assumption) (by assumption)
      · have ka : (cls a == 4) = false := by simpa using ka'
        have na : (cls a != 4) = true := by simpa using ka'
        have nb : (cls b != 4) = false := by simpa using kb'
        simp only [hla, hlb, ka', kb', decide_true, decide_false, Bool.not_true, Bool.not_false, Bool.true_and, Bool.and_true, Bool.false_and, Bool.and_false] at s1 s2
        by_cases hbc : ord b c ≤ 0
        · have hac : ord a c ≤ 0 := tr (by omega) hbc
          exact way3 a b c ha hb hc w L (by assumption) (by assumption) (by assumption) (by assumption) (by assumption) (by assumption) (by assumption) (by assumption) (by assumption) (by assumption) (by assumption)
        · have hbc : 0 < ord b c := by omega
          exact way7 a b c ha hb hc w L (by assumption) (by assumption) (by assumption) (by assumption) (by assumption) (by assumption) (by assumption) (by assumption) (by assumption) (by assumption)
      · have ka : (cls a == 4) = false := by simpa using ka'
        have na : (cls a != 4) = true := by simpa using ka'
        have nb : (cls b != 4) = true := by simpa using kb'
        simp only [hla, hlb, ka', kb', decide_true, decide_false, Bool.not_true, Bool.not_false, Bool.true_and, Bool.and_true, Bool.false_and, Bool.and_false] at s1 s2
        by_cases hbc : ord b c ≤ 0
        · have hac : ord a c ≤ 0 := tr (by omega) hbc
          exact way2 a b c ha hb hc w L (by assumption) (by assumption) (by assumption) (by assumption) (by assumption) (by assumption) (by assumption) (by assumption) (by assumption) (by assumption) (by assumption)
        · have hbc : 0 < ord b c := by omega
          exact way6 a b c ha hb hc w L (by assumption) (by assumption) (by assumption) (by assumption) (by assumption) (by assumption) (by assumption) (by assumption) (by assumption) (by assumption)
    · exfalso; have := l2 hlb; omega
    · by_cases ka' : cls a = 4 <;> by_cases kb' : cls b = 4
      · exfalso; have := na1 ka'; rw [hla, hlb] at this; simp at this
      · exfalso; have := na1 ka'; rw [hla, hlb] at this; simp at this
      · exfalso; have := nb1 kb'; rw [hla, hlb] at this; simp at this
      · have ka : (cls a == 4) = false := by simpa using ka'
        have na : (cls a != 4) = true := by simpa using ka'
        have nb : (cls b != 4) = true := by simpa using kb'
        simp only [hla, hlb, ka', kb', decide_true, decide_false, Bool.not_true, Bool.not_false, Bool.true_and, Bool.and_true, Bool.false_and, Bool.and_false] at s1 s2
        by_cases hbc : ord b c ≤ 0
        · have hac : ord a c ≤ 0 := tr (by omega) hbc
          exact way0 a b c ha hb hc w L (by assumption) (by assumption) (by assumption) (by assumption) (by assumption) (by assumption) (by assumption) (by assumption) (by assumption) (by assumption) (by assumption)
        · have hbc : 0 < ord b c := by omega
          exact way1 a b c ha hb hc w L (by assumption) (by assumption) (by assumption) (by assumption) (by assumption) (by assumption) (by assumption) (by assumption) (by assumption) (by assumption)
    · exfalso; have := l2 hlb; omega
  · have hy : ord b a = 0 := by omega
    cases hla : less a b <;> cases hlb : less b a
    · by_cases ka' : cls a = 4 <;> by_cases kb' : cls b = 4
      · have ka : (cls a == 4) = true := by simpa using ka'
        have na : (cls a != 4) = false := by simpa using ka'
        have nb : (cls b != 4) = false := by simpa using kb'
        simp only [hla, hlb, ka', kb', decide_true, decide_false, Bool.not_true, Bool.not_false, Bool.true_and, Bool.and_true, Bool.false_and, Bool.and_false] at s1 s2
        by_cases hbc : ord b c ≤ 0
        · have hac : ord a c ≤ 0 := tr (by omega) hbc
          exact way13 a b c ha hb hc w L (by assumption) (by assumption) (by assumption) (by assumption) (by assumption) (by assumption) (by assumption) (by assumption) (by assumption) (by assumption) (by assumption)
        · have hbc : 0 < ord b c := by omega
          exact way17 a b c ha hb hc w L (by assumption) (by assumption) (by assumption) (by assumption) (by assumption) (by assumption) (by assumption) (by assumption) (by assumption) (by assumption)
      · have ka : (cls a == 4) = true := by simpa using ka'
        have na : (cls a != 4) = false := by simpa using ka'
        have nb : (cls b != 4) = true := by simpa using kb'
        simp only [hla, hlb, ka', kb', decide_true, decide_false, Bool.not_true, Bool.not_false, Bool.true_and, Bool.and_true, Bool.false_and, Bool.and_false] at s1 s2
        by_cases hbc : ord b c ≤ 0
        · have hac : ord a c ≤ 0 := tr (by omega) hbc
          exact way12 a b c ha hb hc w L (by assumption) (by assumption) (by assumption) (by assumption) (by assumption) (by assumption) (by assumption) (by assumption) (by assumption) (by assumption) (by assumption)
        · have hbc : 0 < ord b c := by omega
          exact way16 a b c ha hb hc w L (by assumption) (by assumption) (by assumption) (by assumption) (by assumption) (by assumption) (by assumption) (by assumption) (by assumption) (by assumption)
      · have ka : (cls a == 4) = false := by simpa using ka'
        have na : (cls a != 4) = true := by simpa using ka'
        have nb : (cls b != 4) = false := by simpa using kb'
        simp only [hla, hlb, ka', kb', decide_true, decide_false, Bool.not_true, Bool.not_false, Bool.true_and, Bool.and_true, Bool.false_and, Bool.and_false] at s1 s2
        by_cases hbc : ord b c ≤ 0
        · have hac : ord a c ≤ 0 := tr (by omega) hbc
          exact way11 a b c ha hb hc w L (by assumption) (by assumption) (by assumption) (by assumption) (by assumption) (by assumption) (by assumption) (by assumption) (by assumption) (by assumption) (by assumption)
        · have hbc : 0 < ord b c := by omega
          exact way15 a b c ha hb hc w L (by assumption) (by assumption) (by assumption) (by assumption) (by assumption) (by assumption) (by assumption) (by assumption) (by assumption) (by assumption)
      · have ka : (cls a == 4) = false := by simpa using ka'
        have na : (cls a != 4) = true := by simpa using ka'
        have nb : (cls b != 4) = true := by simpa using kb'
        simp only [hla, hlb, ka', kb', decide_true, decide_false, Bool.not_true, Bool.not_false, Bool.true_and, Bool.and_true, Bool.false_and, Bool.and_false] at s1 s2
        by_cases hbc : ord b c ≤ 0
        · have hac : ord a c ≤ 0 := tr (by omega) hbc
          exact way10 a b c ha hb hc w L (by assumption) (by assumption) (by assumption) (by assumption) (by assumption) (by assumption) (by assumption) (by assumption) (by assumption) (by assumption) (by assumption)
        · have hbc : 0 < ord b c := by omega
          exact way14 a b c ha hb hc w L (by assumption) (by assumption) (by assumption) (by assumption) (by assumption) (by assumption) (by assumption) (by assumption) (by assumption) (by assumption)
    · exfalso; have := l2 hlb; omega
    · exfalso; have := l1 hla; omega
    · exfalso; have := l1 hla; omega
  · have hy : ord b a = -1 := by omega
    cases hla : less a b <;> cases hlb : less b a
    · by_cases ka' : cls a = 4 <;> by_cases kb' : cls b = 4
      · have ka : (cls a == 4) = true := by simpa using ka'
        have na : (cls a != 4) = false := by simpa using ka'
        have nb : (cls b != 4) = false := by simpa using kb'
        simp only [hla, hlb, ka', kb', decide_true, decide_false, Bool.not_true, Bool.not_false, Bool.true_and, Bool.and_true, Bool.false_and, Bool.and_false] at s1 s2
        exact way22 a b c ha hb hc w L (by assumption) (by assumption) (by assumption) (by assumption) (by assumption) (by assumption) (by assumption) (by assumption) (by assumption)
      · have ka : (cls a == 4) = true := by simpa using ka'
        have na : (cls a != 4) = false := by simpa using ka'
        have nb : (cls b != 4) = true := by simpa using kb'
        simp only [hla, hlb, ka', kb', decide_true, decide_false, Bool.not_true, Bool.not_false, Bool.true_and, Bool.and_true, Bool.false_and, Bool.and_false] at s1 s2
        exact way21 a b c ha hb hc w L (by assumption) (by assumption) (by assumption) (by assumption) (by assumption) (by assumption) (by assumption) (by assumption) (by assumption)
      · have ka : (cls a == 4) = false := by simpa using ka'
        have na : (cls a != 4) = true := by simpa using ka'
        have nb : (cls b != 4) = false := by simpa using kb'
        simp only [hla, hlb, ka', kb', decide_true, decide_false, Bool.not_true, Bool.not_false, Bool.true_and, Bool.and_true, Bool.false_and, Bool.and_false] at s1 s2
        exact way20 a b c ha hb hc w L (by assumption) (by assumption) (by assumption) (by assumption) (by assumption) (by assumption) (by assumption) (by assumption) (by assumption)
      · have ka : (cls a == 4) = false := by simpa using ka'
        have na : (cls a != 4) = true := by simpa using ka'
        have nb : (cls b != 4) = true := by simpa using kb'
        simp only [hla, hlb, ka', kb', decide_true, decide_false, Bool.not_true, Bool.not_false, Bool.true_and, Bool.and_true, Bool.false_and, Bool.and_false] at s1 s2
        exact way19 a b c ha hb hc w L (by assumption) (by assumption) (by assumption) (by assumption) (by assumption) (by assumption) (by assumption) (by assumption) (by assumption)
    · by_cases ka' : cls a = 4 <;> by_cases kb' : cls b = 4
      · exfalso; have := na1 ka'; rw [hla, hlb] at this; simp at this
      · exfalso; have := na1 ka'; rw [hla, hlb] at this; simp at this
      · exfalso; have := nb1 kb'; rw [hla, hlb] at this; simp at this
      · have ka : (cls a == 4) = false := by simpa using ka'
        have na : (cls a != 4) = true := by simpa using ka'
        have nb : (cls b != 4) = true := by simpa using kb'
        simp only [hla, hlb, ka', kb', decide_true, decide_false, Bool.not_true, Bool.not_false, Bool.true_and, Bool.and_true, Bool.false_and, Bool.and_false] at s1 s2
        exact way18 a b c ha hb hc w L (by assumption) (by assumption) (by assumption) (by assumption) (by assumption) (by assumption) (by assumption) (by assumption) (by assumption)
    · exfalso; have := l1 hla; omega
    · exfalso; have := l1 hla; omega
theorem own : ownKnob Tryd.prog.godebug = none := by kernel_rfl
theorem door_met (os : Os) (args : Array Value) : laidMetH Tryd.prog Rows.bitsChainRow.laid ((World.doorLaid Tryd.prog 400 os).forCall (fun _ _ => 0) ⟨#[], args, []⟩).memory :=
  laidMetH_of_parts3 (fuel := 8) (laidMet_of_run' 8 (by kernel_rfl) (by kernel_rfl)) (by kernel_rfl) (by kernel_rfl)
set_option maxRecDepth 100000 in
theorem lifted (os : Os) (started : os.Started) (H : Type) (enc : TypeId × Value → H) :
    ReturnsInHanded {} Tryd.checked os 8 .any (fun w args => (Rows.bitsChainSpec.pre enc Tryd.prog Tryd.f8 [] false w args ∧ laidMetH Tryd.prog Rows.bitsChainRow.laid w) ∧ sizedMet enc Tryd.prog Tryd.f8 (OpenSpec.ofChange Rows.bitsChainSpec) false w args)
      (Rows.bitsChainSpec.post enc Tryd.prog Tryd.f8 false true false false) := by
  refine returnsInHanded_of_change_and (C := Tryd.checked) (X := fun w _ => laidMetH Tryd.prog Rows.bitsChainRow.laid w) (fun _ _ _ hh h => h.of_heap hh) own started (by kernel_rfl) Tryd.func8
    (ChangeSpec.witness_shaped (enc := enc) (C := Tryd.checked) (os := os) (X := fun w _ => laidMetH Tryd.prog Rows.bitsChainRow.laid w) false (World.doorLaid Tryd.prog 400 os) #[.int .i64 0, .int .i64 0, .int .i64 0] 8 rfl (World.shaped_of_RefB (by kernel_rfl) (by kernel_rfl)) (by kernel_rfl) (by kernel_rfl) (by kernel_rfl) (door_met os _)) ?_
  intro W base args ds gs before hval0 hW _ _ hL _
  have hval : ∀ (j : Nat) t v, Tryd.f8.params[j]? = some t → args[j]? = some v → Value.okWide Tryd.prog W .any base t v := hval0
  have hW' := hW
  obtain ⟨p, q, hA0, hV, rfl, hfz, hnd⟩ := hW
  have hA : DataW.TrodAll enc Tryd.prog W 0 (fun _ => true) true Tryd.f8.params.toList args.toList ds p := hA0
  rw [Tryd.params8] at hA hval
  obtain ⟨v0, vs0, d0, ds0, p0, q0, hargs, rfl, rfl, h0, r0⟩ := trodAll_cons hA
  obtain ⟨v1, vs1, d1, ds1, p1, q1, rfl, rfl, rfl, h1, r1⟩ := trodAll_cons r0
  obtain ⟨v2, vs2, d2, ds2, p2, q2, rfl, rfl, rfl, h2, r2⟩ := trodAll_cons r1
  obtain ⟨rfl, rfl, rfl⟩ := trodAll_nil r2
  obtain rfl : args = #[v0, v1, v2] := by cases args; simp_all
  obtain ⟨rfl, rfl⟩ := trodVars_none hV
  obtain ⟨a0, rfl, rfl, rfl, w0⟩ := open_int Tryd.underlying3 (hval 0 3 v0 rfl rfl) h0
  obtain ⟨a1, rfl, rfl, rfl, w1⟩ := open_int Tryd.underlying3 (hval 1 3 v1 rfl rfl) h1
  obtain ⟨a2, rfl, rfl, rfl, w2⟩ := open_int Tryd.underlying3 (hval 2 3 v2 rfl rfl) h2
  clear hA0 hval0
  simp only [List.append_nil] at hW'
  refine (walk a0 a1 a2 (rng_of w0) (rng_of w1) (rng_of w2) W (lays_of hL)).mono fun e W' ⟨he, hg⟩ => ?_
  subst he
  exact ⟨_, rfl, post_of_same (pa := []) (pv := []) hW' (fun _ _ _ => trodAll_cons_mk (shut_bool Tryd.underlying4 _) trodAll_mk0) (fun sp _ => (trodAll_cons_mk (shut_int Tryd.underlying3 w0) (trodAll_cons_mk (shut_int Tryd.underlying3 w1) (trodAll_cons_mk (shut_int Tryd.underlying3 w2) trodAll_mk0)))) (fun _ _ => rfl) rfl
    (hg.frame _) hg.2.1 (ok_one (by kernel_rfl) rfl (okWide_bool_mk Tryd.underlying4 _))⟩
theorem said : Rows.BitsChainSaid :=
  OpenClaim.holds_of_wide 8 Tryd.f8 rfl rfl rfl rfl rfl rfl rfl ⟨rfl, rfl, rfl, rfl, rfl⟩ rfl rfl rfl rfl rfl (by kernel_rfl) Tryd.func8 (by kernel_rfl)
    (of_decide_eq_true (by kernel_rfl)) (by unfold Func.isWrapper; first | (rw [if_pos (by decide +kernel)]; kernel_rfl) | (rw [if_neg (by decide +kernel)]; exact ⟨rfl, rfl⟩))
    (fun os started H enc _ => lifted os started H enc)
theorem plain (f : FuncId) (fn : Func) (hf : Tryd.pinned.checked.prog.funcNamed Tryd.f8.name = some f) (hfn : Tryd.pinned.checked.prog.funcs[f]? = some fn) :
    false = Tryd.pinned.checked.prog.looks [] ∧ ∀ (j : Nat) t, fn.params[j]? = some t → Tryd.pinned.checked.prog.wantsStandIn t = false := by
  obtain rfl : f = 8 := Option.some.inj ((show Tryd.prog.funcNamed Tryd.f8.name = some 8 by kernel_rfl).symm.trans hf) |>.symm
  obtain rfl : fn = Tryd.f8 := (Option.some.inj (Tryd.func8.symm.trans hfn)).symm
  refine ⟨by kernel_rfl, fun j t ht => ?_⟩
  rw [Tryd.params8] at ht
  obtain rfl : t = 3 := by simpa using Array.mem_of_getElem? ht
  exact (show Tryd.prog.wantsStandIn 3 = false by kernel_rfl)
/-- THE CARD. -/
theorem card : Rows.BitsChainCardSaid :=
  Claim7.holds_tied_plain_at .later [] _ _ _ _ said (fun _ h => by cases h) (by kernel_rfl) (fun _ h => by cases h) bitsChain_row_tie rfl ⟨rfl, rfl⟩ (by kernel_rfl) rfl plain (by kernel_rfl)
end Go.Proofs.YthppkpbfdgfcaabDoor.bitsChain
namespace Go.Proofs.YthppkpbfdgfcaabDoor
/-- BitsChain: the statement as it is given. -/
theorem bitsChain_holds : Rows.BitsChainCardSaid := bitsChain.card
end Go.Proofs.YthppkpbfdgfcaabDoor
