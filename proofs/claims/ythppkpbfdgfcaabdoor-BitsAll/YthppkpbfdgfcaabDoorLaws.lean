/-
  The six rows of plumblaw1 that hold package bits against the document's own answer, each by a contract: it answers true, in every world that holds the layouts and the library's table.
-/
import Derived.Test.YthppkpbfdgfcaabDoorUlp
import Derived.Test.YthppkpbfdgfcaabDoorOrder
import Derived.Test.YthppkpbfdgfcaabDoorRef3
import Derived.Test.YthppkpbfdgfcaabDoorRefJoin
import Derived.Test.YthppkpbfdgfcaabDoorAlive
namespace Go.Proofs.YthppkpbfdgfcaabDoor.laws
open Go Go.RowKit Go.Proofs.YthppkpbfdgfcaabDoor Go.Proofs.YthppkpbfdgfcaabDoor.M
set_option linter.unusedSimpArgs false
set_option linter.unusedVariables false

theorem parts (b : Int) (w : World) (L : Lays w) (hb : rng b) :
    Calls Tryd.prog 18 #[.int .i64 b] w fun e w' => e = .returned (.bool true) ∧ Grown w w' := by
  go_enter Tryd.func18, Tryd.ntmps18
  go_wp2_with fail
  refine (bitsParts _ _ L).mono ?_
  rintro e w1 ⟨rfl, g1⟩
  have L1 := L.grown g1
  go_wp2_with fail
  refine (refParts _ _ hb).mono ?_
  rintro e w2 ⟨rfl, rfl⟩
  go_wp2_with fail
  refine (bitsClass _ _ L1).mono ?_
  rintro e w3 ⟨rfl, g2⟩
  go_wp2_with fail
  refine (refClass _ _ hb).mono ?_
  rintro e w4 ⟨rfl, rfl⟩
  go_wp2
  go_ret
  exact ⟨rfl, gTrans g1 g2⟩
theorem parts32 (b : Int) (w : World) (L : Lays w) (hb : rng b) :
    Calls Tryd.prog 19 #[.int .i64 b] w fun e w' => e = .returned (.bool true) ∧ Grown w w' := by
  go_enter Tryd.func19, Tryd.ntmps19
  go_wp2_with fail
  refine (bitsParts32 _ _ L).mono ?_
  rintro e w1 ⟨rfl, g1⟩
  have L1 := L.grown g1
  go_wp2_with fail
  refine (refParts32 _ _).mono ?_
  rintro e w2 ⟨rfl, rfl⟩
  go_wp2_with fail
  refine (bitsClass32 _ _ L1).mono ?_
  rintro e w3 ⟨rfl, g2⟩
  go_wp2_with fail
  refine (refClass32 _ _).mono ?_
  rintro e w4 ⟨rfl, rfl⟩
  go_wp2
  go_ret
  exact ⟨rfl, gTrans g1 g2⟩
theorem joined (neg : Bool) (mag exp : Int) (w : World) (E : Env w) (hm : rng mag) (he : rng exp) :
    Calls Tryd.prog 20 #[.bool neg, .int .i64 mag, .int .i64 exp] w fun e w' => e = .returned (.bool true) ∧ Grown w w' := by
  go_enter Tryd.func20, Tryd.ntmps20
  go_wp2_with fail
  refine (Go.Proofs.YthppkpbfdgfcaabDoor.bitsJoin _ _ _ _ E hm he).mono ?_
  rintro e w1 ⟨rfl, g1⟩
  have E1 := E.grown g1
  go_wp2_with fail
  refine (refJoin _ _ _ _ hm he).mono ?_
  rintro e w2 ⟨rfl, rfl⟩
  go_wp2_with fail
  refine (bitsJoin32 _ _ _ _ E1 hm he).mono ?_
  rintro e w3 ⟨rfl, g2⟩
  go_wp2_with fail
  refine (refJoin32 _ _ _ _ hm he).mono ?_
  rintro e w4 ⟨rfl, rfl⟩
  go_wp2
  go_ret
  exact ⟨rfl, gTrans g1 g2⟩
theorem turned (b : Int) (w : World) (E : Env w) (hb : rng b) :
    Calls Tryd.prog 21 #[.int .i64 b] w fun e w' => e = .returned (.bool true) ∧ Grown w w' := by
  go_enter Tryd.func21, Tryd.ntmps21
  go_wp2_with fail
  refine (bitsNext _ _ E.lays hb).mono ?_
  rintro e w1 ⟨rfl, g1⟩
  have E1 := E.grown g1
  go_wp2_with fail
  refine (refNext _ _ hb).mono ?_
  rintro e w0 ⟨rfl, rfl⟩
  go_wp2_with fail
  refine (bitsPrev _ _ E1.lays hb).mono ?_
  rintro e w2 ⟨rfl, g2⟩
  have E2 := E1.grown g2
  go_wp2_with fail
  refine (refPrev _ _ hb).mono ?_
  rintro e w0 ⟨rfl, rfl⟩
  go_wp2_with fail
  refine (bitsUlp _ _ E2 hb).mono ?_
  rintro e w3 ⟨rfl, g3⟩
  have E3 := E2.grown g3
  go_wp2_with fail
  refine (refUlp _ _ hb).mono ?_
  rintro e w0 ⟨rfl, rfl⟩
  go_wp2_with fail
  refine (bitsNeg _ _ E3.lays hb).mono ?_
  rintro e w4 ⟨rfl, g4⟩
  have E4 := E3.grown g4
  go_wp2_with fail
  refine (refNeg _ _ hb).mono ?_
  rintro e w0 ⟨rfl, rfl⟩
  go_wp2_with fail
  refine (bitsAbs _ _ E4.lays hb).mono ?_
  rintro e w5 ⟨rfl, g5⟩
  have E5 := E4.grown g5
  go_wp2_with fail
  refine (refAbs _ _ hb).mono ?_
  rintro e w0 ⟨rfl, rfl⟩
  go_wp2_with fail
  refine (bitsCanon _ _ E5.lays).mono ?_
  rintro e w6 ⟨rfl, g6⟩
  go_wp2_with fail
  refine (refCanon _ _ hb).mono ?_
  rintro e w0 ⟨rfl, rfl⟩
  go_wp2
  go_ret
  exact ⟨rfl, gTrans (gTrans (gTrans (gTrans (gTrans g1 g2) g3) g4) g5) g6⟩
theorem turned32 (b : Int) (w : World) (L : Lays w) (hb : rng b) :
    Calls Tryd.prog 22 #[.int .i64 b] w fun e w' => e = .returned (.bool true) ∧ Grown w w' := by
  go_enter Tryd.func22, Tryd.ntmps22
  go_wp2_with fail
  refine (bitsNext32 _ _ L hb).mono ?_
  rintro e w1 ⟨rfl, g1⟩
  have L1 := L.grown g1
  go_wp2_with fail
  refine (refNext32 _ _ hb).mono ?_
  rintro e w2 ⟨rfl, rfl⟩
  go_wp2_with fail
  refine (bitsPrev32 _ _ L1 hb).mono ?_
  rintro e w3 ⟨rfl, g2⟩
  go_wp2_with fail
  refine (refPrev32 _ _ hb).mono ?_
  rintro e w4 ⟨rfl, rfl⟩
  go_wp2
  go_ret
  exact ⟨rfl, gTrans g1 g2⟩
theorem ordered (a b : Int) (w : World) (L : Lays w) (ha : rng a) (hb : rng b) :
    Calls Tryd.prog 23 #[.int .i64 a, .int .i64 b] w fun e w' => e = .returned (.bool true) ∧ Grown w w' := by
  go_enter Tryd.func23, Tryd.ntmps23
  go_wp2_with fail
  refine (bitsLess _ _ _ ha hb).mono ?_
  rintro e w1 ⟨rfl, rfl⟩
  go_wp2_with fail
  refine (refLess _ _ _ ha hb).mono ?_
  rintro e w1 ⟨rfl, rfl⟩
  go_wp2_with fail
  refine (bitsSame _ _ _ ha hb).mono ?_
  rintro e w1 ⟨rfl, rfl⟩
  go_wp2_with fail
  refine (refSame _ _ _ ha hb).mono ?_
  rintro e w1 ⟨rfl, rfl⟩
  go_wp2_with fail
  refine (bitsOrd _ _ _ L ha hb).mono ?_
  rintro e w2 ⟨rfl, g1⟩
  go_wp2_with fail
  refine (refOrd _ _ _ ha hb).mono ?_
  rintro e w3 ⟨rfl, rfl⟩
  go_wp2
  go_ret
  exact ⟨rfl, g1⟩
end Go.Proofs.YthppkpbfdgfcaabDoor.laws
