/-
  SolidTrue: for any five places by any bit patterns the law returns true: where one is no place it says so, else the signs are those of the exact values, an exchange of two places turns both signs, and two of one place make 0. As a card: the library's tables and the layout of package bits start as the program's text lays them.
-/
import Derived.Test.YtobofhgpidbpmaaDoorSt20
import Derived.Test.YtobofhgpidbpmaaDoorSt6
import Derived.Test.YtobofhgpidbpmaaDoorCards
import Derived.Test.YtobofhgpidbpmaaDoorTie
import Derived.Deep.WholeRow
set_option linter.unusedVariables false
set_option linter.unusedSimpArgs false
namespace Go.Proofs.YtobofhgpidbpmaaDoor.solidTrue
open Go Go.ChangeShapes Go.WideShapes Go.ChangeAt Go.RowKit Go.Proofs.YtobofhgpidbpmaaDoor Go.Proofs.YtobofhgpidbpmaaDoor.M
theorem hold9_of {W : World} (h : laidMetH Tryd.prog [("math/bits.deBruijn32tab", Rows.laid_math_bits_deBruijn32tab), ("math/bits.deBruijn64tab", Rows.laid_math_bits_deBruijn64tab), ("plumb/bits.binary64", Rows.laid_plumb_bits_binary64)] W) : Hold4 W := by
  have k:=hold_of h
  exact ⟨k.lay,k.tab,⟨⟨k.lay.a0,k.lay.a1,k.lay.a2,trivial,trivial,trivial⟩,k.tab⟩⟩
set_option maxRecDepth 100000 in
set_option maxHeartbeats 60000000 in
theorem walk (s:Nat->Nat->Int) (w:World) (hr:∀ i k,rng (s i k)) (H:Hold4 w) :
    Calls Tryd.prog 3 #[.agg (five s)] w fun e w'=>e=.returned (.bool true)∧Below w.heap.size w w':=by
  have CA:Hid (∀ W,Hold4 W->Calls Tryd.prog 4 #[] W fun e w'=>e=.returned (.bool true)∧Below W.heap.size W w'):=fun W HW=>alive12 W HW
  have CG:Hid (∀ W g,W.heap[g]?=some (.cells #[.int .i64 (s 0 0),.int .i64 (s 0 1),.int .i64 (s 0 2),.int .i64 (s 1 0),.int .i64 (s 1 1),.int .i64 (s 1 2),.int .i64 (s 2 0),.int .i64 (s 2 1),.int .i64 (s 2 2),.int .i64 (s 3 0),.int .i64 (s 3 1),.int .i64 (s 3 2),.int .i64 (s 4 0),.int .i64 (s 4 1),.int .i64 (s 4 2)] 24 (0,0))->Calls Tryd.prog 5 #[.slice (some ⟨g,0,none⟩) 5 5] W fun x w'=>x=.returned (.bool (allB (sok s) 5))∧Below W.heap.size W w'):=fun W g hk=>slgood_any _ 5 5 s W (sps5 s W hk) hr
  have CN:Hid (∀ W,Calls Tryd.prog 11 #[.int .i64 0] W fun r w'=>r=.returned (.int .i64 0)∧w'=W):=fun W=>lnum12 _ W
  have CS:Hid (allB (sok s) 5=true->∀ W,Below w.heap.size w W->Calls Tryd.prog 6 #[.agg #[.int .i64 (s 0 0),.int .i64 (s 0 1),.int .i64 (s 0 2)],.agg #[.int .i64 (s 1 0),.int .i64 (s 1 1),.int .i64 (s 1 2)],.agg #[.int .i64 (s 2 0),.int .i64 (s 2 1),.int .i64 (s 2 2)],.agg #[.int .i64 (s 3 0),.int .i64 (s 3 1),.int .i64 (s 3 2)]] W fun e w'=>e=.returned (.tuple #[.agg #[.int .i64 (ord (dX (vL s 3) 0 1 2) 0),.int .i64 (st_side s)],.int .i64 0])∧Below W.heap.size W w'):=fun q W hW=>sSide_ok s W hr (sok54 q) (H.keeps hW)
  have CP:Hid (allB (sok s) 5=true->∀ W,Below w.heap.size w W->Calls Tryd.prog 8 #[.agg #[.int .i64 (s 0 0),.int .i64 (s 0 1),.int .i64 (s 0 2)],.agg #[.int .i64 (s 1 0),.int .i64 (s 1 1),.int .i64 (s 1 2)],.agg #[.int .i64 (s 2 0),.int .i64 (s 2 1),.int .i64 (s 2 2)],.agg #[.int .i64 (s 3 0),.int .i64 (s 3 1),.int .i64 (s 3 2)],.agg #[.int .i64 (s 4 0),.int .i64 (s 4 1),.int .i64 (s 4 2)]] W fun e w'=>e=.returned (.tuple #[.agg #[.int .i64 (ord (sX (vL s 4)) 0),.int .i64 (st_sphere s)],.int .i64 0])∧Below W.heap.size W w'):=fun q W hW=>sSphere_ok s W hr q (H.keeps hW)
  have CX:Hid (allB (sok s) 5=true->∀ W,Below w.heap.size w W->Calls Tryd.prog 7 #[.agg #[.int .i64 (s 0 0),.int .i64 (s 0 1),.int .i64 (s 0 2)],.agg #[.int .i64 (s 1 0),.int .i64 (s 1 1),.int .i64 (s 1 2)],.agg #[.int .i64 (s 2 0),.int .i64 (s 2 1),.int .i64 (s 2 2)],.agg #[.int .i64 (s 3 0),.int .i64 (s 3 1),.int .i64 (s 3 2)]] W fun r w'=>∃ g o n c e,r=.returned (.tuple #[.agg #[.bool g,.slice o n c,.int .i64 e],.int .i64 0])∧(∀ W2,Below w'.heap.size w' W2->Calls Tryd.prog 10 #[.agg #[.bool g,.slice o n c,.int .i64 e]] W2 fun r2 w2=>r2=.returned (.int .i64 (ord (dX (vL s 3) 0 1 2) 0))∧Below W2.heap.size W2 w2)∧Below W.heap.size W w'):=fun q W hW=>by
    refine (sSideExact_ok s W hr (sok54 q) (H.keeps hW)).mono ?_
    rintro _ w' ⟨v,D,rfl,hA,hD,-,-⟩
    obtain ⟨g,o,n,c,e,rfl⟩:=dans_shape hA
    refine ⟨g,o,n,c,e,rfl,fun W2 h2=>?_,hA.below⟩
    have:=dSig (hA.num.keeps h2)
    rw [hD] at this
    exact this
  have CY:Hid (allB (sok s) 5=true->∀ W,Below w.heap.size w W->Calls Tryd.prog 9 #[.agg #[.int .i64 (s 0 0),.int .i64 (s 0 1),.int .i64 (s 0 2)],.agg #[.int .i64 (s 1 0),.int .i64 (s 1 1),.int .i64 (s 1 2)],.agg #[.int .i64 (s 2 0),.int .i64 (s 2 1),.int .i64 (s 2 2)],.agg #[.int .i64 (s 3 0),.int .i64 (s 3 1),.int .i64 (s 3 2)],.agg #[.int .i64 (s 4 0),.int .i64 (s 4 1),.int .i64 (s 4 2)]] W fun r w'=>∃ g o n c e,r=.returned (.tuple #[.agg #[.bool g,.slice o n c,.int .i64 e],.int .i64 0])∧(∀ W2,Below w'.heap.size w' W2->Calls Tryd.prog 10 #[.agg #[.bool g,.slice o n c,.int .i64 e]] W2 fun r2 w2=>r2=.returned (.int .i64 (ord (sX (vL s 4)) 0))∧Below W2.heap.size W2 w2)∧Below W.heap.size W w'):=fun q W hW=>by
    refine (sSphereExact_ok s W hr q (H.keeps hW)).mono ?_
    rintro _ w' ⟨v,D,rfl,hA,hD,-,-⟩
    obtain ⟨g,o,n,c,e,rfl⟩:=dans_shape hA
    refine ⟨g,o,n,c,e,rfl,fun W2 h2=>?_,hA.below⟩
    have:=dSig (hA.num.keeps h2)
    rw [hD] at this
    exact this
  have CP01:Hid (allB (sok s) 5=true->∀ W,Below w.heap.size w W->Calls Tryd.prog 8 #[.agg #[.int .i64 (s 1 0),.int .i64 (s 1 1),.int .i64 (s 1 2)],.agg #[.int .i64 (s 0 0),.int .i64 (s 0 1),.int .i64 (s 0 2)],.agg #[.int .i64 (s 2 0),.int .i64 (s 2 1),.int .i64 (s 2 2)],.agg #[.int .i64 (s 3 0),.int .i64 (s 3 1),.int .i64 (s 3 2)],.agg #[.int .i64 (s 4 0),.int .i64 (s 4 1),.int .i64 (s 4 2)]] W fun e w'=>e=.returned (.tuple #[.agg #[.int .i64 (- ord (sX (vL s 4)) 0),.int .i64 (st_sphere (sw s 0 1))],.int .i64 0])∧Below W.heap.size W w'):=fun q W hW=>by
    have:=sSphere_ok (sw s 0 1) W (rng_sw hr 0 1) (sok_sw q (by decide) (by decide)) (H.keeps hW)
    rw [ord_sph_sw s (by decide) (by decide)] at this
    exact this
  have CD01:Hid (allB (sok s) 5=true->∀ W,Below w.heap.size w W->Calls Tryd.prog 8 #[.agg #[.int .i64 (s 1 0),.int .i64 (s 1 1),.int .i64 (s 1 2)],.agg #[.int .i64 (s 1 0),.int .i64 (s 1 1),.int .i64 (s 1 2)],.agg #[.int .i64 (s 2 0),.int .i64 (s 2 1),.int .i64 (s 2 2)],.agg #[.int .i64 (s 3 0),.int .i64 (s 3 1),.int .i64 (s 3 2)],.agg #[.int .i64 (s 4 0),.int .i64 (s 4 1),.int .i64 (s 4 2)]] W fun e w'=>e=.returned (.tuple #[.agg #[.int .i64 0,.int .i64 (st_sphere (cp s 0 1))],.int .i64 0])∧Below W.heap.size W w'):=fun q W hW=>by
    have:=sSphere_ok (cp s 0 1) W (rng_cp hr 0 1) (sok_cp q (by decide)) (H.keeps hW)
    rw [ord_sph_cp s (by decide) (by decide)] at this
    exact this
  have CS01:Hid (allB (sok s) 5=true->∀ W,Below w.heap.size w W->Calls Tryd.prog 6 #[.agg #[.int .i64 (s 1 0),.int .i64 (s 1 1),.int .i64 (s 1 2)],.agg #[.int .i64 (s 0 0),.int .i64 (s 0 1),.int .i64 (s 0 2)],.agg #[.int .i64 (s 2 0),.int .i64 (s 2 1),.int .i64 (s 2 2)],.agg #[.int .i64 (s 3 0),.int .i64 (s 3 1),.int .i64 (s 3 2)]] W fun e w'=>e=.returned (.tuple #[.agg #[.int .i64 (- ord (dX (vL s 3) 0 1 2) 0),.int .i64 (st_side (sw s 0 1))],.int .i64 0])∧Below W.heap.size W w'):=fun q W hW=>by
    have:=sSide_ok (sw s 0 1) W (rng_sw hr 0 1) (sok_sw (sok54 q) (by decide) (by decide)) (H.keeps hW)
    rw [ord_side_sw s (by decide) (by decide)] at this
    exact this
  have CP02:Hid (allB (sok s) 5=true->∀ W,Below w.heap.size w W->Calls Tryd.prog 8 #[.agg #[.int .i64 (s 2 0),.int .i64 (s 2 1),.int .i64 (s 2 2)],.agg #[.int .i64 (s 1 0),.int .i64 (s 1 1),.int .i64 (s 1 2)],.agg #[.int .i64 (s 0 0),.int .i64 (s 0 1),.int .i64 (s 0 2)],.agg #[.int .i64 (s 3 0),.int .i64 (s 3 1),.int .i64 (s 3 2)],.agg #[.int .i64 (s 4 0),.int .i64 (s 4 1),.int .i64 (s 4 2)]] W fun e w'=>e=.returned (.tuple #[.agg #[.int .i64 (- ord (sX (vL s 4)) 0),.int .i64 (st_sphere (sw s 0 2))],.int .i64 0])∧Below W.heap.size W w'):=fun q W hW=>by
    have:=sSphere_ok (sw s 0 2) W (rng_sw hr 0 2) (sok_sw q (by decide) (by decide)) (H.keeps hW)
    rw [ord_sph_sw s (by decide) (by decide)] at this
    exact this
  have CD02:Hid (allB (sok s) 5=true->∀ W,Below w.heap.size w W->Calls Tryd.prog 8 #[.agg #[.int .i64 (s 2 0),.int .i64 (s 2 1),.int .i64 (s 2 2)],.agg #[.int .i64 (s 1 0),.int .i64 (s 1 1),.int .i64 (s 1 2)],.agg #[.int .i64 (s 2 0),.int .i64 (s 2 1),.int .i64 (s 2 2)],.agg #[.int .i64 (s 3 0),.int .i64 (s 3 1),.int .i64 (s 3 2)],.agg #[.int .i64 (s 4 0),.int .i64 (s 4 1),.int .i64 (s 4 2)]] W fun e w'=>e=.returned (.tuple #[.agg #[.int .i64 0,.int .i64 (st_sphere (cp s 0 2))],.int .i64 0])∧Below W.heap.size W w'):=fun q W hW=>by
    have:=sSphere_ok (cp s 0 2) W (rng_cp hr 0 2) (sok_cp q (by decide)) (H.keeps hW)
    rw [ord_sph_cp s (by decide) (by decide)] at this
    exact this
  have CS02:Hid (allB (sok s) 5=true->∀ W,Below w.heap.size w W->Calls Tryd.prog 6 #[.agg #[.int .i64 (s 2 0),.int .i64 (s 2 1),.int .i64 (s 2 2)],.agg #[.int .i64 (s 1 0),.int .i64 (s 1 1),.int .i64 (s 1 2)],.agg #[.int .i64 (s 0 0),.int .i64 (s 0 1),.int .i64 (s 0 2)],.agg #[.int .i64 (s 3 0),.int .i64 (s 3 1),.int .i64 (s 3 2)]] W fun e w'=>e=.returned (.tuple #[.agg #[.int .i64 (- ord (dX (vL s 3) 0 1 2) 0),.int .i64 (st_side (sw s 0 2))],.int .i64 0])∧Below W.heap.size W w'):=fun q W hW=>by
    have:=sSide_ok (sw s 0 2) W (rng_sw hr 0 2) (sok_sw (sok54 q) (by decide) (by decide)) (H.keeps hW)
    rw [ord_side_sw s (by decide) (by decide)] at this
    exact this
  have CP03:Hid (allB (sok s) 5=true->∀ W,Below w.heap.size w W->Calls Tryd.prog 8 #[.agg #[.int .i64 (s 3 0),.int .i64 (s 3 1),.int .i64 (s 3 2)],.agg #[.int .i64 (s 1 0),.int .i64 (s 1 1),.int .i64 (s 1 2)],.agg #[.int .i64 (s 2 0),.int .i64 (s 2 1),.int .i64 (s 2 2)],.agg #[.int .i64 (s 0 0),.int .i64 (s 0 1),.int .i64 (s 0 2)],.agg #[.int .i64 (s 4 0),.int .i64 (s 4 1),.int .i64 (s 4 2)]] W fun e w'=>e=.returned (.tuple #[.agg #[.int .i64 (- ord (sX (vL s 4)) 0),.int .i64 (st_sphere (sw s 0 3))],.int .i64 0])∧Below W.heap.size W w'):=fun q W hW=>by
    have:=sSphere_ok (sw s 0 3) W (rng_sw hr 0 3) (sok_sw q (by decide) (by decide)) (H.keeps hW)
    rw [ord_sph_sw s (by decide) (by decide)] at this
    exact this
  have CD03:Hid (allB (sok s) 5=true->∀ W,Below w.heap.size w W->Calls Tryd.prog 8 #[.agg #[.int .i64 (s 3 0),.int .i64 (s 3 1),.int .i64 (s 3 2)],.agg #[.int .i64 (s 1 0),.int .i64 (s 1 1),.int .i64 (s 1 2)],.agg #[.int .i64 (s 2 0),.int .i64 (s 2 1),.int .i64 (s 2 2)],.agg #[.int .i64 (s 3 0),.int .i64 (s 3 1),.int .i64 (s 3 2)],.agg #[.int .i64 (s 4 0),.int .i64 (s 4 1),.int .i64 (s 4 2)]] W fun e w'=>e=.returned (.tuple #[.agg #[.int .i64 0,.int .i64 (st_sphere (cp s 0 3))],.int .i64 0])∧Below W.heap.size W w'):=fun q W hW=>by
    have:=sSphere_ok (cp s 0 3) W (rng_cp hr 0 3) (sok_cp q (by decide)) (H.keeps hW)
    rw [ord_sph_cp s (by decide) (by decide)] at this
    exact this
  have CS03:Hid (allB (sok s) 5=true->∀ W,Below w.heap.size w W->Calls Tryd.prog 6 #[.agg #[.int .i64 (s 3 0),.int .i64 (s 3 1),.int .i64 (s 3 2)],.agg #[.int .i64 (s 1 0),.int .i64 (s 1 1),.int .i64 (s 1 2)],.agg #[.int .i64 (s 2 0),.int .i64 (s 2 1),.int .i64 (s 2 2)],.agg #[.int .i64 (s 0 0),.int .i64 (s 0 1),.int .i64 (s 0 2)]] W fun e w'=>e=.returned (.tuple #[.agg #[.int .i64 (- ord (dX (vL s 3) 0 1 2) 0),.int .i64 (st_side (sw s 0 3))],.int .i64 0])∧Below W.heap.size W w'):=fun q W hW=>by
    have:=sSide_ok (sw s 0 3) W (rng_sw hr 0 3) (sok_sw (sok54 q) (by decide) (by decide)) (H.keeps hW)
    rw [ord_side_sw s (by decide) (by decide)] at this
    exact this
  have CP04:Hid (allB (sok s) 5=true->∀ W,Below w.heap.size w W->Calls Tryd.prog 8 #[.agg #[.int .i64 (s 4 0),.int .i64 (s 4 1),.int .i64 (s 4 2)],.agg #[.int .i64 (s 1 0),.int .i64 (s 1 1),.int .i64 (s 1 2)],.agg #[.int .i64 (s 2 0),.int .i64 (s 2 1),.int .i64 (s 2 2)],.agg #[.int .i64 (s 3 0),.int .i64 (s 3 1),.int .i64 (s 3 2)],.agg #[.int .i64 (s 0 0),.int .i64 (s 0 1),.int .i64 (s 0 2)]] W fun e w'=>e=.returned (.tuple #[.agg #[.int .i64 (- ord (sX (vL s 4)) 0),.int .i64 (st_sphere (sw s 0 4))],.int .i64 0])∧Below W.heap.size W w'):=fun q W hW=>by
    have:=sSphere_ok (sw s 0 4) W (rng_sw hr 0 4) (sok_sw q (by decide) (by decide)) (H.keeps hW)
    rw [ord_sph_sw s (by decide) (by decide)] at this
    exact this
  have CD04:Hid (allB (sok s) 5=true->∀ W,Below w.heap.size w W->Calls Tryd.prog 8 #[.agg #[.int .i64 (s 4 0),.int .i64 (s 4 1),.int .i64 (s 4 2)],.agg #[.int .i64 (s 1 0),.int .i64 (s 1 1),.int .i64 (s 1 2)],.agg #[.int .i64 (s 2 0),.int .i64 (s 2 1),.int .i64 (s 2 2)],.agg #[.int .i64 (s 3 0),.int .i64 (s 3 1),.int .i64 (s 3 2)],.agg #[.int .i64 (s 4 0),.int .i64 (s 4 1),.int .i64 (s 4 2)]] W fun e w'=>e=.returned (.tuple #[.agg #[.int .i64 0,.int .i64 (st_sphere (cp s 0 4))],.int .i64 0])∧Below W.heap.size W w'):=fun q W hW=>by
    have:=sSphere_ok (cp s 0 4) W (rng_cp hr 0 4) (sok_cp q (by decide)) (H.keeps hW)
    rw [ord_sph_cp s (by decide) (by decide)] at this
    exact this
  have CP12:Hid (allB (sok s) 5=true->∀ W,Below w.heap.size w W->Calls Tryd.prog 8 #[.agg #[.int .i64 (s 0 0),.int .i64 (s 0 1),.int .i64 (s 0 2)],.agg #[.int .i64 (s 2 0),.int .i64 (s 2 1),.int .i64 (s 2 2)],.agg #[.int .i64 (s 1 0),.int .i64 (s 1 1),.int .i64 (s 1 2)],.agg #[.int .i64 (s 3 0),.int .i64 (s 3 1),.int .i64 (s 3 2)],.agg #[.int .i64 (s 4 0),.int .i64 (s 4 1),.int .i64 (s 4 2)]] W fun e w'=>e=.returned (.tuple #[.agg #[.int .i64 (- ord (sX (vL s 4)) 0),.int .i64 (st_sphere (sw s 1 2))],.int .i64 0])∧Below W.heap.size W w'):=fun q W hW=>by
    have:=sSphere_ok (sw s 1 2) W (rng_sw hr 1 2) (sok_sw q (by decide) (by decide)) (H.keeps hW)
    rw [ord_sph_sw s (by decide) (by decide)] at this
    exact this
  have CD12:Hid (allB (sok s) 5=true->∀ W,Below w.heap.size w W->Calls Tryd.prog 8 #[.agg #[.int .i64 (s 0 0),.int .i64 (s 0 1),.int .i64 (s 0 2)],.agg #[.int .i64 (s 2 0),.int .i64 (s 2 1),.int .i64 (s 2 2)],.agg #[.int .i64 (s 2 0),.int .i64 (s 2 1),.int .i64 (s 2 2)],.agg #[.int .i64 (s 3 0),.int .i64 (s 3 1),.int .i64 (s 3 2)],.agg #[.int .i64 (s 4 0),.int .i64 (s 4 1),.int .i64 (s 4 2)]] W fun e w'=>e=.returned (.tuple #[.agg #[.int .i64 0,.int .i64 (st_sphere (cp s 1 2))],.int .i64 0])∧Below W.heap.size W w'):=fun q W hW=>by
    have:=sSphere_ok (cp s 1 2) W (rng_cp hr 1 2) (sok_cp q (by decide)) (H.keeps hW)
    rw [ord_sph_cp s (by decide) (by decide)] at this
    exact this
  have CS12:Hid (allB (sok s) 5=true->∀ W,Below w.heap.size w W->Calls Tryd.prog 6 #[.agg #[.int .i64 (s 0 0),.int .i64 (s 0 1),.int .i64 (s 0 2)],.agg #[.int .i64 (s 2 0),.int .i64 (s 2 1),.int .i64 (s 2 2)],.agg #[.int .i64 (s 1 0),.int .i64 (s 1 1),.int .i64 (s 1 2)],.agg #[.int .i64 (s 3 0),.int .i64 (s 3 1),.int .i64 (s 3 2)]] W fun e w'=>e=.returned (.tuple #[.agg #[.int .i64 (- ord (dX (vL s 3) 0 1 2) 0),.int .i64 (st_side (sw s 1 2))],.int .i64 0])∧Below W.heap.size W w'):=fun q W hW=>by
    have:=sSide_ok (sw s 1 2) W (rng_sw hr 1 2) (sok_sw (sok54 q) (by decide) (by decide)) (H.keeps hW)
    rw [ord_side_sw s (by decide) (by decide)] at this
    exact this
  have CP13:Hid (allB (sok s) 5=true->∀ W,Below w.heap.size w W->Calls Tryd.prog 8 #[.agg #[.int .i64 (s 0 0),.int .i64 (s 0 1),.int .i64 (s 0 2)],.agg #[.int .i64 (s 3 0),.int .i64 (s 3 1),.int .i64 (s 3 2)],.agg #[.int .i64 (s 2 0),.int .i64 (s 2 1),.int .i64 (s 2 2)],.agg #[.int .i64 (s 1 0),.int .i64 (s 1 1),.int .i64 (s 1 2)],.agg #[.int .i64 (s 4 0),.int .i64 (s 4 1),.int .i64 (s 4 2)]] W fun e w'=>e=.returned (.tuple #[.agg #[.int .i64 (- ord (sX (vL s 4)) 0),.int .i64 (st_sphere (sw s 1 3))],.int .i64 0])∧Below W.heap.size W w'):=fun q W hW=>by
    have:=sSphere_ok (sw s 1 3) W (rng_sw hr 1 3) (sok_sw q (by decide) (by decide)) (H.keeps hW)
    rw [ord_sph_sw s (by decide) (by decide)] at this
    exact this
  have CD13:Hid (allB (sok s) 5=true->∀ W,Below w.heap.size w W->Calls Tryd.prog 8 #[.agg #[.int .i64 (s 0 0),.int .i64 (s 0 1),.int .i64 (s 0 2)],.agg #[.int .i64 (s 3 0),.int .i64 (s 3 1),.int .i64 (s 3 2)],.agg #[.int .i64 (s 2 0),.int .i64 (s 2 1),.int .i64 (s 2 2)],.agg #[.int .i64 (s 3 0),.int .i64 (s 3 1),.int .i64 (s 3 2)],.agg #[.int .i64 (s 4 0),.int .i64 (s 4 1),.int .i64 (s 4 2)]] W fun e w'=>e=.returned (.tuple #[.agg #[.int .i64 0,.int .i64 (st_sphere (cp s 1 3))],.int .i64 0])∧Below W.heap.size W w'):=fun q W hW=>by
    have:=sSphere_ok (cp s 1 3) W (rng_cp hr 1 3) (sok_cp q (by decide)) (H.keeps hW)
    rw [ord_sph_cp s (by decide) (by decide)] at this
    exact this
  have CS13:Hid (allB (sok s) 5=true->∀ W,Below w.heap.size w W->Calls Tryd.prog 6 #[.agg #[.int .i64 (s 0 0),.int .i64 (s 0 1),.int .i64 (s 0 2)],.agg #[.int .i64 (s 3 0),.int .i64 (s 3 1),.int .i64 (s 3 2)],.agg #[.int .i64 (s 2 0),.int .i64 (s 2 1),.int .i64 (s 2 2)],.agg #[.int .i64 (s 1 0),.int .i64 (s 1 1),.int .i64 (s 1 2)]] W fun e w'=>e=.returned (.tuple #[.agg #[.int .i64 (- ord (dX (vL s 3) 0 1 2) 0),.int .i64 (st_side (sw s 1 3))],.int .i64 0])∧Below W.heap.size W w'):=fun q W hW=>by
    have:=sSide_ok (sw s 1 3) W (rng_sw hr 1 3) (sok_sw (sok54 q) (by decide) (by decide)) (H.keeps hW)
    rw [ord_side_sw s (by decide) (by decide)] at this
    exact this
  have CP14:Hid (allB (sok s) 5=true->∀ W,Below w.heap.size w W->Calls Tryd.prog 8 #[.agg #[.int .i64 (s 0 0),.int .i64 (s 0 1),.int .i64 (s 0 2)],.agg #[.int .i64 (s 4 0),.int .i64 (s 4 1),.int .i64 (s 4 2)],.agg #[.int .i64 (s 2 0),.int .i64 (s 2 1),.int .i64 (s 2 2)],.agg #[.int .i64 (s 3 0),.int .i64 (s 3 1),.int .i64 (s 3 2)],.agg #[.int .i64 (s 1 0),.int .i64 (s 1 1),.int .i64 (s 1 2)]] W fun e w'=>e=.returned (.tuple #[.agg #[.int .i64 (- ord (sX (vL s 4)) 0),.int .i64 (st_sphere (sw s 1 4))],.int .i64 0])∧Below W.heap.size W w'):=fun q W hW=>by
    have:=sSphere_ok (sw s 1 4) W (rng_sw hr 1 4) (sok_sw q (by decide) (by decide)) (H.keeps hW)
    rw [ord_sph_sw s (by decide) (by decide)] at this
    exact this
  have CD14:Hid (allB (sok s) 5=true->∀ W,Below w.heap.size w W->Calls Tryd.prog 8 #[.agg #[.int .i64 (s 0 0),.int .i64 (s 0 1),.int .i64 (s 0 2)],.agg #[.int .i64 (s 4 0),.int .i64 (s 4 1),.int .i64 (s 4 2)],.agg #[.int .i64 (s 2 0),.int .i64 (s 2 1),.int .i64 (s 2 2)],.agg #[.int .i64 (s 3 0),.int .i64 (s 3 1),.int .i64 (s 3 2)],.agg #[.int .i64 (s 4 0),.int .i64 (s 4 1),.int .i64 (s 4 2)]] W fun e w'=>e=.returned (.tuple #[.agg #[.int .i64 0,.int .i64 (st_sphere (cp s 1 4))],.int .i64 0])∧Below W.heap.size W w'):=fun q W hW=>by
    have:=sSphere_ok (cp s 1 4) W (rng_cp hr 1 4) (sok_cp q (by decide)) (H.keeps hW)
    rw [ord_sph_cp s (by decide) (by decide)] at this
    exact this
  have CP23:Hid (allB (sok s) 5=true->∀ W,Below w.heap.size w W->Calls Tryd.prog 8 #[.agg #[.int .i64 (s 0 0),.int .i64 (s 0 1),.int .i64 (s 0 2)],.agg #[.int .i64 (s 1 0),.int .i64 (s 1 1),.int .i64 (s 1 2)],.agg #[.int .i64 (s 3 0),.int .i64 (s 3 1),.int .i64 (s 3 2)],.agg #[.int .i64 (s 2 0),.int .i64 (s 2 1),.int .i64 (s 2 2)],.agg #[.int .i64 (s 4 0),.int .i64 (s 4 1),.int .i64 (s 4 2)]] W fun e w'=>e=.returned (.tuple #[.agg #[.int .i64 (- ord (sX (vL s 4)) 0),.int .i64 (st_sphere (sw s 2 3))],.int .i64 0])∧Below W.heap.size W w'):=fun q W hW=>by
    have:=sSphere_ok (sw s 2 3) W (rng_sw hr 2 3) (sok_sw q (by decide) (by decide)) (H.keeps hW)
    rw [ord_sph_sw s (by decide) (by decide)] at this
    exact this
  have CD23:Hid (allB (sok s) 5=true->∀ W,Below w.heap.size w W->Calls Tryd.prog 8 #[.agg #[.int .i64 (s 0 0),.int .i64 (s 0 1),.int .i64 (s 0 2)],.agg #[.int .i64 (s 1 0),.int .i64 (s 1 1),.int .i64 (s 1 2)],.agg #[.int .i64 (s 3 0),.int .i64 (s 3 1),.int .i64 (s 3 2)],.agg #[.int .i64 (s 3 0),.int .i64 (s 3 1),.int .i64 (s 3 2)],.agg #[.int .i64 (s 4 0),.int .i64 (s 4 1),.int .i64 (s 4 2)]] W fun e w'=>e=.returned (.tuple #[.agg #[.int .i64 0,.int .i64 (st_sphere (cp s 2 3))],.int .i64 0])∧Below W.heap.size W w'):=fun q W hW=>by
    have:=sSphere_ok (cp s 2 3) W (rng_cp hr 2 3) (sok_cp q (by decide)) (H.keeps hW)
    rw [ord_sph_cp s (by decide) (by decide)] at this
    exact this
  have CS23:Hid (allB (sok s) 5=true->∀ W,Below w.heap.size w W->Calls Tryd.prog 6 #[.agg #[.int .i64 (s 0 0),.int .i64 (s 0 1),.int .i64 (s 0 2)],.agg #[.int .i64 (s 1 0),.int .i64 (s 1 1),.int .i64 (s 1 2)],.agg #[.int .i64 (s 3 0),.int .i64 (s 3 1),.int .i64 (s 3 2)],.agg #[.int .i64 (s 2 0),.int .i64 (s 2 1),.int .i64 (s 2 2)]] W fun e w'=>e=.returned (.tuple #[.agg #[.int .i64 (- ord (dX (vL s 3) 0 1 2) 0),.int .i64 (st_side (sw s 2 3))],.int .i64 0])∧Below W.heap.size W w'):=fun q W hW=>by
    have:=sSide_ok (sw s 2 3) W (rng_sw hr 2 3) (sok_sw (sok54 q) (by decide) (by decide)) (H.keeps hW)
    rw [ord_side_sw s (by decide) (by decide)] at this
    exact this
  have CP24:Hid (allB (sok s) 5=true->∀ W,Below w.heap.size w W->Calls Tryd.prog 8 #[.agg #[.int .i64 (s 0 0),.int .i64 (s 0 1),.int .i64 (s 0 2)],.agg #[.int .i64 (s 1 0),.int .i64 (s 1 1),.int .i64 (s 1 2)],.agg #[.int .i64 (s 4 0),.int .i64 (s 4 1),.int .i64 (s 4 2)],.agg #[.int .i64 (s 3 0),.int .i64 (s 3 1),.int .i64 (s 3 2)],.agg #[.int .i64 (s 2 0),.int .i64 (s 2 1),.int .i64 (s 2 2)]] W fun e w'=>e=.returned (.tuple #[.agg #[.int .i64 (- ord (sX (vL s 4)) 0),.int .i64 (st_sphere (sw s 2 4))],.int .i64 0])∧Below W.heap.size W w'):=fun q W hW=>by
    have:=sSphere_ok (sw s 2 4) W (rng_sw hr 2 4) (sok_sw q (by decide) (by decide)) (H.keeps hW)
    rw [ord_sph_sw s (by decide) (by decide)] at this
    exact this
  have CD24:Hid (allB (sok s) 5=true->∀ W,Below w.heap.size w W->Calls Tryd.prog 8 #[.agg #[.int .i64 (s 0 0),.int .i64 (s 0 1),.int .i64 (s 0 2)],.agg #[.int .i64 (s 1 0),.int .i64 (s 1 1),.int .i64 (s 1 2)],.agg #[.int .i64 (s 4 0),.int .i64 (s 4 1),.int .i64 (s 4 2)],.agg #[.int .i64 (s 3 0),.int .i64 (s 3 1),.int .i64 (s 3 2)],.agg #[.int .i64 (s 4 0),.int .i64 (s 4 1),.int .i64 (s 4 2)]] W fun e w'=>e=.returned (.tuple #[.agg #[.int .i64 0,.int .i64 (st_sphere (cp s 2 4))],.int .i64 0])∧Below W.heap.size W w'):=fun q W hW=>by
    have:=sSphere_ok (cp s 2 4) W (rng_cp hr 2 4) (sok_cp q (by decide)) (H.keeps hW)
    rw [ord_sph_cp s (by decide) (by decide)] at this
    exact this
  have CP34:Hid (allB (sok s) 5=true->∀ W,Below w.heap.size w W->Calls Tryd.prog 8 #[.agg #[.int .i64 (s 0 0),.int .i64 (s 0 1),.int .i64 (s 0 2)],.agg #[.int .i64 (s 1 0),.int .i64 (s 1 1),.int .i64 (s 1 2)],.agg #[.int .i64 (s 2 0),.int .i64 (s 2 1),.int .i64 (s 2 2)],.agg #[.int .i64 (s 4 0),.int .i64 (s 4 1),.int .i64 (s 4 2)],.agg #[.int .i64 (s 3 0),.int .i64 (s 3 1),.int .i64 (s 3 2)]] W fun e w'=>e=.returned (.tuple #[.agg #[.int .i64 (- ord (sX (vL s 4)) 0),.int .i64 (st_sphere (sw s 3 4))],.int .i64 0])∧Below W.heap.size W w'):=fun q W hW=>by
    have:=sSphere_ok (sw s 3 4) W (rng_sw hr 3 4) (sok_sw q (by decide) (by decide)) (H.keeps hW)
    rw [ord_sph_sw s (by decide) (by decide)] at this
    exact this
  have CD34:Hid (allB (sok s) 5=true->∀ W,Below w.heap.size w W->Calls Tryd.prog 8 #[.agg #[.int .i64 (s 0 0),.int .i64 (s 0 1),.int .i64 (s 0 2)],.agg #[.int .i64 (s 1 0),.int .i64 (s 1 1),.int .i64 (s 1 2)],.agg #[.int .i64 (s 2 0),.int .i64 (s 2 1),.int .i64 (s 2 2)],.agg #[.int .i64 (s 4 0),.int .i64 (s 4 1),.int .i64 (s 4 2)],.agg #[.int .i64 (s 4 0),.int .i64 (s 4 1),.int .i64 (s 4 2)]] W fun e w'=>e=.returned (.tuple #[.agg #[.int .i64 0,.int .i64 (st_sphere (cp s 3 4))],.int .i64 0])∧Below W.heap.size W w'):=fun q W hW=>by
    have:=sSphere_ok (cp s 3 4) W (rng_cp hr 3 4) (sok_cp q (by decide)) (H.keeps hW)
    rw [ord_sph_cp s (by decide) (by decide)] at this
    exact this
  clear hr
  have hvs:-1<=ord (dX (vL s 3) 0 1 2) 0∧ord (dX (vL s 3) 0 1 2) 0<=1:=by unfold ord; split <;> (try split) <;> omega
  have hws:-1<=ord (sX (vL s 4)) 0∧ord (sX (vL s 4)) 0<=1:=by unfold ord; split <;> (try split) <;> omega
  generalize ord (dX (vL s 3) 0 1 2) 0=vs at *
  generalize ord (sX (vL s 4)) 0=ws at *
  generalize st_side s=st at *
  generalize st_sphere s=sv at *
  generalize st_sphere (sw s 0 1)=tp01 at *
  generalize st_sphere (cp s 0 1)=td01 at *
  generalize st_side (sw s 0 1)=ts01 at *
  generalize st_sphere (sw s 0 2)=tp02 at *
  generalize st_sphere (cp s 0 2)=td02 at *
  generalize st_side (sw s 0 2)=ts02 at *
  generalize st_sphere (sw s 0 3)=tp03 at *
  generalize st_sphere (cp s 0 3)=td03 at *
  generalize st_side (sw s 0 3)=ts03 at *
  generalize st_sphere (sw s 0 4)=tp04 at *
  generalize st_sphere (cp s 0 4)=td04 at *
  generalize st_sphere (sw s 1 2)=tp12 at *
  generalize st_sphere (cp s 1 2)=td12 at *
  generalize st_side (sw s 1 2)=ts12 at *
  generalize st_sphere (sw s 1 3)=tp13 at *
  generalize st_sphere (cp s 1 3)=td13 at *
  generalize st_side (sw s 1 3)=ts13 at *
  generalize st_sphere (sw s 1 4)=tp14 at *
  generalize st_sphere (cp s 1 4)=td14 at *
  generalize st_sphere (sw s 2 3)=tp23 at *
  generalize st_sphere (cp s 2 3)=td23 at *
  generalize st_side (sw s 2 3)=ts23 at *
  generalize st_sphere (sw s 2 4)=tp24 at *
  generalize st_sphere (cp s 2 4)=td24 at *
  generalize st_sphere (sw s 3 4)=tp34 at *
  generalize st_sphere (cp s 3 4)=td34 at *
  generalize allB (sok s) 5=b at *
  have nvs:IntKind.i64.wrap (-vs)=-vs:=by
    have q:vs=-1∨vs=0∨vs=1:=by omega
    rcases q with rfl | rfl | rfl <;> decide
  have nws:IntKind.i64.wrap (-ws)=-ws:=by
    have q:ws=-1∨ws=0∨ws=1:=by omega
    rcases q with rfl | rfl | rfl <;> decide
  unfold five
  go_enter Tryd.func3,Tryd.ntmps3
  have l_k:=heap_a1 w (.cells #[.int .i64 (s 0 0),.int .i64 (s 0 1),.int .i64 (s 0 2),.int .i64 (s 1 0),.int .i64 (s 1 1),.int .i64 (s 1 2),.int .i64 (s 2 0),.int .i64 (s 2 1),.int .i64 (s 2 2),.int .i64 (s 3 0),.int .i64 (s 3 1),.int .i64 (s 3 2),.int .i64 (s 4 0),.int .i64 (s 4 1),.int .i64 (s 4 2)] 24)
  have hb:=bel_alloc w (.cells #[.int .i64 (s 0 0),.int .i64 (s 0 1),.int .i64 (s 0 2),.int .i64 (s 1 0),.int .i64 (s 1 1),.int .i64 (s 1 2),.int .i64 (s 2 0),.int .i64 (s 2 1),.int .i64 (s 2 2),.int .i64 (s 3 0),.int .i64 (s 3 1),.int .i64 (s 3 2),.int .i64 (s 4 0),.int .i64 (s 4 1),.int .i64 (s 4 2)] 24)
  have H1:=H.keeps hb
  go_wp2_with fail
  generalize w.alloc (.cells #[.int .i64 (s 0 0),.int .i64 (s 0 1),.int .i64 (s 0 2),.int .i64 (s 1 0),.int .i64 (s 1 1),.int .i64 (s 1 2),.int .i64 (s 2 0),.int .i64 (s 2 1),.int .i64 (s 2 2),.int .i64 (s 3 0),.int .i64 (s 3 1),.int .i64 (s 3 2),.int .i64 (s 4 0),.int .i64 (s 4 1),.int .i64 (s 4 2)] 24)=x1 at l_k hb H1 ⊢
  refine (CA.out _ H1).mono ?_
  rintro _ y1 ⟨rfl,h1⟩
  replace l_k:=blk_us h1 l_k
  replace hb:=bel_trans hb h1
  clear h1 H1
  go_wp2_with fail
  refine (CG.out _ _ l_k).mono ?_
  rintro _ y2 ⟨rfl,h2⟩
  replace l_k:=blk_us h2 l_k
  replace hb:=bel_trans hb h2
  clear h2
  cases b
  . go_wp2
    go_ret
    exact ⟨rfl,hb⟩
  . replace CS:Hid _:=hideIt (CS.out rfl)
    replace CP:Hid _:=hideIt (CP.out rfl)
    replace CX:Hid _:=hideIt (CX.out rfl)
    replace CY:Hid _:=hideIt (CY.out rfl)
    replace CP01:Hid _:=hideIt (CP01.out rfl)
    replace CD01:Hid _:=hideIt (CD01.out rfl)
    replace CS01:Hid _:=hideIt (CS01.out rfl)
    replace CP02:Hid _:=hideIt (CP02.out rfl)
    replace CD02:Hid _:=hideIt (CD02.out rfl)
    replace CS02:Hid _:=hideIt (CS02.out rfl)
    replace CP03:Hid _:=hideIt (CP03.out rfl)
    replace CD03:Hid _:=hideIt (CD03.out rfl)
    replace CS03:Hid _:=hideIt (CS03.out rfl)
    replace CP04:Hid _:=hideIt (CP04.out rfl)
    replace CD04:Hid _:=hideIt (CD04.out rfl)
    replace CP12:Hid _:=hideIt (CP12.out rfl)
    replace CD12:Hid _:=hideIt (CD12.out rfl)
    replace CS12:Hid _:=hideIt (CS12.out rfl)
    replace CP13:Hid _:=hideIt (CP13.out rfl)
    replace CD13:Hid _:=hideIt (CD13.out rfl)
    replace CS13:Hid _:=hideIt (CS13.out rfl)
    replace CP14:Hid _:=hideIt (CP14.out rfl)
    replace CD14:Hid _:=hideIt (CD14.out rfl)
    replace CP23:Hid _:=hideIt (CP23.out rfl)
    replace CD23:Hid _:=hideIt (CD23.out rfl)
    replace CS23:Hid _:=hideIt (CS23.out rfl)
    replace CP24:Hid _:=hideIt (CP24.out rfl)
    replace CD24:Hid _:=hideIt (CD24.out rfl)
    replace CP34:Hid _:=hideIt (CP34.out rfl)
    replace CD34:Hid _:=hideIt (CD34.out rfl)
    have f0:=blkC l_k 0 rfl
    have f1:=blkC l_k 1 rfl
    have f2:=blkC l_k 2 rfl
    have f3:=blkC l_k 3 rfl
    have f4:=blkC l_k 4 rfl
    have f5:=blkC l_k 5 rfl
    have f6:=blkC l_k 6 rfl
    have f7:=blkC l_k 7 rfl
    have f8:=blkC l_k 8 rfl
    have f9:=blkC l_k 9 rfl
    have f10:=blkC l_k 10 rfl
    have f11:=blkC l_k 11 rfl
    go_wp2_with fail
    clear f0 f1 f2 f3 f4 f5 f6 f7 f8 f9 f10 f11
    refine (CS.out _ hb).mono ?_
    rintro _ y3 ⟨rfl,h3⟩
    replace l_k:=heap_past (.cells #[.int .i64 vs,.int .i64 st] 29) (blk_us h3 l_k)
    have v_k:=heap_a1 y3 (.cells #[.int .i64 vs,.int .i64 st] 29)
    replace hb:=bel_trans hb (bel_trans h3 (bel_alloc y3 (.cells #[.int .i64 vs,.int .i64 st] 29)))
    clear h3
    have f0:=blkC l_k 0 rfl
    have f1:=blkC l_k 1 rfl
    have f2:=blkC l_k 2 rfl
    have f3:=blkC l_k 3 rfl
    have f4:=blkC l_k 4 rfl
    have f5:=blkC l_k 5 rfl
    have f6:=blkC l_k 6 rfl
    have f7:=blkC l_k 7 rfl
    have f8:=blkC l_k 8 rfl
    have f9:=blkC l_k 9 rfl
    have f10:=blkC l_k 10 rfl
    have f11:=blkC l_k 11 rfl
    go_wp2_with fail
    clear f0 f1 f2 f3 f4 f5 f6 f7 f8 f9 f10 f11
    generalize hgv:y3.heap.size=gv at v_k ⊢
    clear hgv
    generalize y3.alloc (.cells #[.int .i64 vs,.int .i64 st] 29)=x3 at l_k v_k hb ⊢
    refine (CX.out _ hb).mono ?_
    rintro _ y4 ⟨gx,ox,nx,cx,ex,rfl,CGx,h4⟩
    replace l_k:=heap_past (.cells #[.bool gx,.slice ox nx cx,.int .i64 ex] 35) (blk_us h4 l_k)
    replace v_k:=heap_past (.cells #[.bool gx,.slice ox nx cx,.int .i64 ex] 35) (blk_us h4 v_k)
    have x_k:=heap_a1 y4 (.cells #[.bool gx,.slice ox nx cx,.int .i64 ex] 35)
    have hx4:=bel_alloc y4 (.cells #[.bool gx,.slice ox nx cx,.int .i64 ex] 35)
    replace hb:=bel_trans hb (bel_trans h4 hx4)
    clear h4
    have f0:=blkC l_k 0 rfl
    have f1:=blkC l_k 1 rfl
    have f2:=blkC l_k 2 rfl
    have f3:=blkC l_k 3 rfl
    have f4:=blkC l_k 4 rfl
    have f5:=blkC l_k 5 rfl
    have f6:=blkC l_k 6 rfl
    have f7:=blkC l_k 7 rfl
    have f8:=blkC l_k 8 rfl
    have f9:=blkC l_k 9 rfl
    have f10:=blkC l_k 10 rfl
    have f11:=blkC l_k 11 rfl
    have f12:=blkC l_k 12 rfl
    have f13:=blkC l_k 13 rfl
    have f14:=blkC l_k 14 rfl
    go_wp2_with fail
    clear f0 f1 f2 f3 f4 f5 f6 f7 f8 f9 f10 f11 f12 f13 f14
    generalize hgx:y4.heap.size=qx at x_k ⊢
    clear hgx
    generalize y4.alloc (.cells #[.bool gx,.slice ox nx cx,.int .i64 ex] 35)=x4 at l_k v_k x_k hx4 hb ⊢
    refine (CP.out _ hb).mono ?_
    rintro _ y5 ⟨rfl,h5⟩
    replace hx4:=bel_trans hx4 (bel_trans h5 (bel_alloc y5 (.cells #[.int .i64 ws,.int .i64 sv] 29)))
    replace l_k:=heap_past (.cells #[.int .i64 ws,.int .i64 sv] 29) (blk_us h5 l_k)
    replace v_k:=heap_past (.cells #[.int .i64 ws,.int .i64 sv] 29) (blk_us h5 v_k)
    replace x_k:=heap_past (.cells #[.int .i64 ws,.int .i64 sv] 29) (blk_us h5 x_k)
    have w_k:=heap_a1 y5 (.cells #[.int .i64 ws,.int .i64 sv] 29)
    replace hb:=bel_trans hb (bel_trans h5 (bel_alloc y5 (.cells #[.int .i64 ws,.int .i64 sv] 29)))
    clear h5
    have f0:=blkC l_k 0 rfl
    have f1:=blkC l_k 1 rfl
    have f2:=blkC l_k 2 rfl
    have f3:=blkC l_k 3 rfl
    have f4:=blkC l_k 4 rfl
    have f5:=blkC l_k 5 rfl
    have f6:=blkC l_k 6 rfl
    have f7:=blkC l_k 7 rfl
    have f8:=blkC l_k 8 rfl
    have f9:=blkC l_k 9 rfl
    have f10:=blkC l_k 10 rfl
    have f11:=blkC l_k 11 rfl
    have f12:=blkC l_k 12 rfl
    have f13:=blkC l_k 13 rfl
    have f14:=blkC l_k 14 rfl
    go_wp2_with fail
    clear f0 f1 f2 f3 f4 f5 f6 f7 f8 f9 f10 f11 f12 f13 f14
    generalize hgw:y5.heap.size=gw at w_k ⊢
    clear hgw
    generalize y5.alloc (.cells #[.int .i64 ws,.int .i64 sv] 29)=x5 at l_k v_k x_k w_k hx4 hb ⊢
    refine (CY.out _ hb).mono ?_
    rintro _ y6 ⟨gy,oy,ny,cy,ey,rfl,CGy,h6⟩
    replace hx4:=bel_trans hx4 (bel_trans h6 (bel_alloc y6 (.cells #[.bool gy,.slice oy ny cy,.int .i64 ey] 35)))
    replace l_k:=heap_past (.cells #[.bool gy,.slice oy ny cy,.int .i64 ey] 35) (blk_us h6 l_k)
    replace v_k:=heap_past (.cells #[.bool gy,.slice oy ny cy,.int .i64 ey] 35) (blk_us h6 v_k)
    replace x_k:=heap_past (.cells #[.bool gy,.slice oy ny cy,.int .i64 ey] 35) (blk_us h6 x_k)
    replace w_k:=heap_past (.cells #[.bool gy,.slice oy ny cy,.int .i64 ey] 35) (blk_us h6 w_k)
    have y_k:=heap_a1 y6 (.cells #[.bool gy,.slice oy ny cy,.int .i64 ey] 35)
    have hy6:=bel_alloc y6 (.cells #[.bool gy,.slice oy ny cy,.int .i64 ey] 35)
    replace hb:=bel_trans hb (bel_trans h6 hy6)
    clear h6
    have CGX:Hid _:=hideIt CGx
    have CGY:Hid _:=hideIt CGy
    clear CGx CGy
    go_wp2_with fail
    generalize hgy:y6.heap.size=qy at y_k ⊢
    clear hgy
    generalize y6.alloc (.cells #[.bool gy,.slice oy ny cy,.int .i64 ey] 35)=x6 at l_k v_k x_k w_k y_k hx4 hy6 hb ⊢
    have KK:∀ W,Below x6.heap.size x6 W->W.cell? ⟨gv,0,none⟩=some (.int .i64 vs)∧W.cell? ⟨gv,1,none⟩=some (.int .i64 st)∧W.cell? ⟨qx,0,none⟩=some (.bool gx)∧W.cell? ⟨qx,1,none⟩=some (.slice ox nx cx)∧W.cell? ⟨qx,2,none⟩=some (.int .i64 ex)∧W.cell? ⟨gw,0,none⟩=some (.int .i64 ws)∧W.cell? ⟨gw,1,none⟩=some (.int .i64 sv)∧W.cell? ⟨qy,0,none⟩=some (.bool gy)∧W.cell? ⟨qy,1,none⟩=some (.slice oy ny cy)∧W.cell? ⟨qy,2,none⟩=some (.int .i64 ey):=fun W hb=>⟨q_cell (blkC v_k 0 rfl) hb,q_cell (blkC v_k 1 rfl) hb,q_cell (blkC x_k 0 rfl) hb,q_cell (blkC x_k 1 rfl) hb,q_cell (blkC x_k 2 rfl) hb,q_cell (blkC w_k 0 rfl) hb,q_cell (blkC w_k 1 rfl) hb,q_cell (blkC y_k 0 rfl) hb,q_cell (blkC y_k 1 rfl) hb,q_cell (blkC y_k 2 rfl) hb⟩
    have hC0:=(bel_refl x6).drew
    go_region_held3 (fun W=>W.cell? ⟨gv,0,none⟩=some (.int .i64 vs)∧W.cell? ⟨gv,1,none⟩=some (.int .i64 st)∧W.cell? ⟨qx,0,none⟩=some (.bool gx)∧W.cell? ⟨qx,1,none⟩=some (.slice ox nx cx)∧W.cell? ⟨qx,2,none⟩=some (.int .i64 ex)∧W.cell? ⟨gw,0,none⟩=some (.int .i64 ws)∧W.cell? ⟨gw,1,none⟩=some (.int .i64 sv)∧W.cell? ⟨qy,0,none⟩=some (.bool gy)∧W.cell? ⟨qy,1,none⟩=some (.slice oy ny cy)∧W.cell? ⟨qy,2,none⟩=some (.int .i64 ey))
      (with_reducible first | assumption | exact KK _ hC0 | exact KK _ hC1 | exact KK _ hC2 | fail)
      (first | (go_at_call 10; refine (CGX.out _ (bel_trans hx4 hC0)).mono ?_; rintro _ y7 ⟨rfl,hq1⟩; have hC1:=bel_trans hC0 hq1) | (go_at_call 10; refine (CGY.out _ (bel_trans hy6 hC1)).mono ?_; rintro _ y8 ⟨rfl,hq2⟩; have hC2:=bel_trans hC1 hq2))
    all_goals
      replace hb:=bel_trans hb hC2
      replace l_k:=blk_us hC2 l_k
      replace v_k:=blk_us hC2 v_k
      replace w_k:=blk_us hC2 w_k
      clear x_k y_k KK hx4 hy6 CGX CGY hC0 hC1 hC2 hq1 hq2
    go_wp2_with fail
    go_loopw [13] (fun i wr=>Below w.heap.size w wr∧wr.heap[w.heap.size]?=some (.cells #[.int .i64 (s 0 0),.int .i64 (s 0 1),.int .i64 (s 0 2),.int .i64 (s 1 0),.int .i64 (s 1 1),.int .i64 (s 1 2),.int .i64 (s 2 0),.int .i64 (s 2 1),.int .i64 (s 2 2),.int .i64 (s 3 0),.int .i64 (s 3 1),.int .i64 (s 3 2),.int .i64 (s 4 0),.int .i64 (s 4 1),.int .i64 (s 4 2)] 24 (0,0))∧wr.heap[gv]?=some (.cells #[.int .i64 vs,.int .i64 st] 29 (0,0))∧wr.heap[gw]?=some (.cells #[.int .i64 ws,.int .i64 sv] 29 (0,0))∧(i=.int .i64 0∨i=.int .i64 1∨i=.int .i64 2∨i=.int .i64 3∨i=.int .i64 4∨i=.int .i64 5)) (fun i _=>5-(intOf i).toNat)
    case atStart=>exact ⟨hb,l_k,v_k,w_k,.inl rfl⟩
    case round=>
      clear hb l_k v_k w_k
      obtain ⟨hb,l_k,v_k,w_k,hrel⟩:=hrel
      rcases hrel with rfl | rfl | rfl | rfl | rfl | rfl
      . go_wp2_with fail
        go_loopw [14] (fun j wr=>Below w.heap.size w wr∧wr.heap[w.heap.size]?=some (.cells #[.int .i64 (s 0 0),.int .i64 (s 0 1),.int .i64 (s 0 2),.int .i64 (s 1 0),.int .i64 (s 1 1),.int .i64 (s 1 2),.int .i64 (s 2 0),.int .i64 (s 2 1),.int .i64 (s 2 2),.int .i64 (s 3 0),.int .i64 (s 3 1),.int .i64 (s 3 2),.int .i64 (s 4 0),.int .i64 (s 4 1),.int .i64 (s 4 2)] 24 (0,0))∧wr.heap[gv]?=some (.cells #[.int .i64 vs,.int .i64 st] 29 (0,0))∧wr.heap[gw]?=some (.cells #[.int .i64 ws,.int .i64 sv] 29 (0,0))∧(j=.int .i64 1∨j=.int .i64 2∨j=.int .i64 3∨j=.int .i64 4∨j=.int .i64 5)) (fun j _=>5-(intOf j).toNat)
        case atStart=>exact ⟨hb,l_k,v_k,w_k,.inl (by go_num)⟩
        case round=>
          clear hb l_k v_k w_k
          obtain ⟨hb,l_k,v_k,w_k,hrel⟩:=hrel
          have hl0:=(Array.getElem?_eq_some_iff.1 l_k).1
          have hv0:=(Array.getElem?_eq_some_iff.1 v_k).1
          have hw0:=(Array.getElem?_eq_some_iff.1 w_k).1
          rcases hrel with rfl | rfl | rfl | rfl | rfl
          . skip
            try clear CA
            try clear CG
            try clear CS
            try clear CP
            try clear CX
            try clear CY
            try clear CP02
            try clear CD02
            try clear CS02
            try clear CP03
            try clear CD03
            try clear CS03
            try clear CP04
            try clear CD04
            try clear CP12
            try clear CD12
            try clear CS12
            try clear CP13
            try clear CD13
            try clear CS13
            try clear CP14
            try clear CD14
            try clear CP23
            try clear CD23
            try clear CS23
            try clear CP24
            try clear CD24
            try clear CP34
            try clear CD34
            have f0:=blkC l_k 0 rfl
            have f1:=blkC l_k 1 rfl
            have f2:=blkC l_k 2 rfl
            have f3:=blkC l_k 3 rfl
            have f4:=blkC l_k 4 rfl
            have f5:=blkC l_k 5 rfl
            have f6:=blkC l_k 6 rfl
            have f7:=blkC l_k 7 rfl
            have f8:=blkC l_k 8 rfl
            have f9:=blkC l_k 9 rfl
            have f10:=blkC l_k 10 rfl
            have f11:=blkC l_k 11 rfl
            have f12:=blkC l_k 12 rfl
            have f13:=blkC l_k 13 rfl
            have f14:=blkC l_k 14 rfl
            go_wp2_with fail
            clear f0 f1 f2 f3 f4 f5 f6 f7 f8 f9 f10 f11 f12 f13 f14
            replace l_k:=heap_past (.cells #[.int .i64 (s 0 0),.int .i64 (s 0 1),.int .i64 (s 0 2),.int .i64 (s 1 0),.int .i64 (s 1 1),.int .i64 (s 1 2),.int .i64 (s 2 0),.int .i64 (s 2 1),.int .i64 (s 2 2),.int .i64 (s 3 0),.int .i64 (s 3 1),.int .i64 (s 3 2),.int .i64 (s 4 0),.int .i64 (s 4 1),.int .i64 (s 4 2)] 24) l_k
            replace v_k:=heap_past (.cells #[.int .i64 (s 0 0),.int .i64 (s 0 1),.int .i64 (s 0 2),.int .i64 (s 1 0),.int .i64 (s 1 1),.int .i64 (s 1 2),.int .i64 (s 2 0),.int .i64 (s 2 1),.int .i64 (s 2 2),.int .i64 (s 3 0),.int .i64 (s 3 1),.int .i64 (s 3 2),.int .i64 (s 4 0),.int .i64 (s 4 1),.int .i64 (s 4 2)] 24) v_k
            replace w_k:=heap_past (.cells #[.int .i64 (s 0 0),.int .i64 (s 0 1),.int .i64 (s 0 2),.int .i64 (s 1 0),.int .i64 (s 1 1),.int .i64 (s 1 2),.int .i64 (s 2 0),.int .i64 (s 2 1),.int .i64 (s 2 2),.int .i64 (s 3 0),.int .i64 (s 3 1),.int .i64 (s 3 2),.int .i64 (s 4 0),.int .i64 (s 4 1),.int .i64 (s 4 2)] 24) w_k
            have m_k:=heap_a1 wr (.cells #[.int .i64 (s 0 0),.int .i64 (s 0 1),.int .i64 (s 0 2),.int .i64 (s 1 0),.int .i64 (s 1 1),.int .i64 (s 1 2),.int .i64 (s 2 0),.int .i64 (s 2 1),.int .i64 (s 2 2),.int .i64 (s 3 0),.int .i64 (s 3 1),.int .i64 (s 3 2),.int .i64 (s 4 0),.int .i64 (s 4 1),.int .i64 (s 4 2)] 24)
            replace hb:=bel_trans hb (bel_alloc wr (.cells #[.int .i64 (s 0 0),.int .i64 (s 0 1),.int .i64 (s 0 2),.int .i64 (s 1 0),.int .i64 (s 1 1),.int .i64 (s 1 2),.int .i64 (s 2 0),.int .i64 (s 2 1),.int .i64 (s 2 2),.int .i64 (s 3 0),.int .i64 (s 3 1),.int .i64 (s 3 2),.int .i64 (s 4 0),.int .i64 (s 4 1),.int .i64 (s 4 2)] 24))
            have nl:w.heap.size≠wr.heap.size:=by have:=(Array.getElem?_eq_some_iff.1 l_k).1; have:=hl0; omega
            have nv:gv≠wr.heap.size:=by have:=hv0; omega
            have nw:gw≠wr.heap.size:=by have:=hw0; omega
            have gm0:w.heap.size<=wr.heap.size:=by have:=hl0; omega
            generalize hgm:wr.heap.size=gm at m_k nl nv nw gm0 ⊢
            clear hgm hl0 hv0 hw0
            generalize wr.alloc (.cells #[.int .i64 (s 0 0),.int .i64 (s 0 1),.int .i64 (s 0 2),.int .i64 (s 1 0),.int .i64 (s 1 1),.int .i64 (s 1 2),.int .i64 (s 2 0),.int .i64 (s 2 1),.int .i64 (s 2 2),.int .i64 (s 3 0),.int .i64 (s 3 1),.int .i64 (s 3 2),.int .i64 (s 4 0),.int .i64 (s 4 1),.int .i64 (s 4 2)] 24)=xm at l_k v_k w_k m_k hb ⊢
            have m1_k:(((xm.setCell ⟨gm,0,none⟩ (.int .i64 (s 1 0))).setCell ⟨gm,1,none⟩ (.int .i64 (s 1 1))).setCell ⟨gm,2,none⟩ (.int .i64 (s 1 2))).heap[gm]?=some (.cells #[.int .i64 (s 1 0),.int .i64 (s 1 1),.int .i64 (s 1 2),.int .i64 (s 1 0),.int .i64 (s 1 1),.int .i64 (s 1 2),.int .i64 (s 2 0),.int .i64 (s 2 1),.int .i64 (s 2 2),.int .i64 (s 3 0),.int .i64 (s 3 1),.int .i64 (s 3 2),.int .i64 (s 4 0),.int .i64 (s 4 1),.int .i64 (s 4 2)] 24 (0,0)):=heap_set (heap_set (heap_set m_k 0 (.int .i64 (s 1 0))) 1 (.int .i64 (s 1 1))) 2 (.int .i64 (s 1 2))
            have m2_k:((((((xm.setCell ⟨gm,0,none⟩ (.int .i64 (s 1 0))).setCell ⟨gm,1,none⟩ (.int .i64 (s 1 1))).setCell ⟨gm,2,none⟩ (.int .i64 (s 1 2))).setCell ⟨gm,3,none⟩ (.int .i64 (s 0 0))).setCell ⟨gm,4,none⟩ (.int .i64 (s 0 1))).setCell ⟨gm,5,none⟩ (.int .i64 (s 0 2))).heap[gm]?=some (.cells #[.int .i64 (s 1 0),.int .i64 (s 1 1),.int .i64 (s 1 2),.int .i64 (s 0 0),.int .i64 (s 0 1),.int .i64 (s 0 2),.int .i64 (s 2 0),.int .i64 (s 2 1),.int .i64 (s 2 2),.int .i64 (s 3 0),.int .i64 (s 3 1),.int .i64 (s 3 2),.int .i64 (s 4 0),.int .i64 (s 4 1),.int .i64 (s 4 2)] 24 (0,0)):=heap_set (heap_set (heap_set m1_k 3 (.int .i64 (s 0 0))) 4 (.int .i64 (s 0 1))) 5 (.int .i64 (s 0 2))
            have q0:=blkC m_k 0 rfl
            have z0:=blkF m_k 0
            have q1:=blkC m_k 1 rfl
            have z1:=blkF m_k 1
            have q2:=blkC m_k 2 rfl
            have z2:=blkF m_k 2
            have q3:=blkC m_k 3 rfl
            have z3:=blkF m_k 3
            have q4:=blkC m_k 4 rfl
            have z4:=blkF m_k 4
            have q5:=blkC m_k 5 rfl
            have z5:=blkF m_k 5
            have p3:=blkC m1_k 3 rfl
            have y3:=blkF m1_k 3
            have p4:=blkC m1_k 4 rfl
            have y4:=blkF m1_k 4
            have p5:=blkC m1_k 5 rfl
            have y5:=blkF m1_k 5
            go_region
            clear q0 z0 q1 z1 q2 z2 q3 z3 q4 z4 q5 z5
            clear p3 y3 p4 y4 p5 y5
            replace l_k:=heap_ne (heap_ne (heap_ne (heap_ne (heap_ne (heap_ne l_k nl 0 (.int .i64 (s 1 0))) nl 1 (.int .i64 (s 1 1))) nl 2 (.int .i64 (s 1 2))) nl 3 (.int .i64 (s 0 0))) nl 4 (.int .i64 (s 0 1))) nl 5 (.int .i64 (s 0 2))
            replace v_k:=heap_ne (heap_ne (heap_ne (heap_ne (heap_ne (heap_ne v_k nv 0 (.int .i64 (s 1 0))) nv 1 (.int .i64 (s 1 1))) nv 2 (.int .i64 (s 1 2))) nv 3 (.int .i64 (s 0 0))) nv 4 (.int .i64 (s 0 1))) nv 5 (.int .i64 (s 0 2))
            replace w_k:=heap_ne (heap_ne (heap_ne (heap_ne (heap_ne (heap_ne w_k nw 0 (.int .i64 (s 1 0))) nw 1 (.int .i64 (s 1 1))) nw 2 (.int .i64 (s 1 2))) nw 3 (.int .i64 (s 0 0))) nw 4 (.int .i64 (s 0 1))) nw 5 (.int .i64 (s 0 2))
            clear m_k m1_k
            replace hb:=(((((hb.setCell (p:=⟨gm,0,none⟩) gm0 (.int .i64 (s 1 0))).setCell (p:=⟨gm,1,none⟩) gm0 (.int .i64 (s 1 1))).setCell (p:=⟨gm,2,none⟩) gm0 (.int .i64 (s 1 2))).setCell (p:=⟨gm,3,none⟩) gm0 (.int .i64 (s 0 0))).setCell (p:=⟨gm,4,none⟩) gm0 (.int .i64 (s 0 1))).setCell (p:=⟨gm,5,none⟩) gm0 (.int .i64 (s 0 2))
            generalize (((((xm.setCell ⟨gm,0,none⟩ (.int .i64 (s 1 0))).setCell ⟨gm,1,none⟩ (.int .i64 (s 1 1))).setCell ⟨gm,2,none⟩ (.int .i64 (s 1 2))).setCell ⟨gm,3,none⟩ (.int .i64 (s 0 0))).setCell ⟨gm,4,none⟩ (.int .i64 (s 0 1))).setCell ⟨gm,5,none⟩ (.int .i64 (s 0 2))=x8 at l_k v_k w_k m2_k hb ⊢
            have hD:=(bel_refl x8).drew
            replace l_k:=blk_us hD l_k
            replace v_k:=blk_us hD v_k
            replace w_k:=blk_us hD w_k
            replace m2_k:=blk_us hD m2_k
            replace hb:=bel_trans hb hD
            clear hD
            generalize x8.drew=x8 at l_k v_k w_k m2_k hb ⊢
            have q0:=blkC m2_k 0 rfl
            have q1:=blkC m2_k 1 rfl
            have q2:=blkC m2_k 2 rfl
            have q3:=blkC m2_k 3 rfl
            have q4:=blkC m2_k 4 rfl
            have q5:=blkC m2_k 5 rfl
            have q6:=blkC m2_k 6 rfl
            have q7:=blkC m2_k 7 rfl
            have q8:=blkC m2_k 8 rfl
            have q9:=blkC m2_k 9 rfl
            have q10:=blkC m2_k 10 rfl
            have q11:=blkC m2_k 11 rfl
            have q12:=blkC m2_k 12 rfl
            have q13:=blkC m2_k 13 rfl
            have q14:=blkC m2_k 14 rfl
            go_wp2_with fail
            clear q0 q1 q2 q3 q4 q5 q6 q7 q8 q9 q10 q11 q12 q13 q14
            refine (CP01.out _ hb).mono ?_
            rintro _ y9 ⟨rfl,h9⟩
            have hl0:=(Array.getElem?_eq_some_iff.1 (blk_us h9 l_k)).1
            have hv0:=(Array.getElem?_eq_some_iff.1 (blk_us h9 v_k)).1
            have hw0:=(Array.getElem?_eq_some_iff.1 (blk_us h9 w_k)).1
            have hm0:=(Array.getElem?_eq_some_iff.1 (blk_us h9 m2_k)).1
            have ul:w.heap.size≠y9.heap.size:=by omega
            have uv:gv≠y9.heap.size:=by omega
            have uw:gw≠y9.heap.size:=by omega
            have um:gm≠y9.heap.size:=by omega
            have gu0:w.heap.size<=y9.heap.size:=by omega
            clear hl0 hv0 hw0 hm0
            replace l_k:=heap_past (.cells #[.int .i64 (-ws),.int .i64 tp01] 29) (blk_us h9 l_k)
            replace v_k:=heap_past (.cells #[.int .i64 (-ws),.int .i64 tp01] 29) (blk_us h9 v_k)
            replace w_k:=heap_past (.cells #[.int .i64 (-ws),.int .i64 tp01] 29) (blk_us h9 w_k)
            replace m2_k:=heap_past (.cells #[.int .i64 (-ws),.int .i64 tp01] 29) (blk_us h9 m2_k)
            have u_k:=heap_a1 y9 (.cells #[.int .i64 (-ws),.int .i64 tp01] 29)
            replace hb:=bel_trans hb (bel_trans h9 (bel_alloc y9 (.cells #[.int .i64 (-ws),.int .i64 tp01] 29)))
            clear h9
            have w_0:=blkC w_k 0 rfl
            have u_0:=blkC u_k 0 rfl
            have q0:=blkC m2_k 0 rfl
            have q1:=blkC m2_k 1 rfl
            have q2:=blkC m2_k 2 rfl
            have q3:=blkC m2_k 3 rfl
            have q4:=blkC m2_k 4 rfl
            have q5:=blkC m2_k 5 rfl
            have q6:=blkC m2_k 6 rfl
            have q7:=blkC m2_k 7 rfl
            have q8:=blkC m2_k 8 rfl
            have q9:=blkC m2_k 9 rfl
            have q10:=blkC m2_k 10 rfl
            have q11:=blkC m2_k 11 rfl
            go_wp2_with (first | (go_at_call 11; refine (CN.out _).mono ?_; rintro _ _ ⟨rfl,rfl⟩))
            clear q0 q1 q2 q3 q4 q5 q6 q7 q8 q9 q10 q11
            clear w_0 u_0
            generalize hgu:y9.heap.size=gu at u_k ul uv uw um gu0 ⊢
            clear hgu
            generalize y9.alloc (.cells #[.int .i64 (-ws),.int .i64 tp01] 29)=x9 at l_k v_k w_k m2_k u_k hb ⊢
            refine (CS01.out _ hb).mono ?_
            rintro _ y10 ⟨rfl,h10⟩
            replace l_k:=blk_us h10 l_k
            replace v_k:=blk_us h10 v_k
            replace w_k:=blk_us h10 w_k
            replace m2_k:=blk_us h10 m2_k
            replace u_k:=blk_us h10 u_k
            replace hb:=bel_trans hb h10
            clear h10
            have u_0:=blkC u_k 0 rfl
            have u_1:=blkC u_k 1 rfl
            have u_2:=blkF u_k 0
            have u_3:=blkF u_k 1
            go_wp2_with fail
            clear u_0 u_1 u_2 u_3
            have u2_k:((y10.setCell ⟨gu,0,none⟩ (.int .i64 (-vs))).setCell ⟨gu,1,none⟩ (.int .i64 ts01)).heap[gu]?=some (.cells #[.int .i64 (-vs),.int .i64 ts01] 29 (0,0)):=heap_set (heap_set u_k 0 (.int .i64 (-vs))) 1 (.int .i64 ts01)
            replace l_k:=heap_ne (heap_ne l_k ul 0 (.int .i64 (-vs))) ul 1 (.int .i64 ts01)
            replace v_k:=heap_ne (heap_ne v_k uv 0 (.int .i64 (-vs))) uv 1 (.int .i64 ts01)
            replace w_k:=heap_ne (heap_ne w_k uw 0 (.int .i64 (-vs))) uw 1 (.int .i64 ts01)
            replace m2_k:=heap_ne (heap_ne m2_k um 0 (.int .i64 (-vs))) um 1 (.int .i64 ts01)
            clear u_k
            have u_k:=u2_k
            clear u2_k
            replace hb:=(hb.setCell (p:=⟨gu,0,none⟩) gu0 (.int .i64 (-vs))).setCell (p:=⟨gu,1,none⟩) gu0 (.int .i64 ts01)
            generalize (y10.setCell ⟨gu,0,none⟩ (.int .i64 (-vs))).setCell ⟨gu,1,none⟩ (.int .i64 ts01)=x10 at l_k v_k w_k m2_k u_k hb ⊢
            have v_0:=blkC v_k 0 rfl
            have u_0:=blkC u_k 0 rfl
            have f0:=blkC l_k 0 rfl
            have f1:=blkC l_k 1 rfl
            have f2:=blkC l_k 2 rfl
            have f3:=blkC l_k 3 rfl
            have f4:=blkC l_k 4 rfl
            have f5:=blkC l_k 5 rfl
            have f6:=blkC l_k 6 rfl
            have f7:=blkC l_k 7 rfl
            have f8:=blkC l_k 8 rfl
            have f9:=blkC l_k 9 rfl
            have f10:=blkC l_k 10 rfl
            have f11:=blkC l_k 11 rfl
            have f12:=blkC l_k 12 rfl
            have f13:=blkC l_k 13 rfl
            have f14:=blkC l_k 14 rfl
            dsimp only
            have hGo:Hid True:=trivial
            repeat (have _q:=hGo; clear _q; first | (refine wp_store_row 24 _ _ rfl gm #[.int .i64 (s 0 0),.int .i64 (s 0 1),.int .i64 (s 0 2),.int .i64 (s 1 0),.int .i64 (s 1 1),.int .i64 (s 1 2),.int .i64 (s 2 0),.int .i64 (s 2 1),.int .i64 (s 2 2),.int .i64 (s 3 0),.int .i64 (s 3 1),.int .i64 (s 3 2),.int .i64 (s 4 0),.int .i64 (s 4 1),.int .i64 (s 4 2)] rfl rfl _ _ m2_k (by kernel_rfl) rfl (by kernel_rfl) ?_; clear hGo; dsimp only [Act.put]) | (go_at_call 11; refine (CN.out _).mono ?_; rintro _ _ ⟨rfl,rfl⟩; dsimp only) | go_step)
            clear f0 f1 f2 f3 f4 f5 f6 f7 f8 f9 f10 f11 f12 f13 f14
            clear v_0 u_0
            have m3_k:=setRow_heap x10 gm _ #[.int .i64 (s 0 0),.int .i64 (s 0 1),.int .i64 (s 0 2),.int .i64 (s 1 0),.int .i64 (s 1 1),.int .i64 (s 1 2),.int .i64 (s 2 0),.int .i64 (s 2 1),.int .i64 (s 2 2),.int .i64 (s 3 0),.int .i64 (s 3 1),.int .i64 (s 3 2),.int .i64 (s 4 0),.int .i64 (s 4 1),.int .i64 (s 4 2)] _ _ m2_k
            replace l_k:=(setRow_other x10 gm _ #[.int .i64 (s 0 0),.int .i64 (s 0 1),.int .i64 (s 0 2),.int .i64 (s 1 0),.int .i64 (s 1 1),.int .i64 (s 1 2),.int .i64 (s 2 0),.int .i64 (s 2 1),.int .i64 (s 2 2),.int .i64 (s 3 0),.int .i64 (s 3 1),.int .i64 (s 3 2),.int .i64 (s 4 0),.int .i64 (s 4 1),.int .i64 (s 4 2)] nl).trans l_k
            replace v_k:=(setRow_other x10 gm _ #[.int .i64 (s 0 0),.int .i64 (s 0 1),.int .i64 (s 0 2),.int .i64 (s 1 0),.int .i64 (s 1 1),.int .i64 (s 1 2),.int .i64 (s 2 0),.int .i64 (s 2 1),.int .i64 (s 2 2),.int .i64 (s 3 0),.int .i64 (s 3 1),.int .i64 (s 3 2),.int .i64 (s 4 0),.int .i64 (s 4 1),.int .i64 (s 4 2)] nv).trans v_k
            replace w_k:=(setRow_other x10 gm _ #[.int .i64 (s 0 0),.int .i64 (s 0 1),.int .i64 (s 0 2),.int .i64 (s 1 0),.int .i64 (s 1 1),.int .i64 (s 1 2),.int .i64 (s 2 0),.int .i64 (s 2 1),.int .i64 (s 2 2),.int .i64 (s 3 0),.int .i64 (s 3 1),.int .i64 (s 3 2),.int .i64 (s 4 0),.int .i64 (s 4 1),.int .i64 (s 4 2)] nw).trans w_k
            replace u_k:=(setRow_other x10 gm _ #[.int .i64 (s 0 0),.int .i64 (s 0 1),.int .i64 (s 0 2),.int .i64 (s 1 0),.int .i64 (s 1 1),.int .i64 (s 1 2),.int .i64 (s 2 0),.int .i64 (s 2 1),.int .i64 (s 2 2),.int .i64 (s 3 0),.int .i64 (s 3 1),.int .i64 (s 3 2),.int .i64 (s 4 0),.int .i64 (s 4 1),.int .i64 (s 4 2)] um.symm).trans u_k
            replace hb:Below w.heap.size w (x10.setRow gm #[.int .i64 (s 0 0),.int .i64 (s 0 1),.int .i64 (s 0 2),.int .i64 (s 1 0),.int .i64 (s 1 1),.int .i64 (s 1 2),.int .i64 (s 2 0),.int .i64 (s 2 1),.int .i64 (s 2 2),.int .i64 (s 3 0),.int .i64 (s 3 1),.int .i64 (s 3 2),.int .i64 (s 4 0),.int .i64 (s 4 1),.int .i64 (s 4 2)]):=hb.trans ⟨rfl,rfl,rfl,by simp [World.setRow],fun k hk=>setRow_other _ _ _ _ (by omega)⟩
            clear m2_k
            generalize (x10.setRow gm #[.int .i64 (s 0 0),.int .i64 (s 0 1),.int .i64 (s 0 2),.int .i64 (s 1 0),.int .i64 (s 1 1),.int .i64 (s 1 2),.int .i64 (s 2 0),.int .i64 (s 2 1),.int .i64 (s 2 2),.int .i64 (s 3 0),.int .i64 (s 3 1),.int .i64 (s 3 2),.int .i64 (s 4 0),.int .i64 (s 4 1),.int .i64 (s 4 2)])=x11 at l_k v_k w_k u_k m3_k hb ⊢
            have q0:=blkC m3_k 0 rfl
            have q1:=blkC m3_k 1 rfl
            have q2:=blkC m3_k 2 rfl
            have q3:=blkC m3_k 3 rfl
            have q4:=blkC m3_k 4 rfl
            have q5:=blkC m3_k 5 rfl
            have q6:=blkC m3_k 6 rfl
            have q7:=blkC m3_k 7 rfl
            have q8:=blkC m3_k 8 rfl
            have q9:=blkC m3_k 9 rfl
            have q10:=blkC m3_k 10 rfl
            have q11:=blkC m3_k 11 rfl
            have q12:=blkC m3_k 12 rfl
            have q13:=blkC m3_k 13 rfl
            have q14:=blkC m3_k 14 rfl
            have z0:=blkF m3_k 0
            have z1:=blkF m3_k 1
            have z2:=blkF m3_k 2
            go_wp2_with fail
            clear q0 q1 q2 q3 q4 q5 q6 q7 q8 q9 q10 q11 q12 q13 q14
            clear z0 z1 z2
            have m4_k:(((x11.setCell ⟨gm,0,none⟩ (.int .i64 (s 1 0))).setCell ⟨gm,1,none⟩ (.int .i64 (s 1 1))).setCell ⟨gm,2,none⟩ (.int .i64 (s 1 2))).heap[gm]?=some (.cells #[.int .i64 (s 1 0),.int .i64 (s 1 1),.int .i64 (s 1 2),.int .i64 (s 1 0),.int .i64 (s 1 1),.int .i64 (s 1 2),.int .i64 (s 2 0),.int .i64 (s 2 1),.int .i64 (s 2 2),.int .i64 (s 3 0),.int .i64 (s 3 1),.int .i64 (s 3 2),.int .i64 (s 4 0),.int .i64 (s 4 1),.int .i64 (s 4 2)] 24 (0,0)):=heap_set (heap_set (heap_set m3_k 0 (.int .i64 (s 1 0))) 1 (.int .i64 (s 1 1))) 2 (.int .i64 (s 1 2))
            replace l_k:=heap_ne (heap_ne (heap_ne l_k nl 0 (.int .i64 (s 1 0))) nl 1 (.int .i64 (s 1 1))) nl 2 (.int .i64 (s 1 2))
            replace v_k:=heap_ne (heap_ne (heap_ne v_k nv 0 (.int .i64 (s 1 0))) nv 1 (.int .i64 (s 1 1))) nv 2 (.int .i64 (s 1 2))
            replace w_k:=heap_ne (heap_ne (heap_ne w_k nw 0 (.int .i64 (s 1 0))) nw 1 (.int .i64 (s 1 1))) nw 2 (.int .i64 (s 1 2))
            replace u_k:=heap_ne (heap_ne (heap_ne u_k um.symm 0 (.int .i64 (s 1 0))) um.symm 1 (.int .i64 (s 1 1))) um.symm 2 (.int .i64 (s 1 2))
            replace hb:=((hb.setCell (p:=⟨gm,0,none⟩) gm0 (.int .i64 (s 1 0))).setCell (p:=⟨gm,1,none⟩) gm0 (.int .i64 (s 1 1))).setCell (p:=⟨gm,2,none⟩) gm0 (.int .i64 (s 1 2))
            clear m3_k
            generalize ((x11.setCell ⟨gm,0,none⟩ (.int .i64 (s 1 0))).setCell ⟨gm,1,none⟩ (.int .i64 (s 1 1))).setCell ⟨gm,2,none⟩ (.int .i64 (s 1 2))=x12 at l_k v_k w_k u_k m4_k hb ⊢
            refine (CD01.out _ hb).mono ?_
            rintro _ y11 ⟨rfl,h11⟩
            replace l_k:=blk_us h11 l_k
            replace v_k:=blk_us h11 v_k
            replace w_k:=blk_us h11 w_k
            replace u_k:=blk_us h11 u_k
            replace hb:=bel_trans hb h11
            clear h11 m4_k
            have u_0:=blkC u_k 0 rfl
            have u_1:=blkC u_k 1 rfl
            have u_2:=blkF u_k 0
            have u_3:=blkF u_k 1
            go_wp2_with fail
            clear u_0 u_1 u_2 u_3
            have u2_k:((y11.setCell ⟨gu,0,none⟩ (.int .i64 0)).setCell ⟨gu,1,none⟩ (.int .i64 td01)).heap[gu]?=some (.cells #[.int .i64 0,.int .i64 td01] 29 (0,0)):=heap_set (heap_set u_k 0 (.int .i64 0)) 1 (.int .i64 td01)
            replace l_k:=heap_ne (heap_ne l_k ul 0 (.int .i64 0)) ul 1 (.int .i64 td01)
            replace v_k:=heap_ne (heap_ne v_k uv 0 (.int .i64 0)) uv 1 (.int .i64 td01)
            replace w_k:=heap_ne (heap_ne w_k uw 0 (.int .i64 0)) uw 1 (.int .i64 td01)
            clear u_k
            replace hb:=(hb.setCell (p:=⟨gu,0,none⟩) gu0 (.int .i64 0)).setCell (p:=⟨gu,1,none⟩) gu0 (.int .i64 td01)
            generalize (y11.setCell ⟨gu,0,none⟩ (.int .i64 0)).setCell ⟨gu,1,none⟩ (.int .i64 td01)=x13 at l_k v_k w_k u2_k hb ⊢
            have u_0:=blkC u2_k 0 rfl
            go_wp2_with (first | (go_at_call 11; refine (CN.out _).mono ?_; rintro _ _ ⟨rfl,rfl⟩))
            go_roundw
            case rel=>exact ⟨hb,l_k,v_k,w_k,.inr (.inl (by go_num))⟩
            case measure=>simp [intOf]
          . skip
            try clear CA
            try clear CG
            try clear CS
            try clear CP
            try clear CX
            try clear CY
            try clear CP01
            try clear CD01
            try clear CS01
            try clear CP03
            try clear CD03
            try clear CS03
            try clear CP04
            try clear CD04
            try clear CP12
            try clear CD12
            try clear CS12
            try clear CP13
            try clear CD13
            try clear CS13
            try clear CP14
            try clear CD14
            try clear CP23
            try clear CD23
            try clear CS23
            try clear CP24
            try clear CD24
            try clear CP34
            try clear CD34
            have f0:=blkC l_k 0 rfl
            have f1:=blkC l_k 1 rfl
            have f2:=blkC l_k 2 rfl
            have f3:=blkC l_k 3 rfl
            have f4:=blkC l_k 4 rfl
            have f5:=blkC l_k 5 rfl
            have f6:=blkC l_k 6 rfl
            have f7:=blkC l_k 7 rfl
            have f8:=blkC l_k 8 rfl
            have f9:=blkC l_k 9 rfl
            have f10:=blkC l_k 10 rfl
            have f11:=blkC l_k 11 rfl
            have f12:=blkC l_k 12 rfl
            have f13:=blkC l_k 13 rfl
            have f14:=blkC l_k 14 rfl
            go_wp2_with fail
            clear f0 f1 f2 f3 f4 f5 f6 f7 f8 f9 f10 f11 f12 f13 f14
            replace l_k:=heap_past (.cells #[.int .i64 (s 0 0),.int .i64 (s 0 1),.int .i64 (s 0 2),.int .i64 (s 1 0),.int .i64 (s 1 1),.int .i64 (s 1 2),.int .i64 (s 2 0),.int .i64 (s 2 1),.int .i64 (s 2 2),.int .i64 (s 3 0),.int .i64 (s 3 1),.int .i64 (s 3 2),.int .i64 (s 4 0),.int .i64 (s 4 1),.int .i64 (s 4 2)] 24) l_k
            replace v_k:=heap_past (.cells #[.int .i64 (s 0 0),.int .i64 (s 0 1),.int .i64 (s 0 2),.int .i64 (s 1 0),.int .i64 (s 1 1),.int .i64 (s 1 2),.int .i64 (s 2 0),.int .i64 (s 2 1),.int .i64 (s 2 2),.int .i64 (s 3 0),.int .i64 (s 3 1),.int .i64 (s 3 2),.int .i64 (s 4 0),.int .i64 (s 4 1),.int .i64 (s 4 2)] 24) v_k
            replace w_k:=heap_past (.cells #[.int .i64 (s 0 0),.int .i64 (s 0 1),.int .i64 (s 0 2),.int .i64 (s 1 0),.int .i64 (s 1 1),.int .i64 (s 1 2),.int .i64 (s 2 0),.int .i64 (s 2 1),.int .i64 (s 2 2),.int .i64 (s 3 0),.int .i64 (s 3 1),.int .i64 (s 3 2),.int .i64 (s 4 0),.int .i64 (s 4 1),.int .i64 (s 4 2)] 24) w_k
            have m_k:=heap_a1 wr (.cells #[.int .i64 (s 0 0),.int .i64 (s 0 1),.int .i64 (s 0 2),.int .i64 (s 1 0),.int .i64 (s 1 1),.int .i64 (s 1 2),.int .i64 (s 2 0),.int .i64 (s 2 1),.int .i64 (s 2 2),.int .i64 (s 3 0),.int .i64 (s 3 1),.int .i64 (s 3 2),.int .i64 (s 4 0),.int .i64 (s 4 1),.int .i64 (s 4 2)] 24)
            replace hb:=bel_trans hb (bel_alloc wr (.cells #[.int .i64 (s 0 0),.int .i64 (s 0 1),.int .i64 (s 0 2),.int .i64 (s 1 0),.int .i64 (s 1 1),.int .i64 (s 1 2),.int .i64 (s 2 0),.int .i64 (s 2 1),.int .i64 (s 2 2),.int .i64 (s 3 0),.int .i64 (s 3 1),.int .i64 (s 3 2),.int .i64 (s 4 0),.int .i64 (s 4 1),.int .i64 (s 4 2)] 24))
            have nl:w.heap.size≠wr.heap.size:=by have:=(Array.getElem?_eq_some_iff.1 l_k).1; have:=hl0; omega
            have nv:gv≠wr.heap.size:=by have:=hv0; omega
            have nw:gw≠wr.heap.size:=by have:=hw0; omega
            have gm0:w.heap.size<=wr.heap.size:=by have:=hl0; omega
            generalize hgm:wr.heap.size=gm at m_k nl nv nw gm0 ⊢
            clear hgm hl0 hv0 hw0
            generalize wr.alloc (.cells #[.int .i64 (s 0 0),.int .i64 (s 0 1),.int .i64 (s 0 2),.int .i64 (s 1 0),.int .i64 (s 1 1),.int .i64 (s 1 2),.int .i64 (s 2 0),.int .i64 (s 2 1),.int .i64 (s 2 2),.int .i64 (s 3 0),.int .i64 (s 3 1),.int .i64 (s 3 2),.int .i64 (s 4 0),.int .i64 (s 4 1),.int .i64 (s 4 2)] 24)=xm at l_k v_k w_k m_k hb ⊢
            have m1_k:(((xm.setCell ⟨gm,0,none⟩ (.int .i64 (s 2 0))).setCell ⟨gm,1,none⟩ (.int .i64 (s 2 1))).setCell ⟨gm,2,none⟩ (.int .i64 (s 2 2))).heap[gm]?=some (.cells #[.int .i64 (s 2 0),.int .i64 (s 2 1),.int .i64 (s 2 2),.int .i64 (s 1 0),.int .i64 (s 1 1),.int .i64 (s 1 2),.int .i64 (s 2 0),.int .i64 (s 2 1),.int .i64 (s 2 2),.int .i64 (s 3 0),.int .i64 (s 3 1),.int .i64 (s 3 2),.int .i64 (s 4 0),.int .i64 (s 4 1),.int .i64 (s 4 2)] 24 (0,0)):=heap_set (heap_set (heap_set m_k 0 (.int .i64 (s 2 0))) 1 (.int .i64 (s 2 1))) 2 (.int .i64 (s 2 2))
            have m2_k:((((((xm.setCell ⟨gm,0,none⟩ (.int .i64 (s 2 0))).setCell ⟨gm,1,none⟩ (.int .i64 (s 2 1))).setCell ⟨gm,2,none⟩ (.int .i64 (s 2 2))).setCell ⟨gm,6,none⟩ (.int .i64 (s 0 0))).setCell ⟨gm,7,none⟩ (.int .i64 (s 0 1))).setCell ⟨gm,8,none⟩ (.int .i64 (s 0 2))).heap[gm]?=some (.cells #[.int .i64 (s 2 0),.int .i64 (s 2 1),.int .i64 (s 2 2),.int .i64 (s 1 0),.int .i64 (s 1 1),.int .i64 (s 1 2),.int .i64 (s 0 0),.int .i64 (s 0 1),.int .i64 (s 0 2),.int .i64 (s 3 0),.int .i64 (s 3 1),.int .i64 (s 3 2),.int .i64 (s 4 0),.int .i64 (s 4 1),.int .i64 (s 4 2)] 24 (0,0)):=heap_set (heap_set (heap_set m1_k 6 (.int .i64 (s 0 0))) 7 (.int .i64 (s 0 1))) 8 (.int .i64 (s 0 2))
            have q0:=blkC m_k 0 rfl
            have z0:=blkF m_k 0
            have q1:=blkC m_k 1 rfl
            have z1:=blkF m_k 1
            have q2:=blkC m_k 2 rfl
            have z2:=blkF m_k 2
            have q6:=blkC m_k 6 rfl
            have z6:=blkF m_k 6
            have q7:=blkC m_k 7 rfl
            have z7:=blkF m_k 7
            have q8:=blkC m_k 8 rfl
            have z8:=blkF m_k 8
            have p6:=blkC m1_k 6 rfl
            have y6:=blkF m1_k 6
            have p7:=blkC m1_k 7 rfl
            have y7:=blkF m1_k 7
            have p8:=blkC m1_k 8 rfl
            have y8:=blkF m1_k 8
            go_region
            clear q0 z0 q1 z1 q2 z2 q6 z6 q7 z7 q8 z8
            clear p6 y6 p7 y7 p8 y8
            replace l_k:=heap_ne (heap_ne (heap_ne (heap_ne (heap_ne (heap_ne l_k nl 0 (.int .i64 (s 2 0))) nl 1 (.int .i64 (s 2 1))) nl 2 (.int .i64 (s 2 2))) nl 6 (.int .i64 (s 0 0))) nl 7 (.int .i64 (s 0 1))) nl 8 (.int .i64 (s 0 2))
            replace v_k:=heap_ne (heap_ne (heap_ne (heap_ne (heap_ne (heap_ne v_k nv 0 (.int .i64 (s 2 0))) nv 1 (.int .i64 (s 2 1))) nv 2 (.int .i64 (s 2 2))) nv 6 (.int .i64 (s 0 0))) nv 7 (.int .i64 (s 0 1))) nv 8 (.int .i64 (s 0 2))
            replace w_k:=heap_ne (heap_ne (heap_ne (heap_ne (heap_ne (heap_ne w_k nw 0 (.int .i64 (s 2 0))) nw 1 (.int .i64 (s 2 1))) nw 2 (.int .i64 (s 2 2))) nw 6 (.int .i64 (s 0 0))) nw 7 (.int .i64 (s 0 1))) nw 8 (.int .i64 (s 0 2))
            clear m_k m1_k
            replace hb:=(((((hb.setCell (p:=⟨gm,0,none⟩) gm0 (.int .i64 (s 2 0))).setCell (p:=⟨gm,1,none⟩) gm0 (.int .i64 (s 2 1))).setCell (p:=⟨gm,2,none⟩) gm0 (.int .i64 (s 2 2))).setCell (p:=⟨gm,6,none⟩) gm0 (.int .i64 (s 0 0))).setCell (p:=⟨gm,7,none⟩) gm0 (.int .i64 (s 0 1))).setCell (p:=⟨gm,8,none⟩) gm0 (.int .i64 (s 0 2))
            generalize (((((xm.setCell ⟨gm,0,none⟩ (.int .i64 (s 2 0))).setCell ⟨gm,1,none⟩ (.int .i64 (s 2 1))).setCell ⟨gm,2,none⟩ (.int .i64 (s 2 2))).setCell ⟨gm,6,none⟩ (.int .i64 (s 0 0))).setCell ⟨gm,7,none⟩ (.int .i64 (s 0 1))).setCell ⟨gm,8,none⟩ (.int .i64 (s 0 2))=x8 at l_k v_k w_k m2_k hb ⊢
            have hD:=(bel_refl x8).drew
            replace l_k:=blk_us hD l_k
            replace v_k:=blk_us hD v_k
            replace w_k:=blk_us hD w_k
            replace m2_k:=blk_us hD m2_k
            replace hb:=bel_trans hb hD
            clear hD
            generalize x8.drew=x8 at l_k v_k w_k m2_k hb ⊢
            have q0:=blkC m2_k 0 rfl
            have q1:=blkC m2_k 1 rfl
            have q2:=blkC m2_k 2 rfl
            have q3:=blkC m2_k 3 rfl
            have q4:=blkC m2_k 4 rfl
            have q5:=blkC m2_k 5 rfl
            have q6:=blkC m2_k 6 rfl
            have q7:=blkC m2_k 7 rfl
            have q8:=blkC m2_k 8 rfl
            have q9:=blkC m2_k 9 rfl
            have q10:=blkC m2_k 10 rfl
            have q11:=blkC m2_k 11 rfl
            have q12:=blkC m2_k 12 rfl
            have q13:=blkC m2_k 13 rfl
            have q14:=blkC m2_k 14 rfl
            go_wp2_with fail
            clear q0 q1 q2 q3 q4 q5 q6 q7 q8 q9 q10 q11 q12 q13 q14
            refine (CP02.out _ hb).mono ?_
            rintro _ y9 ⟨rfl,h9⟩
            have hl0:=(Array.getElem?_eq_some_iff.1 (blk_us h9 l_k)).1
            have hv0:=(Array.getElem?_eq_some_iff.1 (blk_us h9 v_k)).1
            have hw0:=(Array.getElem?_eq_some_iff.1 (blk_us h9 w_k)).1
            have hm0:=(Array.getElem?_eq_some_iff.1 (blk_us h9 m2_k)).1
            have ul:w.heap.size≠y9.heap.size:=by omega
            have uv:gv≠y9.heap.size:=by omega
            have uw:gw≠y9.heap.size:=by omega
            have um:gm≠y9.heap.size:=by omega
            have gu0:w.heap.size<=y9.heap.size:=by omega
            clear hl0 hv0 hw0 hm0
            replace l_k:=heap_past (.cells #[.int .i64 (-ws),.int .i64 tp02] 29) (blk_us h9 l_k)
            replace v_k:=heap_past (.cells #[.int .i64 (-ws),.int .i64 tp02] 29) (blk_us h9 v_k)
            replace w_k:=heap_past (.cells #[.int .i64 (-ws),.int .i64 tp02] 29) (blk_us h9 w_k)
            replace m2_k:=heap_past (.cells #[.int .i64 (-ws),.int .i64 tp02] 29) (blk_us h9 m2_k)
            have u_k:=heap_a1 y9 (.cells #[.int .i64 (-ws),.int .i64 tp02] 29)
            replace hb:=bel_trans hb (bel_trans h9 (bel_alloc y9 (.cells #[.int .i64 (-ws),.int .i64 tp02] 29)))
            clear h9
            have w_0:=blkC w_k 0 rfl
            have u_0:=blkC u_k 0 rfl
            have q0:=blkC m2_k 0 rfl
            have q1:=blkC m2_k 1 rfl
            have q2:=blkC m2_k 2 rfl
            have q3:=blkC m2_k 3 rfl
            have q4:=blkC m2_k 4 rfl
            have q5:=blkC m2_k 5 rfl
            have q6:=blkC m2_k 6 rfl
            have q7:=blkC m2_k 7 rfl
            have q8:=blkC m2_k 8 rfl
            have q9:=blkC m2_k 9 rfl
            have q10:=blkC m2_k 10 rfl
            have q11:=blkC m2_k 11 rfl
            go_wp2_with (first | (go_at_call 11; refine (CN.out _).mono ?_; rintro _ _ ⟨rfl,rfl⟩))
            clear q0 q1 q2 q3 q4 q5 q6 q7 q8 q9 q10 q11
            clear w_0 u_0
            generalize hgu:y9.heap.size=gu at u_k ul uv uw um gu0 ⊢
            clear hgu
            generalize y9.alloc (.cells #[.int .i64 (-ws),.int .i64 tp02] 29)=x9 at l_k v_k w_k m2_k u_k hb ⊢
            refine (CS02.out _ hb).mono ?_
            rintro _ y10 ⟨rfl,h10⟩
            replace l_k:=blk_us h10 l_k
            replace v_k:=blk_us h10 v_k
            replace w_k:=blk_us h10 w_k
            replace m2_k:=blk_us h10 m2_k
            replace u_k:=blk_us h10 u_k
            replace hb:=bel_trans hb h10
            clear h10
            have u_0:=blkC u_k 0 rfl
            have u_1:=blkC u_k 1 rfl
            have u_2:=blkF u_k 0
            have u_3:=blkF u_k 1
            go_wp2_with fail
            clear u_0 u_1 u_2 u_3
            have u2_k:((y10.setCell ⟨gu,0,none⟩ (.int .i64 (-vs))).setCell ⟨gu,1,none⟩ (.int .i64 ts02)).heap[gu]?=some (.cells #[.int .i64 (-vs),.int .i64 ts02] 29 (0,0)):=heap_set (heap_set u_k 0 (.int .i64 (-vs))) 1 (.int .i64 ts02)
            replace l_k:=heap_ne (heap_ne l_k ul 0 (.int .i64 (-vs))) ul 1 (.int .i64 ts02)
            replace v_k:=heap_ne (heap_ne v_k uv 0 (.int .i64 (-vs))) uv 1 (.int .i64 ts02)
            replace w_k:=heap_ne (heap_ne w_k uw 0 (.int .i64 (-vs))) uw 1 (.int .i64 ts02)
            replace m2_k:=heap_ne (heap_ne m2_k um 0 (.int .i64 (-vs))) um 1 (.int .i64 ts02)
            clear u_k
            have u_k:=u2_k
            clear u2_k
            replace hb:=(hb.setCell (p:=⟨gu,0,none⟩) gu0 (.int .i64 (-vs))).setCell (p:=⟨gu,1,none⟩) gu0 (.int .i64 ts02)
            generalize (y10.setCell ⟨gu,0,none⟩ (.int .i64 (-vs))).setCell ⟨gu,1,none⟩ (.int .i64 ts02)=x10 at l_k v_k w_k m2_k u_k hb ⊢
            have v_0:=blkC v_k 0 rfl
            have u_0:=blkC u_k 0 rfl
            have f0:=blkC l_k 0 rfl
            have f1:=blkC l_k 1 rfl
            have f2:=blkC l_k 2 rfl
            have f3:=blkC l_k 3 rfl
            have f4:=blkC l_k 4 rfl
            have f5:=blkC l_k 5 rfl
            have f6:=blkC l_k 6 rfl
            have f7:=blkC l_k 7 rfl
            have f8:=blkC l_k 8 rfl
            have f9:=blkC l_k 9 rfl
            have f10:=blkC l_k 10 rfl
            have f11:=blkC l_k 11 rfl
            have f12:=blkC l_k 12 rfl
            have f13:=blkC l_k 13 rfl
            have f14:=blkC l_k 14 rfl
            dsimp only
            have hGo:Hid True:=trivial
            repeat (have _q:=hGo; clear _q; first | (refine wp_store_row 24 _ _ rfl gm #[.int .i64 (s 0 0),.int .i64 (s 0 1),.int .i64 (s 0 2),.int .i64 (s 1 0),.int .i64 (s 1 1),.int .i64 (s 1 2),.int .i64 (s 2 0),.int .i64 (s 2 1),.int .i64 (s 2 2),.int .i64 (s 3 0),.int .i64 (s 3 1),.int .i64 (s 3 2),.int .i64 (s 4 0),.int .i64 (s 4 1),.int .i64 (s 4 2)] rfl rfl _ _ m2_k (by kernel_rfl) rfl (by kernel_rfl) ?_; clear hGo; dsimp only [Act.put]) | (go_at_call 11; refine (CN.out _).mono ?_; rintro _ _ ⟨rfl,rfl⟩; dsimp only) | go_step)
            clear f0 f1 f2 f3 f4 f5 f6 f7 f8 f9 f10 f11 f12 f13 f14
            clear v_0 u_0
            have m3_k:=setRow_heap x10 gm _ #[.int .i64 (s 0 0),.int .i64 (s 0 1),.int .i64 (s 0 2),.int .i64 (s 1 0),.int .i64 (s 1 1),.int .i64 (s 1 2),.int .i64 (s 2 0),.int .i64 (s 2 1),.int .i64 (s 2 2),.int .i64 (s 3 0),.int .i64 (s 3 1),.int .i64 (s 3 2),.int .i64 (s 4 0),.int .i64 (s 4 1),.int .i64 (s 4 2)] _ _ m2_k
            replace l_k:=(setRow_other x10 gm _ #[.int .i64 (s 0 0),.int .i64 (s 0 1),.int .i64 (s 0 2),.int .i64 (s 1 0),.int .i64 (s 1 1),.int .i64 (s 1 2),.int .i64 (s 2 0),.int .i64 (s 2 1),.int .i64 (s 2 2),.int .i64 (s 3 0),.int .i64 (s 3 1),.int .i64 (s 3 2),.int .i64 (s 4 0),.int .i64 (s 4 1),.int .i64 (s 4 2)] nl).trans l_k
            replace v_k:=(setRow_other x10 gm _ #[.int .i64 (s 0 0),.int .i64 (s 0 1),.int .i64 (s 0 2),.int .i64 (s 1 0),.int .i64 (s 1 1),.int .i64 (s 1 2),.int .i64 (s 2 0),.int .i64 (s 2 1),.int .i64 (s 2 2),.int .i64 (s 3 0),.int .i64 (s 3 1),.int .i64 (s 3 2),.int .i64 (s 4 0),.int .i64 (s 4 1),.int .i64 (s 4 2)] nv).trans v_k
            replace w_k:=(setRow_other x10 gm _ #[.int .i64 (s 0 0),.int .i64 (s 0 1),.int .i64 (s 0 2),.int .i64 (s 1 0),.int .i64 (s 1 1),.int .i64 (s 1 2),.int .i64 (s 2 0),.int .i64 (s 2 1),.int .i64 (s 2 2),.int .i64 (s 3 0),.int .i64 (s 3 1),.int .i64 (s 3 2),.int .i64 (s 4 0),.int .i64 (s 4 1),.int .i64 (s 4 2)] nw).trans w_k
            replace u_k:=(setRow_other x10 gm _ #[.int .i64 (s 0 0),.int .i64 (s 0 1),.int .i64 (s 0 2),.int .i64 (s 1 0),.int .i64 (s 1 1),.int .i64 (s 1 2),.int .i64 (s 2 0),.int .i64 (s 2 1),.int .i64 (s 2 2),.int .i64 (s 3 0),.int .i64 (s 3 1),.int .i64 (s 3 2),.int .i64 (s 4 0),.int .i64 (s 4 1),.int .i64 (s 4 2)] um.symm).trans u_k
            replace hb:Below w.heap.size w (x10.setRow gm #[.int .i64 (s 0 0),.int .i64 (s 0 1),.int .i64 (s 0 2),.int .i64 (s 1 0),.int .i64 (s 1 1),.int .i64 (s 1 2),.int .i64 (s 2 0),.int .i64 (s 2 1),.int .i64 (s 2 2),.int .i64 (s 3 0),.int .i64 (s 3 1),.int .i64 (s 3 2),.int .i64 (s 4 0),.int .i64 (s 4 1),.int .i64 (s 4 2)]):=hb.trans ⟨rfl,rfl,rfl,by simp [World.setRow],fun k hk=>setRow_other _ _ _ _ (by omega)⟩
            clear m2_k
            generalize (x10.setRow gm #[.int .i64 (s 0 0),.int .i64 (s 0 1),.int .i64 (s 0 2),.int .i64 (s 1 0),.int .i64 (s 1 1),.int .i64 (s 1 2),.int .i64 (s 2 0),.int .i64 (s 2 1),.int .i64 (s 2 2),.int .i64 (s 3 0),.int .i64 (s 3 1),.int .i64 (s 3 2),.int .i64 (s 4 0),.int .i64 (s 4 1),.int .i64 (s 4 2)])=x11 at l_k v_k w_k u_k m3_k hb ⊢
            have q0:=blkC m3_k 0 rfl
            have q1:=blkC m3_k 1 rfl
            have q2:=blkC m3_k 2 rfl
            have q3:=blkC m3_k 3 rfl
            have q4:=blkC m3_k 4 rfl
            have q5:=blkC m3_k 5 rfl
            have q6:=blkC m3_k 6 rfl
            have q7:=blkC m3_k 7 rfl
            have q8:=blkC m3_k 8 rfl
            have q9:=blkC m3_k 9 rfl
            have q10:=blkC m3_k 10 rfl
            have q11:=blkC m3_k 11 rfl
            have q12:=blkC m3_k 12 rfl
            have q13:=blkC m3_k 13 rfl
            have q14:=blkC m3_k 14 rfl
            have z0:=blkF m3_k 0
            have z1:=blkF m3_k 1
            have z2:=blkF m3_k 2
            go_wp2_with fail
            clear q0 q1 q2 q3 q4 q5 q6 q7 q8 q9 q10 q11 q12 q13 q14
            clear z0 z1 z2
            have m4_k:(((x11.setCell ⟨gm,0,none⟩ (.int .i64 (s 2 0))).setCell ⟨gm,1,none⟩ (.int .i64 (s 2 1))).setCell ⟨gm,2,none⟩ (.int .i64 (s 2 2))).heap[gm]?=some (.cells #[.int .i64 (s 2 0),.int .i64 (s 2 1),.int .i64 (s 2 2),.int .i64 (s 1 0),.int .i64 (s 1 1),.int .i64 (s 1 2),.int .i64 (s 2 0),.int .i64 (s 2 1),.int .i64 (s 2 2),.int .i64 (s 3 0),.int .i64 (s 3 1),.int .i64 (s 3 2),.int .i64 (s 4 0),.int .i64 (s 4 1),.int .i64 (s 4 2)] 24 (0,0)):=heap_set (heap_set (heap_set m3_k 0 (.int .i64 (s 2 0))) 1 (.int .i64 (s 2 1))) 2 (.int .i64 (s 2 2))
            replace l_k:=heap_ne (heap_ne (heap_ne l_k nl 0 (.int .i64 (s 2 0))) nl 1 (.int .i64 (s 2 1))) nl 2 (.int .i64 (s 2 2))
            replace v_k:=heap_ne (heap_ne (heap_ne v_k nv 0 (.int .i64 (s 2 0))) nv 1 (.int .i64 (s 2 1))) nv 2 (.int .i64 (s 2 2))
            replace w_k:=heap_ne (heap_ne (heap_ne w_k nw 0 (.int .i64 (s 2 0))) nw 1 (.int .i64 (s 2 1))) nw 2 (.int .i64 (s 2 2))
            replace u_k:=heap_ne (heap_ne (heap_ne u_k um.symm 0 (.int .i64 (s 2 0))) um.symm 1 (.int .i64 (s 2 1))) um.symm 2 (.int .i64 (s 2 2))
            replace hb:=((hb.setCell (p:=⟨gm,0,none⟩) gm0 (.int .i64 (s 2 0))).setCell (p:=⟨gm,1,none⟩) gm0 (.int .i64 (s 2 1))).setCell (p:=⟨gm,2,none⟩) gm0 (.int .i64 (s 2 2))
            clear m3_k
            generalize ((x11.setCell ⟨gm,0,none⟩ (.int .i64 (s 2 0))).setCell ⟨gm,1,none⟩ (.int .i64 (s 2 1))).setCell ⟨gm,2,none⟩ (.int .i64 (s 2 2))=x12 at l_k v_k w_k u_k m4_k hb ⊢
            refine (CD02.out _ hb).mono ?_
            rintro _ y11 ⟨rfl,h11⟩
            replace l_k:=blk_us h11 l_k
            replace v_k:=blk_us h11 v_k
            replace w_k:=blk_us h11 w_k
            replace u_k:=blk_us h11 u_k
            replace hb:=bel_trans hb h11
            clear h11 m4_k
            have u_0:=blkC u_k 0 rfl
            have u_1:=blkC u_k 1 rfl
            have u_2:=blkF u_k 0
            have u_3:=blkF u_k 1
            go_wp2_with fail
            clear u_0 u_1 u_2 u_3
            have u2_k:((y11.setCell ⟨gu,0,none⟩ (.int .i64 0)).setCell ⟨gu,1,none⟩ (.int .i64 td02)).heap[gu]?=some (.cells #[.int .i64 0,.int .i64 td02] 29 (0,0)):=heap_set (heap_set u_k 0 (.int .i64 0)) 1 (.int .i64 td02)
            replace l_k:=heap_ne (heap_ne l_k ul 0 (.int .i64 0)) ul 1 (.int .i64 td02)
            replace v_k:=heap_ne (heap_ne v_k uv 0 (.int .i64 0)) uv 1 (.int .i64 td02)
            replace w_k:=heap_ne (heap_ne w_k uw 0 (.int .i64 0)) uw 1 (.int .i64 td02)
            clear u_k
            replace hb:=(hb.setCell (p:=⟨gu,0,none⟩) gu0 (.int .i64 0)).setCell (p:=⟨gu,1,none⟩) gu0 (.int .i64 td02)
            generalize (y11.setCell ⟨gu,0,none⟩ (.int .i64 0)).setCell ⟨gu,1,none⟩ (.int .i64 td02)=x13 at l_k v_k w_k u2_k hb ⊢
            have u_0:=blkC u2_k 0 rfl
            go_wp2_with (first | (go_at_call 11; refine (CN.out _).mono ?_; rintro _ _ ⟨rfl,rfl⟩))
            go_roundw
            case rel=>exact ⟨hb,l_k,v_k,w_k,.inr (.inr (.inl (by go_num)))⟩
            case measure=>simp [intOf]
          . skip
            try clear CA
            try clear CG
            try clear CS
            try clear CP
            try clear CX
            try clear CY
            try clear CP01
            try clear CD01
            try clear CS01
            try clear CP02
            try clear CD02
            try clear CS02
            try clear CP04
            try clear CD04
            try clear CP12
            try clear CD12
            try clear CS12
            try clear CP13
            try clear CD13
            try clear CS13
            try clear CP14
            try clear CD14
            try clear CP23
            try clear CD23
            try clear CS23
            try clear CP24
            try clear CD24
            try clear CP34
            try clear CD34
            have f0:=blkC l_k 0 rfl
            have f1:=blkC l_k 1 rfl
            have f2:=blkC l_k 2 rfl
            have f3:=blkC l_k 3 rfl
            have f4:=blkC l_k 4 rfl
            have f5:=blkC l_k 5 rfl
            have f6:=blkC l_k 6 rfl
            have f7:=blkC l_k 7 rfl
            have f8:=blkC l_k 8 rfl
            have f9:=blkC l_k 9 rfl
            have f10:=blkC l_k 10 rfl
            have f11:=blkC l_k 11 rfl
            have f12:=blkC l_k 12 rfl
            have f13:=blkC l_k 13 rfl
            have f14:=blkC l_k 14 rfl
            go_wp2_with fail
            clear f0 f1 f2 f3 f4 f5 f6 f7 f8 f9 f10 f11 f12 f13 f14
            replace l_k:=heap_past (.cells #[.int .i64 (s 0 0),.int .i64 (s 0 1),.int .i64 (s 0 2),.int .i64 (s 1 0),.int .i64 (s 1 1),.int .i64 (s 1 2),.int .i64 (s 2 0),.int .i64 (s 2 1),.int .i64 (s 2 2),.int .i64 (s 3 0),.int .i64 (s 3 1),.int .i64 (s 3 2),.int .i64 (s 4 0),.int .i64 (s 4 1),.int .i64 (s 4 2)] 24) l_k
            replace v_k:=heap_past (.cells #[.int .i64 (s 0 0),.int .i64 (s 0 1),.int .i64 (s 0 2),.int .i64 (s 1 0),.int .i64 (s 1 1),.int .i64 (s 1 2),.int .i64 (s 2 0),.int .i64 (s 2 1),.int .i64 (s 2 2),.int .i64 (s 3 0),.int .i64 (s 3 1),.int .i64 (s 3 2),.int .i64 (s 4 0),.int .i64 (s 4 1),.int .i64 (s 4 2)] 24) v_k
            replace w_k:=heap_past (.cells #[.int .i64 (s 0 0),.int .i64 (s 0 1),.int .i64 (s 0 2),.int .i64 (s 1 0),.int .i64 (s 1 1),.int .i64 (s 1 2),.int .i64 (s 2 0),.int .i64 (s 2 1),.int .i64 (s 2 2),.int .i64 (s 3 0),.int .i64 (s 3 1),.int .i64 (s 3 2),.int .i64 (s 4 0),.int .i64 (s 4 1),.int .i64 (s 4 2)] 24) w_k
            have m_k:=heap_a1 wr (.cells #[.int .i64 (s 0 0),.int .i64 (s 0 1),.int .i64 (s 0 2),.int .i64 (s 1 0),.int .i64 (s 1 1),.int .i64 (s 1 2),.int .i64 (s 2 0),.int .i64 (s 2 1),.int .i64 (s 2 2),.int .i64 (s 3 0),.int .i64 (s 3 1),.int .i64 (s 3 2),.int .i64 (s 4 0),.int .i64 (s 4 1),.int .i64 (s 4 2)] 24)
            replace hb:=bel_trans hb (bel_alloc wr (.cells #[.int .i64 (s 0 0),.int .i64 (s 0 1),.int .i64 (s 0 2),.int .i64 (s 1 0),.int .i64 (s 1 1),.int .i64 (s 1 2),.int .i64 (s 2 0),.int .i64 (s 2 1),.int .i64 (s 2 2),.int .i64 (s 3 0),.int .i64 (s 3 1),.int .i64 (s 3 2),.int .i64 (s 4 0),.int .i64 (s 4 1),.int .i64 (s 4 2)] 24))
            have nl:w.heap.size≠wr.heap.size:=by have:=(Array.getElem?_eq_some_iff.1 l_k).1; have:=hl0; omega
            have nv:gv≠wr.heap.size:=by have:=hv0; omega
            have nw:gw≠wr.heap.size:=by have:=hw0; omega
            have gm0:w.heap.size<=wr.heap.size:=by have:=hl0; omega
            generalize hgm:wr.heap.size=gm at m_k nl nv nw gm0 ⊢
            clear hgm hl0 hv0 hw0
            generalize wr.alloc (.cells #[.int .i64 (s 0 0),.int .i64 (s 0 1),.int .i64 (s 0 2),.int .i64 (s 1 0),.int .i64 (s 1 1),.int .i64 (s 1 2),.int .i64 (s 2 0),.int .i64 (s 2 1),.int .i64 (s 2 2),.int .i64 (s 3 0),.int .i64 (s 3 1),.int .i64 (s 3 2),.int .i64 (s 4 0),.int .i64 (s 4 1),.int .i64 (s 4 2)] 24)=xm at l_k v_k w_k m_k hb ⊢
            have m1_k:(((xm.setCell ⟨gm,0,none⟩ (.int .i64 (s 3 0))).setCell ⟨gm,1,none⟩ (.int .i64 (s 3 1))).setCell ⟨gm,2,none⟩ (.int .i64 (s 3 2))).heap[gm]?=some (.cells #[.int .i64 (s 3 0),.int .i64 (s 3 1),.int .i64 (s 3 2),.int .i64 (s 1 0),.int .i64 (s 1 1),.int .i64 (s 1 2),.int .i64 (s 2 0),.int .i64 (s 2 1),.int .i64 (s 2 2),.int .i64 (s 3 0),.int .i64 (s 3 1),.int .i64 (s 3 2),.int .i64 (s 4 0),.int .i64 (s 4 1),.int .i64 (s 4 2)] 24 (0,0)):=heap_set (heap_set (heap_set m_k 0 (.int .i64 (s 3 0))) 1 (.int .i64 (s 3 1))) 2 (.int .i64 (s 3 2))
            have m2_k:((((((xm.setCell ⟨gm,0,none⟩ (.int .i64 (s 3 0))).setCell ⟨gm,1,none⟩ (.int .i64 (s 3 1))).setCell ⟨gm,2,none⟩ (.int .i64 (s 3 2))).setCell ⟨gm,9,none⟩ (.int .i64 (s 0 0))).setCell ⟨gm,10,none⟩ (.int .i64 (s 0 1))).setCell ⟨gm,11,none⟩ (.int .i64 (s 0 2))).heap[gm]?=some (.cells #[.int .i64 (s 3 0),.int .i64 (s 3 1),.int .i64 (s 3 2),.int .i64 (s 1 0),.int .i64 (s 1 1),.int .i64 (s 1 2),.int .i64 (s 2 0),.int .i64 (s 2 1),.int .i64 (s 2 2),.int .i64 (s 0 0),.int .i64 (s 0 1),.int .i64 (s 0 2),.int .i64 (s 4 0),.int .i64 (s 4 1),.int .i64 (s 4 2)] 24 (0,0)):=heap_set (heap_set (heap_set m1_k 9 (.int .i64 (s 0 0))) 10 (.int .i64 (s 0 1))) 11 (.int .i64 (s 0 2))
            have q0:=blkC m_k 0 rfl
            have z0:=blkF m_k 0
            have q1:=blkC m_k 1 rfl
            have z1:=blkF m_k 1
            have q2:=blkC m_k 2 rfl
            have z2:=blkF m_k 2
            have q9:=blkC m_k 9 rfl
            have z9:=blkF m_k 9
            have q10:=blkC m_k 10 rfl
            have z10:=blkF m_k 10
            have q11:=blkC m_k 11 rfl
            have z11:=blkF m_k 11
            have p9:=blkC m1_k 9 rfl
            have y9:=blkF m1_k 9
            have p10:=blkC m1_k 10 rfl
            have y10:=blkF m1_k 10
            have p11:=blkC m1_k 11 rfl
            have y11:=blkF m1_k 11
            go_region
            clear q0 z0 q1 z1 q2 z2 q9 z9 q10 z10 q11 z11
            clear p9 y9 p10 y10 p11 y11
            replace l_k:=heap_ne (heap_ne (heap_ne (heap_ne (heap_ne (heap_ne l_k nl 0 (.int .i64 (s 3 0))) nl 1 (.int .i64 (s 3 1))) nl 2 (.int .i64 (s 3 2))) nl 9 (.int .i64 (s 0 0))) nl 10 (.int .i64 (s 0 1))) nl 11 (.int .i64 (s 0 2))
            replace v_k:=heap_ne (heap_ne (heap_ne (heap_ne (heap_ne (heap_ne v_k nv 0 (.int .i64 (s 3 0))) nv 1 (.int .i64 (s 3 1))) nv 2 (.int .i64 (s 3 2))) nv 9 (.int .i64 (s 0 0))) nv 10 (.int .i64 (s 0 1))) nv 11 (.int .i64 (s 0 2))
            replace w_k:=heap_ne (heap_ne (heap_ne (heap_ne (heap_ne (heap_ne w_k nw 0 (.int .i64 (s 3 0))) nw 1 (.int .i64 (s 3 1))) nw 2 (.int .i64 (s 3 2))) nw 9 (.int .i64 (s 0 0))) nw 10 (.int .i64 (s 0 1))) nw 11 (.int .i64 (s 0 2))
            clear m_k m1_k
            replace hb:=(((((hb.setCell (p:=⟨gm,0,none⟩) gm0 (.int .i64 (s 3 0))).setCell (p:=⟨gm,1,none⟩) gm0 (.int .i64 (s 3 1))).setCell (p:=⟨gm,2,none⟩) gm0 (.int .i64 (s 3 2))).setCell (p:=⟨gm,9,none⟩) gm0 (.int .i64 (s 0 0))).setCell (p:=⟨gm,10,none⟩) gm0 (.int .i64 (s 0 1))).setCell (p:=⟨gm,11,none⟩) gm0 (.int .i64 (s 0 2))
            generalize (((((xm.setCell ⟨gm,0,none⟩ (.int .i64 (s 3 0))).setCell ⟨gm,1,none⟩ (.int .i64 (s 3 1))).setCell ⟨gm,2,none⟩ (.int .i64 (s 3 2))).setCell ⟨gm,9,none⟩ (.int .i64 (s 0 0))).setCell ⟨gm,10,none⟩ (.int .i64 (s 0 1))).setCell ⟨gm,11,none⟩ (.int .i64 (s 0 2))=x8 at l_k v_k w_k m2_k hb ⊢
            have hD:=(bel_refl x8).drew
            replace l_k:=blk_us hD l_k
            replace v_k:=blk_us hD v_k
            replace w_k:=blk_us hD w_k
            replace m2_k:=blk_us hD m2_k
            replace hb:=bel_trans hb hD
            clear hD
            generalize x8.drew=x8 at l_k v_k w_k m2_k hb ⊢
            have q0:=blkC m2_k 0 rfl
            have q1:=blkC m2_k 1 rfl
            have q2:=blkC m2_k 2 rfl
            have q3:=blkC m2_k 3 rfl
            have q4:=blkC m2_k 4 rfl
            have q5:=blkC m2_k 5 rfl
            have q6:=blkC m2_k 6 rfl
            have q7:=blkC m2_k 7 rfl
            have q8:=blkC m2_k 8 rfl
            have q9:=blkC m2_k 9 rfl
            have q10:=blkC m2_k 10 rfl
            have q11:=blkC m2_k 11 rfl
            have q12:=blkC m2_k 12 rfl
            have q13:=blkC m2_k 13 rfl
            have q14:=blkC m2_k 14 rfl
            go_wp2_with fail
            clear q0 q1 q2 q3 q4 q5 q6 q7 q8 q9 q10 q11 q12 q13 q14
            refine (CP03.out _ hb).mono ?_
            rintro _ y9 ⟨rfl,h9⟩
            have hl0:=(Array.getElem?_eq_some_iff.1 (blk_us h9 l_k)).1
            have hv0:=(Array.getElem?_eq_some_iff.1 (blk_us h9 v_k)).1
            have hw0:=(Array.getElem?_eq_some_iff.1 (blk_us h9 w_k)).1
            have hm0:=(Array.getElem?_eq_some_iff.1 (blk_us h9 m2_k)).1
            have ul:w.heap.size≠y9.heap.size:=by omega
            have uv:gv≠y9.heap.size:=by omega
            have uw:gw≠y9.heap.size:=by omega
            have um:gm≠y9.heap.size:=by omega
            have gu0:w.heap.size<=y9.heap.size:=by omega
            clear hl0 hv0 hw0 hm0
            replace l_k:=heap_past (.cells #[.int .i64 (-ws),.int .i64 tp03] 29) (blk_us h9 l_k)
            replace v_k:=heap_past (.cells #[.int .i64 (-ws),.int .i64 tp03] 29) (blk_us h9 v_k)
            replace w_k:=heap_past (.cells #[.int .i64 (-ws),.int .i64 tp03] 29) (blk_us h9 w_k)
            replace m2_k:=heap_past (.cells #[.int .i64 (-ws),.int .i64 tp03] 29) (blk_us h9 m2_k)
            have u_k:=heap_a1 y9 (.cells #[.int .i64 (-ws),.int .i64 tp03] 29)
            replace hb:=bel_trans hb (bel_trans h9 (bel_alloc y9 (.cells #[.int .i64 (-ws),.int .i64 tp03] 29)))
            clear h9
            have w_0:=blkC w_k 0 rfl
            have u_0:=blkC u_k 0 rfl
            have q0:=blkC m2_k 0 rfl
            have q1:=blkC m2_k 1 rfl
            have q2:=blkC m2_k 2 rfl
            have q3:=blkC m2_k 3 rfl
            have q4:=blkC m2_k 4 rfl
            have q5:=blkC m2_k 5 rfl
            have q6:=blkC m2_k 6 rfl
            have q7:=blkC m2_k 7 rfl
            have q8:=blkC m2_k 8 rfl
            have q9:=blkC m2_k 9 rfl
            have q10:=blkC m2_k 10 rfl
            have q11:=blkC m2_k 11 rfl
            go_wp2_with (first | (go_at_call 11; refine (CN.out _).mono ?_; rintro _ _ ⟨rfl,rfl⟩))
            clear q0 q1 q2 q3 q4 q5 q6 q7 q8 q9 q10 q11
            clear w_0 u_0
            generalize hgu:y9.heap.size=gu at u_k ul uv uw um gu0 ⊢
            clear hgu
            generalize y9.alloc (.cells #[.int .i64 (-ws),.int .i64 tp03] 29)=x9 at l_k v_k w_k m2_k u_k hb ⊢
            refine (CS03.out _ hb).mono ?_
            rintro _ y10 ⟨rfl,h10⟩
            replace l_k:=blk_us h10 l_k
            replace v_k:=blk_us h10 v_k
            replace w_k:=blk_us h10 w_k
            replace m2_k:=blk_us h10 m2_k
            replace u_k:=blk_us h10 u_k
            replace hb:=bel_trans hb h10
            clear h10
            have u_0:=blkC u_k 0 rfl
            have u_1:=blkC u_k 1 rfl
            have u_2:=blkF u_k 0
            have u_3:=blkF u_k 1
            go_wp2_with fail
            clear u_0 u_1 u_2 u_3
            have u2_k:((y10.setCell ⟨gu,0,none⟩ (.int .i64 (-vs))).setCell ⟨gu,1,none⟩ (.int .i64 ts03)).heap[gu]?=some (.cells #[.int .i64 (-vs),.int .i64 ts03] 29 (0,0)):=heap_set (heap_set u_k 0 (.int .i64 (-vs))) 1 (.int .i64 ts03)
            replace l_k:=heap_ne (heap_ne l_k ul 0 (.int .i64 (-vs))) ul 1 (.int .i64 ts03)
            replace v_k:=heap_ne (heap_ne v_k uv 0 (.int .i64 (-vs))) uv 1 (.int .i64 ts03)
            replace w_k:=heap_ne (heap_ne w_k uw 0 (.int .i64 (-vs))) uw 1 (.int .i64 ts03)
            replace m2_k:=heap_ne (heap_ne m2_k um 0 (.int .i64 (-vs))) um 1 (.int .i64 ts03)
            clear u_k
            have u_k:=u2_k
            clear u2_k
            replace hb:=(hb.setCell (p:=⟨gu,0,none⟩) gu0 (.int .i64 (-vs))).setCell (p:=⟨gu,1,none⟩) gu0 (.int .i64 ts03)
            generalize (y10.setCell ⟨gu,0,none⟩ (.int .i64 (-vs))).setCell ⟨gu,1,none⟩ (.int .i64 ts03)=x10 at l_k v_k w_k m2_k u_k hb ⊢
            have v_0:=blkC v_k 0 rfl
            have u_0:=blkC u_k 0 rfl
            have f0:=blkC l_k 0 rfl
            have f1:=blkC l_k 1 rfl
            have f2:=blkC l_k 2 rfl
            have f3:=blkC l_k 3 rfl
            have f4:=blkC l_k 4 rfl
            have f5:=blkC l_k 5 rfl
            have f6:=blkC l_k 6 rfl
            have f7:=blkC l_k 7 rfl
            have f8:=blkC l_k 8 rfl
            have f9:=blkC l_k 9 rfl
            have f10:=blkC l_k 10 rfl
            have f11:=blkC l_k 11 rfl
            have f12:=blkC l_k 12 rfl
            have f13:=blkC l_k 13 rfl
            have f14:=blkC l_k 14 rfl
            dsimp only
            have hGo:Hid True:=trivial
            repeat (have _q:=hGo; clear _q; first | (refine wp_store_row 24 _ _ rfl gm #[.int .i64 (s 0 0),.int .i64 (s 0 1),.int .i64 (s 0 2),.int .i64 (s 1 0),.int .i64 (s 1 1),.int .i64 (s 1 2),.int .i64 (s 2 0),.int .i64 (s 2 1),.int .i64 (s 2 2),.int .i64 (s 3 0),.int .i64 (s 3 1),.int .i64 (s 3 2),.int .i64 (s 4 0),.int .i64 (s 4 1),.int .i64 (s 4 2)] rfl rfl _ _ m2_k (by kernel_rfl) rfl (by kernel_rfl) ?_; clear hGo; dsimp only [Act.put]) | (go_at_call 11; refine (CN.out _).mono ?_; rintro _ _ ⟨rfl,rfl⟩; dsimp only) | go_step)
            clear f0 f1 f2 f3 f4 f5 f6 f7 f8 f9 f10 f11 f12 f13 f14
            clear v_0 u_0
            have m3_k:=setRow_heap x10 gm _ #[.int .i64 (s 0 0),.int .i64 (s 0 1),.int .i64 (s 0 2),.int .i64 (s 1 0),.int .i64 (s 1 1),.int .i64 (s 1 2),.int .i64 (s 2 0),.int .i64 (s 2 1),.int .i64 (s 2 2),.int .i64 (s 3 0),.int .i64 (s 3 1),.int .i64 (s 3 2),.int .i64 (s 4 0),.int .i64 (s 4 1),.int .i64 (s 4 2)] _ _ m2_k
            replace l_k:=(setRow_other x10 gm _ #[.int .i64 (s 0 0),.int .i64 (s 0 1),.int .i64 (s 0 2),.int .i64 (s 1 0),.int .i64 (s 1 1),.int .i64 (s 1 2),.int .i64 (s 2 0),.int .i64 (s 2 1),.int .i64 (s 2 2),.int .i64 (s 3 0),.int .i64 (s 3 1),.int .i64 (s 3 2),.int .i64 (s 4 0),.int .i64 (s 4 1),.int .i64 (s 4 2)] nl).trans l_k
            replace v_k:=(setRow_other x10 gm _ #[.int .i64 (s 0 0),.int .i64 (s 0 1),.int .i64 (s 0 2),.int .i64 (s 1 0),.int .i64 (s 1 1),.int .i64 (s 1 2),.int .i64 (s 2 0),.int .i64 (s 2 1),.int .i64 (s 2 2),.int .i64 (s 3 0),.int .i64 (s 3 1),.int .i64 (s 3 2),.int .i64 (s 4 0),.int .i64 (s 4 1),.int .i64 (s 4 2)] nv).trans v_k
            replace w_k:=(setRow_other x10 gm _ #[.int .i64 (s 0 0),.int .i64 (s 0 1),.int .i64 (s 0 2),.int .i64 (s 1 0),.int .i64 (s 1 1),.int .i64 (s 1 2),.int .i64 (s 2 0),.int .i64 (s 2 1),.int .i64 (s 2 2),.int .i64 (s 3 0),.int .i64 (s 3 1),.int .i64 (s 3 2),.int .i64 (s 4 0),.int .i64 (s 4 1),.int .i64 (s 4 2)] nw).trans w_k
            replace u_k:=(setRow_other x10 gm _ #[.int .i64 (s 0 0),.int .i64 (s 0 1),.int .i64 (s 0 2),.int .i64 (s 1 0),.int .i64 (s 1 1),.int .i64 (s 1 2),.int .i64 (s 2 0),.int .i64 (s 2 1),.int .i64 (s 2 2),.int .i64 (s 3 0),.int .i64 (s 3 1),.int .i64 (s 3 2),.int .i64 (s 4 0),.int .i64 (s 4 1),.int .i64 (s 4 2)] um.symm).trans u_k
            replace hb:Below w.heap.size w (x10.setRow gm #[.int .i64 (s 0 0),.int .i64 (s 0 1),.int .i64 (s 0 2),.int .i64 (s 1 0),.int .i64 (s 1 1),.int .i64 (s 1 2),.int .i64 (s 2 0),.int .i64 (s 2 1),.int .i64 (s 2 2),.int .i64 (s 3 0),.int .i64 (s 3 1),.int .i64 (s 3 2),.int .i64 (s 4 0),.int .i64 (s 4 1),.int .i64 (s 4 2)]):=hb.trans ⟨rfl,rfl,rfl,by simp [World.setRow],fun k hk=>setRow_other _ _ _ _ (by omega)⟩
            clear m2_k
            generalize (x10.setRow gm #[.int .i64 (s 0 0),.int .i64 (s 0 1),.int .i64 (s 0 2),.int .i64 (s 1 0),.int .i64 (s 1 1),.int .i64 (s 1 2),.int .i64 (s 2 0),.int .i64 (s 2 1),.int .i64 (s 2 2),.int .i64 (s 3 0),.int .i64 (s 3 1),.int .i64 (s 3 2),.int .i64 (s 4 0),.int .i64 (s 4 1),.int .i64 (s 4 2)])=x11 at l_k v_k w_k u_k m3_k hb ⊢
            have q0:=blkC m3_k 0 rfl
            have q1:=blkC m3_k 1 rfl
            have q2:=blkC m3_k 2 rfl
            have q3:=blkC m3_k 3 rfl
            have q4:=blkC m3_k 4 rfl
            have q5:=blkC m3_k 5 rfl
            have q6:=blkC m3_k 6 rfl
            have q7:=blkC m3_k 7 rfl
            have q8:=blkC m3_k 8 rfl
            have q9:=blkC m3_k 9 rfl
            have q10:=blkC m3_k 10 rfl
            have q11:=blkC m3_k 11 rfl
            have q12:=blkC m3_k 12 rfl
            have q13:=blkC m3_k 13 rfl
            have q14:=blkC m3_k 14 rfl
            have z0:=blkF m3_k 0
            have z1:=blkF m3_k 1
            have z2:=blkF m3_k 2
            go_wp2_with fail
            clear q0 q1 q2 q3 q4 q5 q6 q7 q8 q9 q10 q11 q12 q13 q14
            clear z0 z1 z2
            have m4_k:(((x11.setCell ⟨gm,0,none⟩ (.int .i64 (s 3 0))).setCell ⟨gm,1,none⟩ (.int .i64 (s 3 1))).setCell ⟨gm,2,none⟩ (.int .i64 (s 3 2))).heap[gm]?=some (.cells #[.int .i64 (s 3 0),.int .i64 (s 3 1),.int .i64 (s 3 2),.int .i64 (s 1 0),.int .i64 (s 1 1),.int .i64 (s 1 2),.int .i64 (s 2 0),.int .i64 (s 2 1),.int .i64 (s 2 2),.int .i64 (s 3 0),.int .i64 (s 3 1),.int .i64 (s 3 2),.int .i64 (s 4 0),.int .i64 (s 4 1),.int .i64 (s 4 2)] 24 (0,0)):=heap_set (heap_set (heap_set m3_k 0 (.int .i64 (s 3 0))) 1 (.int .i64 (s 3 1))) 2 (.int .i64 (s 3 2))
            replace l_k:=heap_ne (heap_ne (heap_ne l_k nl 0 (.int .i64 (s 3 0))) nl 1 (.int .i64 (s 3 1))) nl 2 (.int .i64 (s 3 2))
            replace v_k:=heap_ne (heap_ne (heap_ne v_k nv 0 (.int .i64 (s 3 0))) nv 1 (.int .i64 (s 3 1))) nv 2 (.int .i64 (s 3 2))
            replace w_k:=heap_ne (heap_ne (heap_ne w_k nw 0 (.int .i64 (s 3 0))) nw 1 (.int .i64 (s 3 1))) nw 2 (.int .i64 (s 3 2))
            replace u_k:=heap_ne (heap_ne (heap_ne u_k um.symm 0 (.int .i64 (s 3 0))) um.symm 1 (.int .i64 (s 3 1))) um.symm 2 (.int .i64 (s 3 2))
            replace hb:=((hb.setCell (p:=⟨gm,0,none⟩) gm0 (.int .i64 (s 3 0))).setCell (p:=⟨gm,1,none⟩) gm0 (.int .i64 (s 3 1))).setCell (p:=⟨gm,2,none⟩) gm0 (.int .i64 (s 3 2))
            clear m3_k
            generalize ((x11.setCell ⟨gm,0,none⟩ (.int .i64 (s 3 0))).setCell ⟨gm,1,none⟩ (.int .i64 (s 3 1))).setCell ⟨gm,2,none⟩ (.int .i64 (s 3 2))=x12 at l_k v_k w_k u_k m4_k hb ⊢
            refine (CD03.out _ hb).mono ?_
            rintro _ y11 ⟨rfl,h11⟩
            replace l_k:=blk_us h11 l_k
            replace v_k:=blk_us h11 v_k
            replace w_k:=blk_us h11 w_k
            replace u_k:=blk_us h11 u_k
            replace hb:=bel_trans hb h11
            clear h11 m4_k
            have u_0:=blkC u_k 0 rfl
            have u_1:=blkC u_k 1 rfl
            have u_2:=blkF u_k 0
            have u_3:=blkF u_k 1
            go_wp2_with fail
            clear u_0 u_1 u_2 u_3
            have u2_k:((y11.setCell ⟨gu,0,none⟩ (.int .i64 0)).setCell ⟨gu,1,none⟩ (.int .i64 td03)).heap[gu]?=some (.cells #[.int .i64 0,.int .i64 td03] 29 (0,0)):=heap_set (heap_set u_k 0 (.int .i64 0)) 1 (.int .i64 td03)
            replace l_k:=heap_ne (heap_ne l_k ul 0 (.int .i64 0)) ul 1 (.int .i64 td03)
            replace v_k:=heap_ne (heap_ne v_k uv 0 (.int .i64 0)) uv 1 (.int .i64 td03)
            replace w_k:=heap_ne (heap_ne w_k uw 0 (.int .i64 0)) uw 1 (.int .i64 td03)
            clear u_k
            replace hb:=(hb.setCell (p:=⟨gu,0,none⟩) gu0 (.int .i64 0)).setCell (p:=⟨gu,1,none⟩) gu0 (.int .i64 td03)
            generalize (y11.setCell ⟨gu,0,none⟩ (.int .i64 0)).setCell ⟨gu,1,none⟩ (.int .i64 td03)=x13 at l_k v_k w_k u2_k hb ⊢
            have u_0:=blkC u2_k 0 rfl
            go_wp2_with (first | (go_at_call 11; refine (CN.out _).mono ?_; rintro _ _ ⟨rfl,rfl⟩))
            go_roundw
            case rel=>exact ⟨hb,l_k,v_k,w_k,.inr (.inr (.inr (.inl (by go_num))))⟩
            case measure=>simp [intOf]
          . skip
            try clear CA
            try clear CG
            try clear CS
            try clear CP
            try clear CX
            try clear CY
            try clear CP01
            try clear CD01
            try clear CS01
            try clear CP02
            try clear CD02
            try clear CS02
            try clear CP03
            try clear CD03
            try clear CS03
            try clear CP12
            try clear CD12
            try clear CS12
            try clear CP13
            try clear CD13
            try clear CS13
            try clear CP14
            try clear CD14
            try clear CP23
            try clear CD23
            try clear CS23
            try clear CP24
            try clear CD24
            try clear CP34
            try clear CD34
            have f0:=blkC l_k 0 rfl
            have f1:=blkC l_k 1 rfl
            have f2:=blkC l_k 2 rfl
            have f3:=blkC l_k 3 rfl
            have f4:=blkC l_k 4 rfl
            have f5:=blkC l_k 5 rfl
            have f6:=blkC l_k 6 rfl
            have f7:=blkC l_k 7 rfl
            have f8:=blkC l_k 8 rfl
            have f9:=blkC l_k 9 rfl
            have f10:=blkC l_k 10 rfl
            have f11:=blkC l_k 11 rfl
            have f12:=blkC l_k 12 rfl
            have f13:=blkC l_k 13 rfl
            have f14:=blkC l_k 14 rfl
            go_wp2_with fail
            clear f0 f1 f2 f3 f4 f5 f6 f7 f8 f9 f10 f11 f12 f13 f14
            replace l_k:=heap_past (.cells #[.int .i64 (s 0 0),.int .i64 (s 0 1),.int .i64 (s 0 2),.int .i64 (s 1 0),.int .i64 (s 1 1),.int .i64 (s 1 2),.int .i64 (s 2 0),.int .i64 (s 2 1),.int .i64 (s 2 2),.int .i64 (s 3 0),.int .i64 (s 3 1),.int .i64 (s 3 2),.int .i64 (s 4 0),.int .i64 (s 4 1),.int .i64 (s 4 2)] 24) l_k
            replace v_k:=heap_past (.cells #[.int .i64 (s 0 0),.int .i64 (s 0 1),.int .i64 (s 0 2),.int .i64 (s 1 0),.int .i64 (s 1 1),.int .i64 (s 1 2),.int .i64 (s 2 0),.int .i64 (s 2 1),.int .i64 (s 2 2),.int .i64 (s 3 0),.int .i64 (s 3 1),.int .i64 (s 3 2),.int .i64 (s 4 0),.int .i64 (s 4 1),.int .i64 (s 4 2)] 24) v_k
            replace w_k:=heap_past (.cells #[.int .i64 (s 0 0),.int .i64 (s 0 1),.int .i64 (s 0 2),.int .i64 (s 1 0),.int .i64 (s 1 1),.int .i64 (s 1 2),.int .i64 (s 2 0),.int .i64 (s 2 1),.int .i64 (s 2 2),.int .i64 (s 3 0),.int .i64 (s 3 1),.int .i64 (s 3 2),.int .i64 (s 4 0),.int .i64 (s 4 1),.int .i64 (s 4 2)] 24) w_k
            have m_k:=heap_a1 wr (.cells #[.int .i64 (s 0 0),.int .i64 (s 0 1),.int .i64 (s 0 2),.int .i64 (s 1 0),.int .i64 (s 1 1),.int .i64 (s 1 2),.int .i64 (s 2 0),.int .i64 (s 2 1),.int .i64 (s 2 2),.int .i64 (s 3 0),.int .i64 (s 3 1),.int .i64 (s 3 2),.int .i64 (s 4 0),.int .i64 (s 4 1),.int .i64 (s 4 2)] 24)
            replace hb:=bel_trans hb (bel_alloc wr (.cells #[.int .i64 (s 0 0),.int .i64 (s 0 1),.int .i64 (s 0 2),.int .i64 (s 1 0),.int .i64 (s 1 1),.int .i64 (s 1 2),.int .i64 (s 2 0),.int .i64 (s 2 1),.int .i64 (s 2 2),.int .i64 (s 3 0),.int .i64 (s 3 1),.int .i64 (s 3 2),.int .i64 (s 4 0),.int .i64 (s 4 1),.int .i64 (s 4 2)] 24))
            have nl:w.heap.size≠wr.heap.size:=by have:=(Array.getElem?_eq_some_iff.1 l_k).1; have:=hl0; omega
            have nv:gv≠wr.heap.size:=by have:=hv0; omega
            have nw:gw≠wr.heap.size:=by have:=hw0; omega
            have gm0:w.heap.size<=wr.heap.size:=by have:=hl0; omega
            generalize hgm:wr.heap.size=gm at m_k nl nv nw gm0 ⊢
            clear hgm hl0 hv0 hw0
            generalize wr.alloc (.cells #[.int .i64 (s 0 0),.int .i64 (s 0 1),.int .i64 (s 0 2),.int .i64 (s 1 0),.int .i64 (s 1 1),.int .i64 (s 1 2),.int .i64 (s 2 0),.int .i64 (s 2 1),.int .i64 (s 2 2),.int .i64 (s 3 0),.int .i64 (s 3 1),.int .i64 (s 3 2),.int .i64 (s 4 0),.int .i64 (s 4 1),.int .i64 (s 4 2)] 24)=xm at l_k v_k w_k m_k hb ⊢
            have m1_k:(((xm.setCell ⟨gm,0,none⟩ (.int .i64 (s 4 0))).setCell ⟨gm,1,none⟩ (.int .i64 (s 4 1))).setCell ⟨gm,2,none⟩ (.int .i64 (s 4 2))).heap[gm]?=some (.cells #[.int .i64 (s 4 0),.int .i64 (s 4 1),.int .i64 (s 4 2),.int .i64 (s 1 0),.int .i64 (s 1 1),.int .i64 (s 1 2),.int .i64 (s 2 0),.int .i64 (s 2 1),.int .i64 (s 2 2),.int .i64 (s 3 0),.int .i64 (s 3 1),.int .i64 (s 3 2),.int .i64 (s 4 0),.int .i64 (s 4 1),.int .i64 (s 4 2)] 24 (0,0)):=heap_set (heap_set (heap_set m_k 0 (.int .i64 (s 4 0))) 1 (.int .i64 (s 4 1))) 2 (.int .i64 (s 4 2))
            have m2_k:((((((xm.setCell ⟨gm,0,none⟩ (.int .i64 (s 4 0))).setCell ⟨gm,1,none⟩ (.int .i64 (s 4 1))).setCell ⟨gm,2,none⟩ (.int .i64 (s 4 2))).setCell ⟨gm,12,none⟩ (.int .i64 (s 0 0))).setCell ⟨gm,13,none⟩ (.int .i64 (s 0 1))).setCell ⟨gm,14,none⟩ (.int .i64 (s 0 2))).heap[gm]?=some (.cells #[.int .i64 (s 4 0),.int .i64 (s 4 1),.int .i64 (s 4 2),.int .i64 (s 1 0),.int .i64 (s 1 1),.int .i64 (s 1 2),.int .i64 (s 2 0),.int .i64 (s 2 1),.int .i64 (s 2 2),.int .i64 (s 3 0),.int .i64 (s 3 1),.int .i64 (s 3 2),.int .i64 (s 0 0),.int .i64 (s 0 1),.int .i64 (s 0 2)] 24 (0,0)):=heap_set (heap_set (heap_set m1_k 12 (.int .i64 (s 0 0))) 13 (.int .i64 (s 0 1))) 14 (.int .i64 (s 0 2))
            have q0:=blkC m_k 0 rfl
            have z0:=blkF m_k 0
            have q1:=blkC m_k 1 rfl
            have z1:=blkF m_k 1
            have q2:=blkC m_k 2 rfl
            have z2:=blkF m_k 2
            have q12:=blkC m_k 12 rfl
            have z12:=blkF m_k 12
            have q13:=blkC m_k 13 rfl
            have z13:=blkF m_k 13
            have q14:=blkC m_k 14 rfl
            have z14:=blkF m_k 14
            have p12:=blkC m1_k 12 rfl
            have y12:=blkF m1_k 12
            have p13:=blkC m1_k 13 rfl
            have y13:=blkF m1_k 13
            have p14:=blkC m1_k 14 rfl
            have y14:=blkF m1_k 14
            go_region
            clear q0 z0 q1 z1 q2 z2 q12 z12 q13 z13 q14 z14
            clear p12 y12 p13 y13 p14 y14
            replace l_k:=heap_ne (heap_ne (heap_ne (heap_ne (heap_ne (heap_ne l_k nl 0 (.int .i64 (s 4 0))) nl 1 (.int .i64 (s 4 1))) nl 2 (.int .i64 (s 4 2))) nl 12 (.int .i64 (s 0 0))) nl 13 (.int .i64 (s 0 1))) nl 14 (.int .i64 (s 0 2))
            replace v_k:=heap_ne (heap_ne (heap_ne (heap_ne (heap_ne (heap_ne v_k nv 0 (.int .i64 (s 4 0))) nv 1 (.int .i64 (s 4 1))) nv 2 (.int .i64 (s 4 2))) nv 12 (.int .i64 (s 0 0))) nv 13 (.int .i64 (s 0 1))) nv 14 (.int .i64 (s 0 2))
            replace w_k:=heap_ne (heap_ne (heap_ne (heap_ne (heap_ne (heap_ne w_k nw 0 (.int .i64 (s 4 0))) nw 1 (.int .i64 (s 4 1))) nw 2 (.int .i64 (s 4 2))) nw 12 (.int .i64 (s 0 0))) nw 13 (.int .i64 (s 0 1))) nw 14 (.int .i64 (s 0 2))
            clear m_k m1_k
            replace hb:=(((((hb.setCell (p:=⟨gm,0,none⟩) gm0 (.int .i64 (s 4 0))).setCell (p:=⟨gm,1,none⟩) gm0 (.int .i64 (s 4 1))).setCell (p:=⟨gm,2,none⟩) gm0 (.int .i64 (s 4 2))).setCell (p:=⟨gm,12,none⟩) gm0 (.int .i64 (s 0 0))).setCell (p:=⟨gm,13,none⟩) gm0 (.int .i64 (s 0 1))).setCell (p:=⟨gm,14,none⟩) gm0 (.int .i64 (s 0 2))
            generalize (((((xm.setCell ⟨gm,0,none⟩ (.int .i64 (s 4 0))).setCell ⟨gm,1,none⟩ (.int .i64 (s 4 1))).setCell ⟨gm,2,none⟩ (.int .i64 (s 4 2))).setCell ⟨gm,12,none⟩ (.int .i64 (s 0 0))).setCell ⟨gm,13,none⟩ (.int .i64 (s 0 1))).setCell ⟨gm,14,none⟩ (.int .i64 (s 0 2))=x8 at l_k v_k w_k m2_k hb ⊢
            have hD:=(bel_refl x8).drew
            replace l_k:=blk_us hD l_k
            replace v_k:=blk_us hD v_k
            replace w_k:=blk_us hD w_k
            replace m2_k:=blk_us hD m2_k
            replace hb:=bel_trans hb hD
            clear hD
            generalize x8.drew=x8 at l_k v_k w_k m2_k hb ⊢
            have q0:=blkC m2_k 0 rfl
            have q1:=blkC m2_k 1 rfl
            have q2:=blkC m2_k 2 rfl
            have q3:=blkC m2_k 3 rfl
            have q4:=blkC m2_k 4 rfl
            have q5:=blkC m2_k 5 rfl
            have q6:=blkC m2_k 6 rfl
            have q7:=blkC m2_k 7 rfl
            have q8:=blkC m2_k 8 rfl
            have q9:=blkC m2_k 9 rfl
            have q10:=blkC m2_k 10 rfl
            have q11:=blkC m2_k 11 rfl
            have q12:=blkC m2_k 12 rfl
            have q13:=blkC m2_k 13 rfl
            have q14:=blkC m2_k 14 rfl
            go_wp2_with fail
            clear q0 q1 q2 q3 q4 q5 q6 q7 q8 q9 q10 q11 q12 q13 q14
            refine (CP04.out _ hb).mono ?_
            rintro _ y9 ⟨rfl,h9⟩
            have hl0:=(Array.getElem?_eq_some_iff.1 (blk_us h9 l_k)).1
            have hv0:=(Array.getElem?_eq_some_iff.1 (blk_us h9 v_k)).1
            have hw0:=(Array.getElem?_eq_some_iff.1 (blk_us h9 w_k)).1
            have hm0:=(Array.getElem?_eq_some_iff.1 (blk_us h9 m2_k)).1
            have ul:w.heap.size≠y9.heap.size:=by omega
            have uv:gv≠y9.heap.size:=by omega
            have uw:gw≠y9.heap.size:=by omega
            have um:gm≠y9.heap.size:=by omega
            have gu0:w.heap.size<=y9.heap.size:=by omega
            clear hl0 hv0 hw0 hm0
            replace l_k:=heap_past (.cells #[.int .i64 (-ws),.int .i64 tp04] 29) (blk_us h9 l_k)
            replace v_k:=heap_past (.cells #[.int .i64 (-ws),.int .i64 tp04] 29) (blk_us h9 v_k)
            replace w_k:=heap_past (.cells #[.int .i64 (-ws),.int .i64 tp04] 29) (blk_us h9 w_k)
            replace m2_k:=heap_past (.cells #[.int .i64 (-ws),.int .i64 tp04] 29) (blk_us h9 m2_k)
            have u_k:=heap_a1 y9 (.cells #[.int .i64 (-ws),.int .i64 tp04] 29)
            replace hb:=bel_trans hb (bel_trans h9 (bel_alloc y9 (.cells #[.int .i64 (-ws),.int .i64 tp04] 29)))
            clear h9
            have w_0:=blkC w_k 0 rfl
            have u_0:=blkC u_k 0 rfl
            have f0:=blkC l_k 0 rfl
            have f1:=blkC l_k 1 rfl
            have f2:=blkC l_k 2 rfl
            have f3:=blkC l_k 3 rfl
            have f4:=blkC l_k 4 rfl
            have f5:=blkC l_k 5 rfl
            have f6:=blkC l_k 6 rfl
            have f7:=blkC l_k 7 rfl
            have f8:=blkC l_k 8 rfl
            have f9:=blkC l_k 9 rfl
            have f10:=blkC l_k 10 rfl
            have f11:=blkC l_k 11 rfl
            have f12:=blkC l_k 12 rfl
            have f13:=blkC l_k 13 rfl
            have f14:=blkC l_k 14 rfl
            dsimp only
            have hGo:Hid True:=trivial
            repeat (have _q:=hGo; clear _q; first | (refine wp_store_row 24 _ _ rfl gm #[.int .i64 (s 0 0),.int .i64 (s 0 1),.int .i64 (s 0 2),.int .i64 (s 1 0),.int .i64 (s 1 1),.int .i64 (s 1 2),.int .i64 (s 2 0),.int .i64 (s 2 1),.int .i64 (s 2 2),.int .i64 (s 3 0),.int .i64 (s 3 1),.int .i64 (s 3 2),.int .i64 (s 4 0),.int .i64 (s 4 1),.int .i64 (s 4 2)] rfl rfl _ _ m2_k (by kernel_rfl) rfl (by kernel_rfl) ?_; clear hGo; dsimp only [Act.put]) | (go_at_call 11; refine (CN.out _).mono ?_; rintro _ _ ⟨rfl,rfl⟩; dsimp only) | go_step)
            clear f0 f1 f2 f3 f4 f5 f6 f7 f8 f9 f10 f11 f12 f13 f14
            clear w_0 u_0
            generalize hgu:y9.heap.size=gu at u_k ul uv uw um gu0 ⊢
            clear hgu
            generalize y9.alloc (.cells #[.int .i64 (-ws),.int .i64 tp04] 29)=x10 at l_k v_k w_k m2_k u_k hb ⊢
            have m3_k:=setRow_heap x10 gm _ #[.int .i64 (s 0 0),.int .i64 (s 0 1),.int .i64 (s 0 2),.int .i64 (s 1 0),.int .i64 (s 1 1),.int .i64 (s 1 2),.int .i64 (s 2 0),.int .i64 (s 2 1),.int .i64 (s 2 2),.int .i64 (s 3 0),.int .i64 (s 3 1),.int .i64 (s 3 2),.int .i64 (s 4 0),.int .i64 (s 4 1),.int .i64 (s 4 2)] _ _ m2_k
            replace l_k:=(setRow_other x10 gm _ #[.int .i64 (s 0 0),.int .i64 (s 0 1),.int .i64 (s 0 2),.int .i64 (s 1 0),.int .i64 (s 1 1),.int .i64 (s 1 2),.int .i64 (s 2 0),.int .i64 (s 2 1),.int .i64 (s 2 2),.int .i64 (s 3 0),.int .i64 (s 3 1),.int .i64 (s 3 2),.int .i64 (s 4 0),.int .i64 (s 4 1),.int .i64 (s 4 2)] nl).trans l_k
            replace v_k:=(setRow_other x10 gm _ #[.int .i64 (s 0 0),.int .i64 (s 0 1),.int .i64 (s 0 2),.int .i64 (s 1 0),.int .i64 (s 1 1),.int .i64 (s 1 2),.int .i64 (s 2 0),.int .i64 (s 2 1),.int .i64 (s 2 2),.int .i64 (s 3 0),.int .i64 (s 3 1),.int .i64 (s 3 2),.int .i64 (s 4 0),.int .i64 (s 4 1),.int .i64 (s 4 2)] nv).trans v_k
            replace w_k:=(setRow_other x10 gm _ #[.int .i64 (s 0 0),.int .i64 (s 0 1),.int .i64 (s 0 2),.int .i64 (s 1 0),.int .i64 (s 1 1),.int .i64 (s 1 2),.int .i64 (s 2 0),.int .i64 (s 2 1),.int .i64 (s 2 2),.int .i64 (s 3 0),.int .i64 (s 3 1),.int .i64 (s 3 2),.int .i64 (s 4 0),.int .i64 (s 4 1),.int .i64 (s 4 2)] nw).trans w_k
            replace u_k:=(setRow_other x10 gm _ #[.int .i64 (s 0 0),.int .i64 (s 0 1),.int .i64 (s 0 2),.int .i64 (s 1 0),.int .i64 (s 1 1),.int .i64 (s 1 2),.int .i64 (s 2 0),.int .i64 (s 2 1),.int .i64 (s 2 2),.int .i64 (s 3 0),.int .i64 (s 3 1),.int .i64 (s 3 2),.int .i64 (s 4 0),.int .i64 (s 4 1),.int .i64 (s 4 2)] um.symm).trans u_k
            replace hb:Below w.heap.size w (x10.setRow gm #[.int .i64 (s 0 0),.int .i64 (s 0 1),.int .i64 (s 0 2),.int .i64 (s 1 0),.int .i64 (s 1 1),.int .i64 (s 1 2),.int .i64 (s 2 0),.int .i64 (s 2 1),.int .i64 (s 2 2),.int .i64 (s 3 0),.int .i64 (s 3 1),.int .i64 (s 3 2),.int .i64 (s 4 0),.int .i64 (s 4 1),.int .i64 (s 4 2)]):=hb.trans ⟨rfl,rfl,rfl,by simp [World.setRow],fun k hk=>setRow_other _ _ _ _ (by omega)⟩
            clear m2_k
            generalize (x10.setRow gm #[.int .i64 (s 0 0),.int .i64 (s 0 1),.int .i64 (s 0 2),.int .i64 (s 1 0),.int .i64 (s 1 1),.int .i64 (s 1 2),.int .i64 (s 2 0),.int .i64 (s 2 1),.int .i64 (s 2 2),.int .i64 (s 3 0),.int .i64 (s 3 1),.int .i64 (s 3 2),.int .i64 (s 4 0),.int .i64 (s 4 1),.int .i64 (s 4 2)])=x11 at l_k v_k w_k u_k m3_k hb ⊢
            have q0:=blkC m3_k 0 rfl
            have q1:=blkC m3_k 1 rfl
            have q2:=blkC m3_k 2 rfl
            have q3:=blkC m3_k 3 rfl
            have q4:=blkC m3_k 4 rfl
            have q5:=blkC m3_k 5 rfl
            have q6:=blkC m3_k 6 rfl
            have q7:=blkC m3_k 7 rfl
            have q8:=blkC m3_k 8 rfl
            have q9:=blkC m3_k 9 rfl
            have q10:=blkC m3_k 10 rfl
            have q11:=blkC m3_k 11 rfl
            have q12:=blkC m3_k 12 rfl
            have q13:=blkC m3_k 13 rfl
            have q14:=blkC m3_k 14 rfl
            have z0:=blkF m3_k 0
            have z1:=blkF m3_k 1
            have z2:=blkF m3_k 2
            go_wp2_with fail
            clear q0 q1 q2 q3 q4 q5 q6 q7 q8 q9 q10 q11 q12 q13 q14
            clear z0 z1 z2
            have m4_k:(((x11.setCell ⟨gm,0,none⟩ (.int .i64 (s 4 0))).setCell ⟨gm,1,none⟩ (.int .i64 (s 4 1))).setCell ⟨gm,2,none⟩ (.int .i64 (s 4 2))).heap[gm]?=some (.cells #[.int .i64 (s 4 0),.int .i64 (s 4 1),.int .i64 (s 4 2),.int .i64 (s 1 0),.int .i64 (s 1 1),.int .i64 (s 1 2),.int .i64 (s 2 0),.int .i64 (s 2 1),.int .i64 (s 2 2),.int .i64 (s 3 0),.int .i64 (s 3 1),.int .i64 (s 3 2),.int .i64 (s 4 0),.int .i64 (s 4 1),.int .i64 (s 4 2)] 24 (0,0)):=heap_set (heap_set (heap_set m3_k 0 (.int .i64 (s 4 0))) 1 (.int .i64 (s 4 1))) 2 (.int .i64 (s 4 2))
            replace l_k:=heap_ne (heap_ne (heap_ne l_k nl 0 (.int .i64 (s 4 0))) nl 1 (.int .i64 (s 4 1))) nl 2 (.int .i64 (s 4 2))
            replace v_k:=heap_ne (heap_ne (heap_ne v_k nv 0 (.int .i64 (s 4 0))) nv 1 (.int .i64 (s 4 1))) nv 2 (.int .i64 (s 4 2))
            replace w_k:=heap_ne (heap_ne (heap_ne w_k nw 0 (.int .i64 (s 4 0))) nw 1 (.int .i64 (s 4 1))) nw 2 (.int .i64 (s 4 2))
            replace u_k:=heap_ne (heap_ne (heap_ne u_k um.symm 0 (.int .i64 (s 4 0))) um.symm 1 (.int .i64 (s 4 1))) um.symm 2 (.int .i64 (s 4 2))
            replace hb:=((hb.setCell (p:=⟨gm,0,none⟩) gm0 (.int .i64 (s 4 0))).setCell (p:=⟨gm,1,none⟩) gm0 (.int .i64 (s 4 1))).setCell (p:=⟨gm,2,none⟩) gm0 (.int .i64 (s 4 2))
            clear m3_k
            generalize ((x11.setCell ⟨gm,0,none⟩ (.int .i64 (s 4 0))).setCell ⟨gm,1,none⟩ (.int .i64 (s 4 1))).setCell ⟨gm,2,none⟩ (.int .i64 (s 4 2))=x12 at l_k v_k w_k u_k m4_k hb ⊢
            refine (CD04.out _ hb).mono ?_
            rintro _ y11 ⟨rfl,h11⟩
            replace l_k:=blk_us h11 l_k
            replace v_k:=blk_us h11 v_k
            replace w_k:=blk_us h11 w_k
            replace u_k:=blk_us h11 u_k
            replace hb:=bel_trans hb h11
            clear h11 m4_k
            have u_0:=blkC u_k 0 rfl
            have u_1:=blkC u_k 1 rfl
            have u_2:=blkF u_k 0
            have u_3:=blkF u_k 1
            go_wp2_with fail
            clear u_0 u_1 u_2 u_3
            have u2_k:((y11.setCell ⟨gu,0,none⟩ (.int .i64 0)).setCell ⟨gu,1,none⟩ (.int .i64 td04)).heap[gu]?=some (.cells #[.int .i64 0,.int .i64 td04] 29 (0,0)):=heap_set (heap_set u_k 0 (.int .i64 0)) 1 (.int .i64 td04)
            replace l_k:=heap_ne (heap_ne l_k ul 0 (.int .i64 0)) ul 1 (.int .i64 td04)
            replace v_k:=heap_ne (heap_ne v_k uv 0 (.int .i64 0)) uv 1 (.int .i64 td04)
            replace w_k:=heap_ne (heap_ne w_k uw 0 (.int .i64 0)) uw 1 (.int .i64 td04)
            clear u_k
            replace hb:=(hb.setCell (p:=⟨gu,0,none⟩) gu0 (.int .i64 0)).setCell (p:=⟨gu,1,none⟩) gu0 (.int .i64 td04)
            generalize (y11.setCell ⟨gu,0,none⟩ (.int .i64 0)).setCell ⟨gu,1,none⟩ (.int .i64 td04)=x13 at l_k v_k w_k u2_k hb ⊢
            have u_0:=blkC u2_k 0 rfl
            go_wp2_with (first | (go_at_call 11; refine (CN.out _).mono ?_; rintro _ _ ⟨rfl,rfl⟩))
            go_roundw
            case rel=>exact ⟨hb,l_k,v_k,w_k,.inr (.inr (.inr (.inr ((by go_num)))))⟩
            case measure=>simp [intOf]
          . go_wp2
            go_roundw
            case rel=>exact ⟨hb,l_k,v_k,w_k,.inr (.inl (by go_num))⟩
            case measure=>simp [intOf]
      . go_wp2_with fail
        go_loopw [14] (fun j wr=>Below w.heap.size w wr∧wr.heap[w.heap.size]?=some (.cells #[.int .i64 (s 0 0),.int .i64 (s 0 1),.int .i64 (s 0 2),.int .i64 (s 1 0),.int .i64 (s 1 1),.int .i64 (s 1 2),.int .i64 (s 2 0),.int .i64 (s 2 1),.int .i64 (s 2 2),.int .i64 (s 3 0),.int .i64 (s 3 1),.int .i64 (s 3 2),.int .i64 (s 4 0),.int .i64 (s 4 1),.int .i64 (s 4 2)] 24 (0,0))∧wr.heap[gv]?=some (.cells #[.int .i64 vs,.int .i64 st] 29 (0,0))∧wr.heap[gw]?=some (.cells #[.int .i64 ws,.int .i64 sv] 29 (0,0))∧(j=.int .i64 2∨j=.int .i64 3∨j=.int .i64 4∨j=.int .i64 5)) (fun j _=>5-(intOf j).toNat)
        case atStart=>exact ⟨hb,l_k,v_k,w_k,.inl (by go_num)⟩
        case round=>
          clear hb l_k v_k w_k
          obtain ⟨hb,l_k,v_k,w_k,hrel⟩:=hrel
          have hl0:=(Array.getElem?_eq_some_iff.1 l_k).1
          have hv0:=(Array.getElem?_eq_some_iff.1 v_k).1
          have hw0:=(Array.getElem?_eq_some_iff.1 w_k).1
          rcases hrel with rfl | rfl | rfl | rfl
          . skip
            try clear CA
            try clear CG
            try clear CS
            try clear CP
            try clear CX
            try clear CY
            try clear CP01
            try clear CD01
            try clear CS01
            try clear CP02
            try clear CD02
            try clear CS02
            try clear CP03
            try clear CD03
            try clear CS03
            try clear CP04
            try clear CD04
            try clear CP13
            try clear CD13
            try clear CS13
            try clear CP14
            try clear CD14
            try clear CP23
            try clear CD23
            try clear CS23
            try clear CP24
            try clear CD24
            try clear CP34
            try clear CD34
            have f0:=blkC l_k 0 rfl
            have f1:=blkC l_k 1 rfl
            have f2:=blkC l_k 2 rfl
            have f3:=blkC l_k 3 rfl
            have f4:=blkC l_k 4 rfl
            have f5:=blkC l_k 5 rfl
            have f6:=blkC l_k 6 rfl
            have f7:=blkC l_k 7 rfl
            have f8:=blkC l_k 8 rfl
            have f9:=blkC l_k 9 rfl
            have f10:=blkC l_k 10 rfl
            have f11:=blkC l_k 11 rfl
            have f12:=blkC l_k 12 rfl
            have f13:=blkC l_k 13 rfl
            have f14:=blkC l_k 14 rfl
            go_wp2_with fail
            clear f0 f1 f2 f3 f4 f5 f6 f7 f8 f9 f10 f11 f12 f13 f14
            replace l_k:=heap_past (.cells #[.int .i64 (s 0 0),.int .i64 (s 0 1),.int .i64 (s 0 2),.int .i64 (s 1 0),.int .i64 (s 1 1),.int .i64 (s 1 2),.int .i64 (s 2 0),.int .i64 (s 2 1),.int .i64 (s 2 2),.int .i64 (s 3 0),.int .i64 (s 3 1),.int .i64 (s 3 2),.int .i64 (s 4 0),.int .i64 (s 4 1),.int .i64 (s 4 2)] 24) l_k
            replace v_k:=heap_past (.cells #[.int .i64 (s 0 0),.int .i64 (s 0 1),.int .i64 (s 0 2),.int .i64 (s 1 0),.int .i64 (s 1 1),.int .i64 (s 1 2),.int .i64 (s 2 0),.int .i64 (s 2 1),.int .i64 (s 2 2),.int .i64 (s 3 0),.int .i64 (s 3 1),.int .i64 (s 3 2),.int .i64 (s 4 0),.int .i64 (s 4 1),.int .i64 (s 4 2)] 24) v_k
            replace w_k:=heap_past (.cells #[.int .i64 (s 0 0),.int .i64 (s 0 1),.int .i64 (s 0 2),.int .i64 (s 1 0),.int .i64 (s 1 1),.int .i64 (s 1 2),.int .i64 (s 2 0),.int .i64 (s 2 1),.int .i64 (s 2 2),.int .i64 (s 3 0),.int .i64 (s 3 1),.int .i64 (s 3 2),.int .i64 (s 4 0),.int .i64 (s 4 1),.int .i64 (s 4 2)] 24) w_k
            have m_k:=heap_a1 wr (.cells #[.int .i64 (s 0 0),.int .i64 (s 0 1),.int .i64 (s 0 2),.int .i64 (s 1 0),.int .i64 (s 1 1),.int .i64 (s 1 2),.int .i64 (s 2 0),.int .i64 (s 2 1),.int .i64 (s 2 2),.int .i64 (s 3 0),.int .i64 (s 3 1),.int .i64 (s 3 2),.int .i64 (s 4 0),.int .i64 (s 4 1),.int .i64 (s 4 2)] 24)
            replace hb:=bel_trans hb (bel_alloc wr (.cells #[.int .i64 (s 0 0),.int .i64 (s 0 1),.int .i64 (s 0 2),.int .i64 (s 1 0),.int .i64 (s 1 1),.int .i64 (s 1 2),.int .i64 (s 2 0),.int .i64 (s 2 1),.int .i64 (s 2 2),.int .i64 (s 3 0),.int .i64 (s 3 1),.int .i64 (s 3 2),.int .i64 (s 4 0),.int .i64 (s 4 1),.int .i64 (s 4 2)] 24))
            have nl:w.heap.size≠wr.heap.size:=by have:=(Array.getElem?_eq_some_iff.1 l_k).1; have:=hl0; omega
            have nv:gv≠wr.heap.size:=by have:=hv0; omega
            have nw:gw≠wr.heap.size:=by have:=hw0; omega
            have gm0:w.heap.size<=wr.heap.size:=by have:=hl0; omega
            generalize hgm:wr.heap.size=gm at m_k nl nv nw gm0 ⊢
            clear hgm hl0 hv0 hw0
            generalize wr.alloc (.cells #[.int .i64 (s 0 0),.int .i64 (s 0 1),.int .i64 (s 0 2),.int .i64 (s 1 0),.int .i64 (s 1 1),.int .i64 (s 1 2),.int .i64 (s 2 0),.int .i64 (s 2 1),.int .i64 (s 2 2),.int .i64 (s 3 0),.int .i64 (s 3 1),.int .i64 (s 3 2),.int .i64 (s 4 0),.int .i64 (s 4 1),.int .i64 (s 4 2)] 24)=xm at l_k v_k w_k m_k hb ⊢
            have m1_k:(((xm.setCell ⟨gm,3,none⟩ (.int .i64 (s 2 0))).setCell ⟨gm,4,none⟩ (.int .i64 (s 2 1))).setCell ⟨gm,5,none⟩ (.int .i64 (s 2 2))).heap[gm]?=some (.cells #[.int .i64 (s 0 0),.int .i64 (s 0 1),.int .i64 (s 0 2),.int .i64 (s 2 0),.int .i64 (s 2 1),.int .i64 (s 2 2),.int .i64 (s 2 0),.int .i64 (s 2 1),.int .i64 (s 2 2),.int .i64 (s 3 0),.int .i64 (s 3 1),.int .i64 (s 3 2),.int .i64 (s 4 0),.int .i64 (s 4 1),.int .i64 (s 4 2)] 24 (0,0)):=heap_set (heap_set (heap_set m_k 3 (.int .i64 (s 2 0))) 4 (.int .i64 (s 2 1))) 5 (.int .i64 (s 2 2))
            have m2_k:((((((xm.setCell ⟨gm,3,none⟩ (.int .i64 (s 2 0))).setCell ⟨gm,4,none⟩ (.int .i64 (s 2 1))).setCell ⟨gm,5,none⟩ (.int .i64 (s 2 2))).setCell ⟨gm,6,none⟩ (.int .i64 (s 1 0))).setCell ⟨gm,7,none⟩ (.int .i64 (s 1 1))).setCell ⟨gm,8,none⟩ (.int .i64 (s 1 2))).heap[gm]?=some (.cells #[.int .i64 (s 0 0),.int .i64 (s 0 1),.int .i64 (s 0 2),.int .i64 (s 2 0),.int .i64 (s 2 1),.int .i64 (s 2 2),.int .i64 (s 1 0),.int .i64 (s 1 1),.int .i64 (s 1 2),.int .i64 (s 3 0),.int .i64 (s 3 1),.int .i64 (s 3 2),.int .i64 (s 4 0),.int .i64 (s 4 1),.int .i64 (s 4 2)] 24 (0,0)):=heap_set (heap_set (heap_set m1_k 6 (.int .i64 (s 1 0))) 7 (.int .i64 (s 1 1))) 8 (.int .i64 (s 1 2))
            have q3:=blkC m_k 3 rfl
            have z3:=blkF m_k 3
            have q4:=blkC m_k 4 rfl
            have z4:=blkF m_k 4
            have q5:=blkC m_k 5 rfl
            have z5:=blkF m_k 5
            have q6:=blkC m_k 6 rfl
            have z6:=blkF m_k 6
            have q7:=blkC m_k 7 rfl
            have z7:=blkF m_k 7
            have q8:=blkC m_k 8 rfl
            have z8:=blkF m_k 8
            have p6:=blkC m1_k 6 rfl
            have y6:=blkF m1_k 6
            have p7:=blkC m1_k 7 rfl
            have y7:=blkF m1_k 7
            have p8:=blkC m1_k 8 rfl
            have y8:=blkF m1_k 8
            go_region
            clear q3 z3 q4 z4 q5 z5 q6 z6 q7 z7 q8 z8
            clear p6 y6 p7 y7 p8 y8
            replace l_k:=heap_ne (heap_ne (heap_ne (heap_ne (heap_ne (heap_ne l_k nl 3 (.int .i64 (s 2 0))) nl 4 (.int .i64 (s 2 1))) nl 5 (.int .i64 (s 2 2))) nl 6 (.int .i64 (s 1 0))) nl 7 (.int .i64 (s 1 1))) nl 8 (.int .i64 (s 1 2))
            replace v_k:=heap_ne (heap_ne (heap_ne (heap_ne (heap_ne (heap_ne v_k nv 3 (.int .i64 (s 2 0))) nv 4 (.int .i64 (s 2 1))) nv 5 (.int .i64 (s 2 2))) nv 6 (.int .i64 (s 1 0))) nv 7 (.int .i64 (s 1 1))) nv 8 (.int .i64 (s 1 2))
            replace w_k:=heap_ne (heap_ne (heap_ne (heap_ne (heap_ne (heap_ne w_k nw 3 (.int .i64 (s 2 0))) nw 4 (.int .i64 (s 2 1))) nw 5 (.int .i64 (s 2 2))) nw 6 (.int .i64 (s 1 0))) nw 7 (.int .i64 (s 1 1))) nw 8 (.int .i64 (s 1 2))
            clear m_k m1_k
            replace hb:=(((((hb.setCell (p:=⟨gm,3,none⟩) gm0 (.int .i64 (s 2 0))).setCell (p:=⟨gm,4,none⟩) gm0 (.int .i64 (s 2 1))).setCell (p:=⟨gm,5,none⟩) gm0 (.int .i64 (s 2 2))).setCell (p:=⟨gm,6,none⟩) gm0 (.int .i64 (s 1 0))).setCell (p:=⟨gm,7,none⟩) gm0 (.int .i64 (s 1 1))).setCell (p:=⟨gm,8,none⟩) gm0 (.int .i64 (s 1 2))
            generalize (((((xm.setCell ⟨gm,3,none⟩ (.int .i64 (s 2 0))).setCell ⟨gm,4,none⟩ (.int .i64 (s 2 1))).setCell ⟨gm,5,none⟩ (.int .i64 (s 2 2))).setCell ⟨gm,6,none⟩ (.int .i64 (s 1 0))).setCell ⟨gm,7,none⟩ (.int .i64 (s 1 1))).setCell ⟨gm,8,none⟩ (.int .i64 (s 1 2))=x8 at l_k v_k w_k m2_k hb ⊢
            have hD:=(bel_refl x8).drew
            replace l_k:=blk_us hD l_k
            replace v_k:=blk_us hD v_k
            replace w_k:=blk_us hD w_k
            replace m2_k:=blk_us hD m2_k
            replace hb:=bel_trans hb hD
            clear hD
            generalize x8.drew=x8 at l_k v_k w_k m2_k hb ⊢
            have q0:=blkC m2_k 0 rfl
            have q1:=blkC m2_k 1 rfl
            have q2:=blkC m2_k 2 rfl
            have q3:=blkC m2_k 3 rfl
            have q4:=blkC m2_k 4 rfl
            have q5:=blkC m2_k 5 rfl
            have q6:=blkC m2_k 6 rfl
            have q7:=blkC m2_k 7 rfl
            have q8:=blkC m2_k 8 rfl
            have q9:=blkC m2_k 9 rfl
            have q10:=blkC m2_k 10 rfl
            have q11:=blkC m2_k 11 rfl
            have q12:=blkC m2_k 12 rfl
            have q13:=blkC m2_k 13 rfl
            have q14:=blkC m2_k 14 rfl
            go_wp2_with fail
            clear q0 q1 q2 q3 q4 q5 q6 q7 q8 q9 q10 q11 q12 q13 q14
            refine (CP12.out _ hb).mono ?_
            rintro _ y9 ⟨rfl,h9⟩
            have hl0:=(Array.getElem?_eq_some_iff.1 (blk_us h9 l_k)).1
            have hv0:=(Array.getElem?_eq_some_iff.1 (blk_us h9 v_k)).1
            have hw0:=(Array.getElem?_eq_some_iff.1 (blk_us h9 w_k)).1
            have hm0:=(Array.getElem?_eq_some_iff.1 (blk_us h9 m2_k)).1
            have ul:w.heap.size≠y9.heap.size:=by omega
            have uv:gv≠y9.heap.size:=by omega
            have uw:gw≠y9.heap.size:=by omega
            have um:gm≠y9.heap.size:=by omega
            have gu0:w.heap.size<=y9.heap.size:=by omega
            clear hl0 hv0 hw0 hm0
            replace l_k:=heap_past (.cells #[.int .i64 (-ws),.int .i64 tp12] 29) (blk_us h9 l_k)
            replace v_k:=heap_past (.cells #[.int .i64 (-ws),.int .i64 tp12] 29) (blk_us h9 v_k)
            replace w_k:=heap_past (.cells #[.int .i64 (-ws),.int .i64 tp12] 29) (blk_us h9 w_k)
            replace m2_k:=heap_past (.cells #[.int .i64 (-ws),.int .i64 tp12] 29) (blk_us h9 m2_k)
            have u_k:=heap_a1 y9 (.cells #[.int .i64 (-ws),.int .i64 tp12] 29)
            replace hb:=bel_trans hb (bel_trans h9 (bel_alloc y9 (.cells #[.int .i64 (-ws),.int .i64 tp12] 29)))
            clear h9
            have w_0:=blkC w_k 0 rfl
            have u_0:=blkC u_k 0 rfl
            have q0:=blkC m2_k 0 rfl
            have q1:=blkC m2_k 1 rfl
            have q2:=blkC m2_k 2 rfl
            have q3:=blkC m2_k 3 rfl
            have q4:=blkC m2_k 4 rfl
            have q5:=blkC m2_k 5 rfl
            have q6:=blkC m2_k 6 rfl
            have q7:=blkC m2_k 7 rfl
            have q8:=blkC m2_k 8 rfl
            have q9:=blkC m2_k 9 rfl
            have q10:=blkC m2_k 10 rfl
            have q11:=blkC m2_k 11 rfl
            go_wp2_with (first | (go_at_call 11; refine (CN.out _).mono ?_; rintro _ _ ⟨rfl,rfl⟩))
            clear q0 q1 q2 q3 q4 q5 q6 q7 q8 q9 q10 q11
            clear w_0 u_0
            generalize hgu:y9.heap.size=gu at u_k ul uv uw um gu0 ⊢
            clear hgu
            generalize y9.alloc (.cells #[.int .i64 (-ws),.int .i64 tp12] 29)=x9 at l_k v_k w_k m2_k u_k hb ⊢
            refine (CS12.out _ hb).mono ?_
            rintro _ y10 ⟨rfl,h10⟩
            replace l_k:=blk_us h10 l_k
            replace v_k:=blk_us h10 v_k
            replace w_k:=blk_us h10 w_k
            replace m2_k:=blk_us h10 m2_k
            replace u_k:=blk_us h10 u_k
            replace hb:=bel_trans hb h10
            clear h10
            have u_0:=blkC u_k 0 rfl
            have u_1:=blkC u_k 1 rfl
            have u_2:=blkF u_k 0
            have u_3:=blkF u_k 1
            go_wp2_with fail
            clear u_0 u_1 u_2 u_3
            have u2_k:((y10.setCell ⟨gu,0,none⟩ (.int .i64 (-vs))).setCell ⟨gu,1,none⟩ (.int .i64 ts12)).heap[gu]?=some (.cells #[.int .i64 (-vs),.int .i64 ts12] 29 (0,0)):=heap_set (heap_set u_k 0 (.int .i64 (-vs))) 1 (.int .i64 ts12)
            replace l_k:=heap_ne (heap_ne l_k ul 0 (.int .i64 (-vs))) ul 1 (.int .i64 ts12)
            replace v_k:=heap_ne (heap_ne v_k uv 0 (.int .i64 (-vs))) uv 1 (.int .i64 ts12)
            replace w_k:=heap_ne (heap_ne w_k uw 0 (.int .i64 (-vs))) uw 1 (.int .i64 ts12)
            replace m2_k:=heap_ne (heap_ne m2_k um 0 (.int .i64 (-vs))) um 1 (.int .i64 ts12)
            clear u_k
            have u_k:=u2_k
            clear u2_k
            replace hb:=(hb.setCell (p:=⟨gu,0,none⟩) gu0 (.int .i64 (-vs))).setCell (p:=⟨gu,1,none⟩) gu0 (.int .i64 ts12)
            generalize (y10.setCell ⟨gu,0,none⟩ (.int .i64 (-vs))).setCell ⟨gu,1,none⟩ (.int .i64 ts12)=x10 at l_k v_k w_k m2_k u_k hb ⊢
            have v_0:=blkC v_k 0 rfl
            have u_0:=blkC u_k 0 rfl
            have f0:=blkC l_k 0 rfl
            have f1:=blkC l_k 1 rfl
            have f2:=blkC l_k 2 rfl
            have f3:=blkC l_k 3 rfl
            have f4:=blkC l_k 4 rfl
            have f5:=blkC l_k 5 rfl
            have f6:=blkC l_k 6 rfl
            have f7:=blkC l_k 7 rfl
            have f8:=blkC l_k 8 rfl
            have f9:=blkC l_k 9 rfl
            have f10:=blkC l_k 10 rfl
            have f11:=blkC l_k 11 rfl
            have f12:=blkC l_k 12 rfl
            have f13:=blkC l_k 13 rfl
            have f14:=blkC l_k 14 rfl
            dsimp only
            have hGo:Hid True:=trivial
            repeat (have _q:=hGo; clear _q; first | (refine wp_store_row 24 _ _ rfl gm #[.int .i64 (s 0 0),.int .i64 (s 0 1),.int .i64 (s 0 2),.int .i64 (s 1 0),.int .i64 (s 1 1),.int .i64 (s 1 2),.int .i64 (s 2 0),.int .i64 (s 2 1),.int .i64 (s 2 2),.int .i64 (s 3 0),.int .i64 (s 3 1),.int .i64 (s 3 2),.int .i64 (s 4 0),.int .i64 (s 4 1),.int .i64 (s 4 2)] rfl rfl _ _ m2_k (by kernel_rfl) rfl (by kernel_rfl) ?_; clear hGo; dsimp only [Act.put]) | (go_at_call 11; refine (CN.out _).mono ?_; rintro _ _ ⟨rfl,rfl⟩; dsimp only) | go_step)
            clear f0 f1 f2 f3 f4 f5 f6 f7 f8 f9 f10 f11 f12 f13 f14
            clear v_0 u_0
            have m3_k:=setRow_heap x10 gm _ #[.int .i64 (s 0 0),.int .i64 (s 0 1),.int .i64 (s 0 2),.int .i64 (s 1 0),.int .i64 (s 1 1),.int .i64 (s 1 2),.int .i64 (s 2 0),.int .i64 (s 2 1),.int .i64 (s 2 2),.int .i64 (s 3 0),.int .i64 (s 3 1),.int .i64 (s 3 2),.int .i64 (s 4 0),.int .i64 (s 4 1),.int .i64 (s 4 2)] _ _ m2_k
            replace l_k:=(setRow_other x10 gm _ #[.int .i64 (s 0 0),.int .i64 (s 0 1),.int .i64 (s 0 2),.int .i64 (s 1 0),.int .i64 (s 1 1),.int .i64 (s 1 2),.int .i64 (s 2 0),.int .i64 (s 2 1),.int .i64 (s 2 2),.int .i64 (s 3 0),.int .i64 (s 3 1),.int .i64 (s 3 2),.int .i64 (s 4 0),.int .i64 (s 4 1),.int .i64 (s 4 2)] nl).trans l_k
            replace v_k:=(setRow_other x10 gm _ #[.int .i64 (s 0 0),.int .i64 (s 0 1),.int .i64 (s 0 2),.int .i64 (s 1 0),.int .i64 (s 1 1),.int .i64 (s 1 2),.int .i64 (s 2 0),.int .i64 (s 2 1),.int .i64 (s 2 2),.int .i64 (s 3 0),.int .i64 (s 3 1),.int .i64 (s 3 2),.int .i64 (s 4 0),.int .i64 (s 4 1),.int .i64 (s 4 2)] nv).trans v_k
            replace w_k:=(setRow_other x10 gm _ #[.int .i64 (s 0 0),.int .i64 (s 0 1),.int .i64 (s 0 2),.int .i64 (s 1 0),.int .i64 (s 1 1),.int .i64 (s 1 2),.int .i64 (s 2 0),.int .i64 (s 2 1),.int .i64 (s 2 2),.int .i64 (s 3 0),.int .i64 (s 3 1),.int .i64 (s 3 2),.int .i64 (s 4 0),.int .i64 (s 4 1),.int .i64 (s 4 2)] nw).trans w_k
            replace u_k:=(setRow_other x10 gm _ #[.int .i64 (s 0 0),.int .i64 (s 0 1),.int .i64 (s 0 2),.int .i64 (s 1 0),.int .i64 (s 1 1),.int .i64 (s 1 2),.int .i64 (s 2 0),.int .i64 (s 2 1),.int .i64 (s 2 2),.int .i64 (s 3 0),.int .i64 (s 3 1),.int .i64 (s 3 2),.int .i64 (s 4 0),.int .i64 (s 4 1),.int .i64 (s 4 2)] um.symm).trans u_k
            replace hb:Below w.heap.size w (x10.setRow gm #[.int .i64 (s 0 0),.int .i64 (s 0 1),.int .i64 (s 0 2),.int .i64 (s 1 0),.int .i64 (s 1 1),.int .i64 (s 1 2),.int .i64 (s 2 0),.int .i64 (s 2 1),.int .i64 (s 2 2),.int .i64 (s 3 0),.int .i64 (s 3 1),.int .i64 (s 3 2),.int .i64 (s 4 0),.int .i64 (s 4 1),.int .i64 (s 4 2)]):=hb.trans ⟨rfl,rfl,rfl,by simp [World.setRow],fun k hk=>setRow_other _ _ _ _ (by omega)⟩
            clear m2_k
            generalize (x10.setRow gm #[.int .i64 (s 0 0),.int .i64 (s 0 1),.int .i64 (s 0 2),.int .i64 (s 1 0),.int .i64 (s 1 1),.int .i64 (s 1 2),.int .i64 (s 2 0),.int .i64 (s 2 1),.int .i64 (s 2 2),.int .i64 (s 3 0),.int .i64 (s 3 1),.int .i64 (s 3 2),.int .i64 (s 4 0),.int .i64 (s 4 1),.int .i64 (s 4 2)])=x11 at l_k v_k w_k u_k m3_k hb ⊢
            have q0:=blkC m3_k 0 rfl
            have q1:=blkC m3_k 1 rfl
            have q2:=blkC m3_k 2 rfl
            have q3:=blkC m3_k 3 rfl
            have q4:=blkC m3_k 4 rfl
            have q5:=blkC m3_k 5 rfl
            have q6:=blkC m3_k 6 rfl
            have q7:=blkC m3_k 7 rfl
            have q8:=blkC m3_k 8 rfl
            have q9:=blkC m3_k 9 rfl
            have q10:=blkC m3_k 10 rfl
            have q11:=blkC m3_k 11 rfl
            have q12:=blkC m3_k 12 rfl
            have q13:=blkC m3_k 13 rfl
            have q14:=blkC m3_k 14 rfl
            have z3:=blkF m3_k 3
            have z4:=blkF m3_k 4
            have z5:=blkF m3_k 5
            go_wp2_with fail
            clear q0 q1 q2 q3 q4 q5 q6 q7 q8 q9 q10 q11 q12 q13 q14
            clear z3 z4 z5
            have m4_k:(((x11.setCell ⟨gm,3,none⟩ (.int .i64 (s 2 0))).setCell ⟨gm,4,none⟩ (.int .i64 (s 2 1))).setCell ⟨gm,5,none⟩ (.int .i64 (s 2 2))).heap[gm]?=some (.cells #[.int .i64 (s 0 0),.int .i64 (s 0 1),.int .i64 (s 0 2),.int .i64 (s 2 0),.int .i64 (s 2 1),.int .i64 (s 2 2),.int .i64 (s 2 0),.int .i64 (s 2 1),.int .i64 (s 2 2),.int .i64 (s 3 0),.int .i64 (s 3 1),.int .i64 (s 3 2),.int .i64 (s 4 0),.int .i64 (s 4 1),.int .i64 (s 4 2)] 24 (0,0)):=heap_set (heap_set (heap_set m3_k 3 (.int .i64 (s 2 0))) 4 (.int .i64 (s 2 1))) 5 (.int .i64 (s 2 2))
            replace l_k:=heap_ne (heap_ne (heap_ne l_k nl 3 (.int .i64 (s 2 0))) nl 4 (.int .i64 (s 2 1))) nl 5 (.int .i64 (s 2 2))
            replace v_k:=heap_ne (heap_ne (heap_ne v_k nv 3 (.int .i64 (s 2 0))) nv 4 (.int .i64 (s 2 1))) nv 5 (.int .i64 (s 2 2))
            replace w_k:=heap_ne (heap_ne (heap_ne w_k nw 3 (.int .i64 (s 2 0))) nw 4 (.int .i64 (s 2 1))) nw 5 (.int .i64 (s 2 2))
            replace u_k:=heap_ne (heap_ne (heap_ne u_k um.symm 3 (.int .i64 (s 2 0))) um.symm 4 (.int .i64 (s 2 1))) um.symm 5 (.int .i64 (s 2 2))
            replace hb:=((hb.setCell (p:=⟨gm,3,none⟩) gm0 (.int .i64 (s 2 0))).setCell (p:=⟨gm,4,none⟩) gm0 (.int .i64 (s 2 1))).setCell (p:=⟨gm,5,none⟩) gm0 (.int .i64 (s 2 2))
            clear m3_k
            generalize ((x11.setCell ⟨gm,3,none⟩ (.int .i64 (s 2 0))).setCell ⟨gm,4,none⟩ (.int .i64 (s 2 1))).setCell ⟨gm,5,none⟩ (.int .i64 (s 2 2))=x12 at l_k v_k w_k u_k m4_k hb ⊢
            refine (CD12.out _ hb).mono ?_
            rintro _ y11 ⟨rfl,h11⟩
            replace l_k:=blk_us h11 l_k
            replace v_k:=blk_us h11 v_k
            replace w_k:=blk_us h11 w_k
            replace u_k:=blk_us h11 u_k
            replace hb:=bel_trans hb h11
            clear h11 m4_k
            have u_0:=blkC u_k 0 rfl
            have u_1:=blkC u_k 1 rfl
            have u_2:=blkF u_k 0
            have u_3:=blkF u_k 1
            go_wp2_with fail
            clear u_0 u_1 u_2 u_3
            have u2_k:((y11.setCell ⟨gu,0,none⟩ (.int .i64 0)).setCell ⟨gu,1,none⟩ (.int .i64 td12)).heap[gu]?=some (.cells #[.int .i64 0,.int .i64 td12] 29 (0,0)):=heap_set (heap_set u_k 0 (.int .i64 0)) 1 (.int .i64 td12)
            replace l_k:=heap_ne (heap_ne l_k ul 0 (.int .i64 0)) ul 1 (.int .i64 td12)
            replace v_k:=heap_ne (heap_ne v_k uv 0 (.int .i64 0)) uv 1 (.int .i64 td12)
            replace w_k:=heap_ne (heap_ne w_k uw 0 (.int .i64 0)) uw 1 (.int .i64 td12)
            clear u_k
            replace hb:=(hb.setCell (p:=⟨gu,0,none⟩) gu0 (.int .i64 0)).setCell (p:=⟨gu,1,none⟩) gu0 (.int .i64 td12)
            generalize (y11.setCell ⟨gu,0,none⟩ (.int .i64 0)).setCell ⟨gu,1,none⟩ (.int .i64 td12)=x13 at l_k v_k w_k u2_k hb ⊢
            have u_0:=blkC u2_k 0 rfl
            go_wp2_with (first | (go_at_call 11; refine (CN.out _).mono ?_; rintro _ _ ⟨rfl,rfl⟩))
            go_roundw
            case rel=>exact ⟨hb,l_k,v_k,w_k,.inr (.inl (by go_num))⟩
            case measure=>simp [intOf]
          . skip
            try clear CA
            try clear CG
            try clear CS
            try clear CP
            try clear CX
            try clear CY
            try clear CP01
            try clear CD01
            try clear CS01
            try clear CP02
            try clear CD02
            try clear CS02
            try clear CP03
            try clear CD03
            try clear CS03
            try clear CP04
            try clear CD04
            try clear CP12
            try clear CD12
            try clear CS12
            try clear CP14
            try clear CD14
            try clear CP23
            try clear CD23
            try clear CS23
            try clear CP24
            try clear CD24
            try clear CP34
            try clear CD34
            have f0:=blkC l_k 0 rfl
            have f1:=blkC l_k 1 rfl
            have f2:=blkC l_k 2 rfl
            have f3:=blkC l_k 3 rfl
            have f4:=blkC l_k 4 rfl
            have f5:=blkC l_k 5 rfl
            have f6:=blkC l_k 6 rfl
            have f7:=blkC l_k 7 rfl
            have f8:=blkC l_k 8 rfl
            have f9:=blkC l_k 9 rfl
            have f10:=blkC l_k 10 rfl
            have f11:=blkC l_k 11 rfl
            have f12:=blkC l_k 12 rfl
            have f13:=blkC l_k 13 rfl
            have f14:=blkC l_k 14 rfl
            go_wp2_with fail
            clear f0 f1 f2 f3 f4 f5 f6 f7 f8 f9 f10 f11 f12 f13 f14
            replace l_k:=heap_past (.cells #[.int .i64 (s 0 0),.int .i64 (s 0 1),.int .i64 (s 0 2),.int .i64 (s 1 0),.int .i64 (s 1 1),.int .i64 (s 1 2),.int .i64 (s 2 0),.int .i64 (s 2 1),.int .i64 (s 2 2),.int .i64 (s 3 0),.int .i64 (s 3 1),.int .i64 (s 3 2),.int .i64 (s 4 0),.int .i64 (s 4 1),.int .i64 (s 4 2)] 24) l_k
            replace v_k:=heap_past (.cells #[.int .i64 (s 0 0),.int .i64 (s 0 1),.int .i64 (s 0 2),.int .i64 (s 1 0),.int .i64 (s 1 1),.int .i64 (s 1 2),.int .i64 (s 2 0),.int .i64 (s 2 1),.int .i64 (s 2 2),.int .i64 (s 3 0),.int .i64 (s 3 1),.int .i64 (s 3 2),.int .i64 (s 4 0),.int .i64 (s 4 1),.int .i64 (s 4 2)] 24) v_k
            replace w_k:=heap_past (.cells #[.int .i64 (s 0 0),.int .i64 (s 0 1),.int .i64 (s 0 2),.int .i64 (s 1 0),.int .i64 (s 1 1),.int .i64 (s 1 2),.int .i64 (s 2 0),.int .i64 (s 2 1),.int .i64 (s 2 2),.int .i64 (s 3 0),.int .i64 (s 3 1),.int .i64 (s 3 2),.int .i64 (s 4 0),.int .i64 (s 4 1),.int .i64 (s 4 2)] 24) w_k
            have m_k:=heap_a1 wr (.cells #[.int .i64 (s 0 0),.int .i64 (s 0 1),.int .i64 (s 0 2),.int .i64 (s 1 0),.int .i64 (s 1 1),.int .i64 (s 1 2),.int .i64 (s 2 0),.int .i64 (s 2 1),.int .i64 (s 2 2),.int .i64 (s 3 0),.int .i64 (s 3 1),.int .i64 (s 3 2),.int .i64 (s 4 0),.int .i64 (s 4 1),.int .i64 (s 4 2)] 24)
            replace hb:=bel_trans hb (bel_alloc wr (.cells #[.int .i64 (s 0 0),.int .i64 (s 0 1),.int .i64 (s 0 2),.int .i64 (s 1 0),.int .i64 (s 1 1),.int .i64 (s 1 2),.int .i64 (s 2 0),.int .i64 (s 2 1),.int .i64 (s 2 2),.int .i64 (s 3 0),.int .i64 (s 3 1),.int .i64 (s 3 2),.int .i64 (s 4 0),.int .i64 (s 4 1),.int .i64 (s 4 2)] 24))
            have nl:w.heap.size≠wr.heap.size:=by have:=(Array.getElem?_eq_some_iff.1 l_k).1; have:=hl0; omega
            have nv:gv≠wr.heap.size:=by have:=hv0; omega
            have nw:gw≠wr.heap.size:=by have:=hw0; omega
            have gm0:w.heap.size<=wr.heap.size:=by have:=hl0; omega
            generalize hgm:wr.heap.size=gm at m_k nl nv nw gm0 ⊢
            clear hgm hl0 hv0 hw0
            generalize wr.alloc (.cells #[.int .i64 (s 0 0),.int .i64 (s 0 1),.int .i64 (s 0 2),.int .i64 (s 1 0),.int .i64 (s 1 1),.int .i64 (s 1 2),.int .i64 (s 2 0),.int .i64 (s 2 1),.int .i64 (s 2 2),.int .i64 (s 3 0),.int .i64 (s 3 1),.int .i64 (s 3 2),.int .i64 (s 4 0),.int .i64 (s 4 1),.int .i64 (s 4 2)] 24)=xm at l_k v_k w_k m_k hb ⊢
            have m1_k:(((xm.setCell ⟨gm,3,none⟩ (.int .i64 (s 3 0))).setCell ⟨gm,4,none⟩ (.int .i64 (s 3 1))).setCell ⟨gm,5,none⟩ (.int .i64 (s 3 2))).heap[gm]?=some (.cells #[.int .i64 (s 0 0),.int .i64 (s 0 1),.int .i64 (s 0 2),.int .i64 (s 3 0),.int .i64 (s 3 1),.int .i64 (s 3 2),.int .i64 (s 2 0),.int .i64 (s 2 1),.int .i64 (s 2 2),.int .i64 (s 3 0),.int .i64 (s 3 1),.int .i64 (s 3 2),.int .i64 (s 4 0),.int .i64 (s 4 1),.int .i64 (s 4 2)] 24 (0,0)):=heap_set (heap_set (heap_set m_k 3 (.int .i64 (s 3 0))) 4 (.int .i64 (s 3 1))) 5 (.int .i64 (s 3 2))
            have m2_k:((((((xm.setCell ⟨gm,3,none⟩ (.int .i64 (s 3 0))).setCell ⟨gm,4,none⟩ (.int .i64 (s 3 1))).setCell ⟨gm,5,none⟩ (.int .i64 (s 3 2))).setCell ⟨gm,9,none⟩ (.int .i64 (s 1 0))).setCell ⟨gm,10,none⟩ (.int .i64 (s 1 1))).setCell ⟨gm,11,none⟩ (.int .i64 (s 1 2))).heap[gm]?=some (.cells #[.int .i64 (s 0 0),.int .i64 (s 0 1),.int .i64 (s 0 2),.int .i64 (s 3 0),.int .i64 (s 3 1),.int .i64 (s 3 2),.int .i64 (s 2 0),.int .i64 (s 2 1),.int .i64 (s 2 2),.int .i64 (s 1 0),.int .i64 (s 1 1),.int .i64 (s 1 2),.int .i64 (s 4 0),.int .i64 (s 4 1),.int .i64 (s 4 2)] 24 (0,0)):=heap_set (heap_set (heap_set m1_k 9 (.int .i64 (s 1 0))) 10 (.int .i64 (s 1 1))) 11 (.int .i64 (s 1 2))
            have q3:=blkC m_k 3 rfl
            have z3:=blkF m_k 3
            have q4:=blkC m_k 4 rfl
            have z4:=blkF m_k 4
            have q5:=blkC m_k 5 rfl
            have z5:=blkF m_k 5
            have q9:=blkC m_k 9 rfl
            have z9:=blkF m_k 9
            have q10:=blkC m_k 10 rfl
            have z10:=blkF m_k 10
            have q11:=blkC m_k 11 rfl
            have z11:=blkF m_k 11
            have p9:=blkC m1_k 9 rfl
            have y9:=blkF m1_k 9
            have p10:=blkC m1_k 10 rfl
            have y10:=blkF m1_k 10
            have p11:=blkC m1_k 11 rfl
            have y11:=blkF m1_k 11
            go_region
            clear q3 z3 q4 z4 q5 z5 q9 z9 q10 z10 q11 z11
            clear p9 y9 p10 y10 p11 y11
            replace l_k:=heap_ne (heap_ne (heap_ne (heap_ne (heap_ne (heap_ne l_k nl 3 (.int .i64 (s 3 0))) nl 4 (.int .i64 (s 3 1))) nl 5 (.int .i64 (s 3 2))) nl 9 (.int .i64 (s 1 0))) nl 10 (.int .i64 (s 1 1))) nl 11 (.int .i64 (s 1 2))
            replace v_k:=heap_ne (heap_ne (heap_ne (heap_ne (heap_ne (heap_ne v_k nv 3 (.int .i64 (s 3 0))) nv 4 (.int .i64 (s 3 1))) nv 5 (.int .i64 (s 3 2))) nv 9 (.int .i64 (s 1 0))) nv 10 (.int .i64 (s 1 1))) nv 11 (.int .i64 (s 1 2))
            replace w_k:=heap_ne (heap_ne (heap_ne (heap_ne (heap_ne (heap_ne w_k nw 3 (.int .i64 (s 3 0))) nw 4 (.int .i64 (s 3 1))) nw 5 (.int .i64 (s 3 2))) nw 9 (.int .i64 (s 1 0))) nw 10 (.int .i64 (s 1 1))) nw 11 (.int .i64 (s 1 2))
            clear m_k m1_k
            replace hb:=(((((hb.setCell (p:=⟨gm,3,none⟩) gm0 (.int .i64 (s 3 0))).setCell (p:=⟨gm,4,none⟩) gm0 (.int .i64 (s 3 1))).setCell (p:=⟨gm,5,none⟩) gm0 (.int .i64 (s 3 2))).setCell (p:=⟨gm,9,none⟩) gm0 (.int .i64 (s 1 0))).setCell (p:=⟨gm,10,none⟩) gm0 (.int .i64 (s 1 1))).setCell (p:=⟨gm,11,none⟩) gm0 (.int .i64 (s 1 2))
            generalize (((((xm.setCell ⟨gm,3,none⟩ (.int .i64 (s 3 0))).setCell ⟨gm,4,none⟩ (.int .i64 (s 3 1))).setCell ⟨gm,5,none⟩ (.int .i64 (s 3 2))).setCell ⟨gm,9,none⟩ (.int .i64 (s 1 0))).setCell ⟨gm,10,none⟩ (.int .i64 (s 1 1))).setCell ⟨gm,11,none⟩ (.int .i64 (s 1 2))=x8 at l_k v_k w_k m2_k hb ⊢
            have hD:=(bel_refl x8).drew
            replace l_k:=blk_us hD l_k
            replace v_k:=blk_us hD v_k
            replace w_k:=blk_us hD w_k
            replace m2_k:=blk_us hD m2_k
            replace hb:=bel_trans hb hD
            clear hD
            generalize x8.drew=x8 at l_k v_k w_k m2_k hb ⊢
            have q0:=blkC m2_k 0 rfl
            have q1:=blkC m2_k 1 rfl
            have q2:=blkC m2_k 2 rfl
            have q3:=blkC m2_k 3 rfl
            have q4:=blkC m2_k 4 rfl
            have q5:=blkC m2_k 5 rfl
            have q6:=blkC m2_k 6 rfl
            have q7:=blkC m2_k 7 rfl
            have q8:=blkC m2_k 8 rfl
            have q9:=blkC m2_k 9 rfl
            have q10:=blkC m2_k 10 rfl
            have q11:=blkC m2_k 11 rfl
            have q12:=blkC m2_k 12 rfl
            have q13:=blkC m2_k 13 rfl
            have q14:=blkC m2_k 14 rfl
            go_wp2_with fail
            clear q0 q1 q2 q3 q4 q5 q6 q7 q8 q9 q10 q11 q12 q13 q14
            refine (CP13.out _ hb).mono ?_
            rintro _ y9 ⟨rfl,h9⟩
            have hl0:=(Array.getElem?_eq_some_iff.1 (blk_us h9 l_k)).1
            have hv0:=(Array.getElem?_eq_some_iff.1 (blk_us h9 v_k)).1
            have hw0:=(Array.getElem?_eq_some_iff.1 (blk_us h9 w_k)).1
            have hm0:=(Array.getElem?_eq_some_iff.1 (blk_us h9 m2_k)).1
            have ul:w.heap.size≠y9.heap.size:=by omega
            have uv:gv≠y9.heap.size:=by omega
            have uw:gw≠y9.heap.size:=by omega
            have um:gm≠y9.heap.size:=by omega
            have gu0:w.heap.size<=y9.heap.size:=by omega
            clear hl0 hv0 hw0 hm0
            replace l_k:=heap_past (.cells #[.int .i64 (-ws),.int .i64 tp13] 29) (blk_us h9 l_k)
            replace v_k:=heap_past (.cells #[.int .i64 (-ws),.int .i64 tp13] 29) (blk_us h9 v_k)
            replace w_k:=heap_past (.cells #[.int .i64 (-ws),.int .i64 tp13] 29) (blk_us h9 w_k)
            replace m2_k:=heap_past (.cells #[.int .i64 (-ws),.int .i64 tp13] 29) (blk_us h9 m2_k)
            have u_k:=heap_a1 y9 (.cells #[.int .i64 (-ws),.int .i64 tp13] 29)
            replace hb:=bel_trans hb (bel_trans h9 (bel_alloc y9 (.cells #[.int .i64 (-ws),.int .i64 tp13] 29)))
            clear h9
            have w_0:=blkC w_k 0 rfl
            have u_0:=blkC u_k 0 rfl
            have q0:=blkC m2_k 0 rfl
            have q1:=blkC m2_k 1 rfl
            have q2:=blkC m2_k 2 rfl
            have q3:=blkC m2_k 3 rfl
            have q4:=blkC m2_k 4 rfl
            have q5:=blkC m2_k 5 rfl
            have q6:=blkC m2_k 6 rfl
            have q7:=blkC m2_k 7 rfl
            have q8:=blkC m2_k 8 rfl
            have q9:=blkC m2_k 9 rfl
            have q10:=blkC m2_k 10 rfl
            have q11:=blkC m2_k 11 rfl
            go_wp2_with (first | (go_at_call 11; refine (CN.out _).mono ?_; rintro _ _ ⟨rfl,rfl⟩))
            clear q0 q1 q2 q3 q4 q5 q6 q7 q8 q9 q10 q11
            clear w_0 u_0
            generalize hgu:y9.heap.size=gu at u_k ul uv uw um gu0 ⊢
            clear hgu
            generalize y9.alloc (.cells #[.int .i64 (-ws),.int .i64 tp13] 29)=x9 at l_k v_k w_k m2_k u_k hb ⊢
            refine (CS13.out _ hb).mono ?_
            rintro _ y10 ⟨rfl,h10⟩
            replace l_k:=blk_us h10 l_k
            replace v_k:=blk_us h10 v_k
            replace w_k:=blk_us h10 w_k
            replace m2_k:=blk_us h10 m2_k
            replace u_k:=blk_us h10 u_k
            replace hb:=bel_trans hb h10
            clear h10
            have u_0:=blkC u_k 0 rfl
            have u_1:=blkC u_k 1 rfl
            have u_2:=blkF u_k 0
            have u_3:=blkF u_k 1
            go_wp2_with fail
            clear u_0 u_1 u_2 u_3
            have u2_k:((y10.setCell ⟨gu,0,none⟩ (.int .i64 (-vs))).setCell ⟨gu,1,none⟩ (.int .i64 ts13)).heap[gu]?=some (.cells #[.int .i64 (-vs),.int .i64 ts13] 29 (0,0)):=heap_set (heap_set u_k 0 (.int .i64 (-vs))) 1 (.int .i64 ts13)
            replace l_k:=heap_ne (heap_ne l_k ul 0 (.int .i64 (-vs))) ul 1 (.int .i64 ts13)
            replace v_k:=heap_ne (heap_ne v_k uv 0 (.int .i64 (-vs))) uv 1 (.int .i64 ts13)
            replace w_k:=heap_ne (heap_ne w_k uw 0 (.int .i64 (-vs))) uw 1 (.int .i64 ts13)
            replace m2_k:=heap_ne (heap_ne m2_k um 0 (.int .i64 (-vs))) um 1 (.int .i64 ts13)
            clear u_k
            have u_k:=u2_k
            clear u2_k
            replace hb:=(hb.setCell (p:=⟨gu,0,none⟩) gu0 (.int .i64 (-vs))).setCell (p:=⟨gu,1,none⟩) gu0 (.int .i64 ts13)
            generalize (y10.setCell ⟨gu,0,none⟩ (.int .i64 (-vs))).setCell ⟨gu,1,none⟩ (.int .i64 ts13)=x10 at l_k v_k w_k m2_k u_k hb ⊢
            have v_0:=blkC v_k 0 rfl
            have u_0:=blkC u_k 0 rfl
            have f0:=blkC l_k 0 rfl
            have f1:=blkC l_k 1 rfl
            have f2:=blkC l_k 2 rfl
            have f3:=blkC l_k 3 rfl
            have f4:=blkC l_k 4 rfl
            have f5:=blkC l_k 5 rfl
            have f6:=blkC l_k 6 rfl
            have f7:=blkC l_k 7 rfl
            have f8:=blkC l_k 8 rfl
            have f9:=blkC l_k 9 rfl
            have f10:=blkC l_k 10 rfl
            have f11:=blkC l_k 11 rfl
            have f12:=blkC l_k 12 rfl
            have f13:=blkC l_k 13 rfl
            have f14:=blkC l_k 14 rfl
            dsimp only
            have hGo:Hid True:=trivial
            repeat (have _q:=hGo; clear _q; first | (refine wp_store_row 24 _ _ rfl gm #[.int .i64 (s 0 0),.int .i64 (s 0 1),.int .i64 (s 0 2),.int .i64 (s 1 0),.int .i64 (s 1 1),.int .i64 (s 1 2),.int .i64 (s 2 0),.int .i64 (s 2 1),.int .i64 (s 2 2),.int .i64 (s 3 0),.int .i64 (s 3 1),.int .i64 (s 3 2),.int .i64 (s 4 0),.int .i64 (s 4 1),.int .i64 (s 4 2)] rfl rfl _ _ m2_k (by kernel_rfl) rfl (by kernel_rfl) ?_; clear hGo; dsimp only [Act.put]) | (go_at_call 11; refine (CN.out _).mono ?_; rintro _ _ ⟨rfl,rfl⟩; dsimp only) | go_step)
            clear f0 f1 f2 f3 f4 f5 f6 f7 f8 f9 f10 f11 f12 f13 f14
            clear v_0 u_0
            have m3_k:=setRow_heap x10 gm _ #[.int .i64 (s 0 0),.int .i64 (s 0 1),.int .i64 (s 0 2),.int .i64 (s 1 0),.int .i64 (s 1 1),.int .i64 (s 1 2),.int .i64 (s 2 0),.int .i64 (s 2 1),.int .i64 (s 2 2),.int .i64 (s 3 0),.int .i64 (s 3 1),.int .i64 (s 3 2),.int .i64 (s 4 0),.int .i64 (s 4 1),.int .i64 (s 4 2)] _ _ m2_k
            replace l_k:=(setRow_other x10 gm _ #[.int .i64 (s 0 0),.int .i64 (s 0 1),.int .i64 (s 0 2),.int .i64 (s 1 0),.int .i64 (s 1 1),.int .i64 (s 1 2),.int .i64 (s 2 0),.int .i64 (s 2 1),.int .i64 (s 2 2),.int .i64 (s 3 0),.int .i64 (s 3 1),.int .i64 (s 3 2),.int .i64 (s 4 0),.int .i64 (s 4 1),.int .i64 (s 4 2)] nl).trans l_k
            replace v_k:=(setRow_other x10 gm _ #[.int .i64 (s 0 0),.int .i64 (s 0 1),.int .i64 (s 0 2),.int .i64 (s 1 0),.int .i64 (s 1 1),.int .i64 (s 1 2),.int .i64 (s 2 0),.int .i64 (s 2 1),.int .i64 (s 2 2),.int .i64 (s 3 0),.int .i64 (s 3 1),.int .i64 (s 3 2),.int .i64 (s 4 0),.int .i64 (s 4 1),.int .i64 (s 4 2)] nv).trans v_k
            replace w_k:=(setRow_other x10 gm _ #[.int .i64 (s 0 0),.int .i64 (s 0 1),.int .i64 (s 0 2),.int .i64 (s 1 0),.int .i64 (s 1 1),.int .i64 (s 1 2),.int .i64 (s 2 0),.int .i64 (s 2 1),.int .i64 (s 2 2),.int .i64 (s 3 0),.int .i64 (s 3 1),.int .i64 (s 3 2),.int .i64 (s 4 0),.int .i64 (s 4 1),.int .i64 (s 4 2)] nw).trans w_k
            replace u_k:=(setRow_other x10 gm _ #[.int .i64 (s 0 0),.int .i64 (s 0 1),.int .i64 (s 0 2),.int .i64 (s 1 0),.int .i64 (s 1 1),.int .i64 (s 1 2),.int .i64 (s 2 0),.int .i64 (s 2 1),.int .i64 (s 2 2),.int .i64 (s 3 0),.int .i64 (s 3 1),.int .i64 (s 3 2),.int .i64 (s 4 0),.int .i64 (s 4 1),.int .i64 (s 4 2)] um.symm).trans u_k
            replace hb:Below w.heap.size w (x10.setRow gm #[.int .i64 (s 0 0),.int .i64 (s 0 1),.int .i64 (s 0 2),.int .i64 (s 1 0),.int .i64 (s 1 1),.int .i64 (s 1 2),.int .i64 (s 2 0),.int .i64 (s 2 1),.int .i64 (s 2 2),.int .i64 (s 3 0),.int .i64 (s 3 1),.int .i64 (s 3 2),.int .i64 (s 4 0),.int .i64 (s 4 1),.int .i64 (s 4 2)]):=hb.trans ⟨rfl,rfl,rfl,by simp [World.setRow],fun k hk=>setRow_other _ _ _ _ (by omega)⟩
            clear m2_k
            generalize (x10.setRow gm #[.int .i64 (s 0 0),.int .i64 (s 0 1),.int .i64 (s 0 2),.int .i64 (s 1 0),.int .i64 (s 1 1),.int .i64 (s 1 2),.int .i64 (s 2 0),.int .i64 (s 2 1),.int .i64 (s 2 2),.int .i64 (s 3 0),.int .i64 (s 3 1),.int .i64 (s 3 2),.int .i64 (s 4 0),.int .i64 (s 4 1),.int .i64 (s 4 2)])=x11 at l_k v_k w_k u_k m3_k hb ⊢
            have q0:=blkC m3_k 0 rfl
            have q1:=blkC m3_k 1 rfl
            have q2:=blkC m3_k 2 rfl
            have q3:=blkC m3_k 3 rfl
            have q4:=blkC m3_k 4 rfl
            have q5:=blkC m3_k 5 rfl
            have q6:=blkC m3_k 6 rfl
            have q7:=blkC m3_k 7 rfl
            have q8:=blkC m3_k 8 rfl
            have q9:=blkC m3_k 9 rfl
            have q10:=blkC m3_k 10 rfl
            have q11:=blkC m3_k 11 rfl
            have q12:=blkC m3_k 12 rfl
            have q13:=blkC m3_k 13 rfl
            have q14:=blkC m3_k 14 rfl
            have z3:=blkF m3_k 3
            have z4:=blkF m3_k 4
            have z5:=blkF m3_k 5
            go_wp2_with fail
            clear q0 q1 q2 q3 q4 q5 q6 q7 q8 q9 q10 q11 q12 q13 q14
            clear z3 z4 z5
            have m4_k:(((x11.setCell ⟨gm,3,none⟩ (.int .i64 (s 3 0))).setCell ⟨gm,4,none⟩ (.int .i64 (s 3 1))).setCell ⟨gm,5,none⟩ (.int .i64 (s 3 2))).heap[gm]?=some (.cells #[.int .i64 (s 0 0),.int .i64 (s 0 1),.int .i64 (s 0 2),.int .i64 (s 3 0),.int .i64 (s 3 1),.int .i64 (s 3 2),.int .i64 (s 2 0),.int .i64 (s 2 1),.int .i64 (s 2 2),.int .i64 (s 3 0),.int .i64 (s 3 1),.int .i64 (s 3 2),.int .i64 (s 4 0),.int .i64 (s 4 1),.int .i64 (s 4 2)] 24 (0,0)):=heap_set (heap_set (heap_set m3_k 3 (.int .i64 (s 3 0))) 4 (.int .i64 (s 3 1))) 5 (.int .i64 (s 3 2))
            replace l_k:=heap_ne (heap_ne (heap_ne l_k nl 3 (.int .i64 (s 3 0))) nl 4 (.int .i64 (s 3 1))) nl 5 (.int .i64 (s 3 2))
            replace v_k:=heap_ne (heap_ne (heap_ne v_k nv 3 (.int .i64 (s 3 0))) nv 4 (.int .i64 (s 3 1))) nv 5 (.int .i64 (s 3 2))
            replace w_k:=heap_ne (heap_ne (heap_ne w_k nw 3 (.int .i64 (s 3 0))) nw 4 (.int .i64 (s 3 1))) nw 5 (.int .i64 (s 3 2))
            replace u_k:=heap_ne (heap_ne (heap_ne u_k um.symm 3 (.int .i64 (s 3 0))) um.symm 4 (.int .i64 (s 3 1))) um.symm 5 (.int .i64 (s 3 2))
            replace hb:=((hb.setCell (p:=⟨gm,3,none⟩) gm0 (.int .i64 (s 3 0))).setCell (p:=⟨gm,4,none⟩) gm0 (.int .i64 (s 3 1))).setCell (p:=⟨gm,5,none⟩) gm0 (.int .i64 (s 3 2))
            clear m3_k
            generalize ((x11.setCell ⟨gm,3,none⟩ (.int .i64 (s 3 0))).setCell ⟨gm,4,none⟩ (.int .i64 (s 3 1))).setCell ⟨gm,5,none⟩ (.int .i64 (s 3 2))=x12 at l_k v_k w_k u_k m4_k hb ⊢
            refine (CD13.out _ hb).mono ?_
            rintro _ y11 ⟨rfl,h11⟩
            replace l_k:=blk_us h11 l_k
            replace v_k:=blk_us h11 v_k
            replace w_k:=blk_us h11 w_k
            replace u_k:=blk_us h11 u_k
            replace hb:=bel_trans hb h11
            clear h11 m4_k
            have u_0:=blkC u_k 0 rfl
            have u_1:=blkC u_k 1 rfl
            have u_2:=blkF u_k 0
            have u_3:=blkF u_k 1
            go_wp2_with fail
            clear u_0 u_1 u_2 u_3
            have u2_k:((y11.setCell ⟨gu,0,none⟩ (.int .i64 0)).setCell ⟨gu,1,none⟩ (.int .i64 td13)).heap[gu]?=some (.cells #[.int .i64 0,.int .i64 td13] 29 (0,0)):=heap_set (heap_set u_k 0 (.int .i64 0)) 1 (.int .i64 td13)
            replace l_k:=heap_ne (heap_ne l_k ul 0 (.int .i64 0)) ul 1 (.int .i64 td13)
            replace v_k:=heap_ne (heap_ne v_k uv 0 (.int .i64 0)) uv 1 (.int .i64 td13)
            replace w_k:=heap_ne (heap_ne w_k uw 0 (.int .i64 0)) uw 1 (.int .i64 td13)
            clear u_k
            replace hb:=(hb.setCell (p:=⟨gu,0,none⟩) gu0 (.int .i64 0)).setCell (p:=⟨gu,1,none⟩) gu0 (.int .i64 td13)
            generalize (y11.setCell ⟨gu,0,none⟩ (.int .i64 0)).setCell ⟨gu,1,none⟩ (.int .i64 td13)=x13 at l_k v_k w_k u2_k hb ⊢
            have u_0:=blkC u2_k 0 rfl
            go_wp2_with (first | (go_at_call 11; refine (CN.out _).mono ?_; rintro _ _ ⟨rfl,rfl⟩))
            go_roundw
            case rel=>exact ⟨hb,l_k,v_k,w_k,.inr (.inr (.inl (by go_num)))⟩
            case measure=>simp [intOf]
          . skip
            try clear CA
            try clear CG
            try clear CS
            try clear CP
            try clear CX
            try clear CY
            try clear CP01
            try clear CD01
            try clear CS01
            try clear CP02
            try clear CD02
            try clear CS02
            try clear CP03
            try clear CD03
            try clear CS03
            try clear CP04
            try clear CD04
            try clear CP12
            try clear CD12
            try clear CS12
            try clear CP13
            try clear CD13
            try clear CS13
            try clear CP23
            try clear CD23
            try clear CS23
            try clear CP24
            try clear CD24
            try clear CP34
            try clear CD34
            have f0:=blkC l_k 0 rfl
            have f1:=blkC l_k 1 rfl
            have f2:=blkC l_k 2 rfl
            have f3:=blkC l_k 3 rfl
            have f4:=blkC l_k 4 rfl
            have f5:=blkC l_k 5 rfl
            have f6:=blkC l_k 6 rfl
            have f7:=blkC l_k 7 rfl
            have f8:=blkC l_k 8 rfl
            have f9:=blkC l_k 9 rfl
            have f10:=blkC l_k 10 rfl
            have f11:=blkC l_k 11 rfl
            have f12:=blkC l_k 12 rfl
            have f13:=blkC l_k 13 rfl
            have f14:=blkC l_k 14 rfl
            go_wp2_with fail
            clear f0 f1 f2 f3 f4 f5 f6 f7 f8 f9 f10 f11 f12 f13 f14
            replace l_k:=heap_past (.cells #[.int .i64 (s 0 0),.int .i64 (s 0 1),.int .i64 (s 0 2),.int .i64 (s 1 0),.int .i64 (s 1 1),.int .i64 (s 1 2),.int .i64 (s 2 0),.int .i64 (s 2 1),.int .i64 (s 2 2),.int .i64 (s 3 0),.int .i64 (s 3 1),.int .i64 (s 3 2),.int .i64 (s 4 0),.int .i64 (s 4 1),.int .i64 (s 4 2)] 24) l_k
            replace v_k:=heap_past (.cells #[.int .i64 (s 0 0),.int .i64 (s 0 1),.int .i64 (s 0 2),.int .i64 (s 1 0),.int .i64 (s 1 1),.int .i64 (s 1 2),.int .i64 (s 2 0),.int .i64 (s 2 1),.int .i64 (s 2 2),.int .i64 (s 3 0),.int .i64 (s 3 1),.int .i64 (s 3 2),.int .i64 (s 4 0),.int .i64 (s 4 1),.int .i64 (s 4 2)] 24) v_k
            replace w_k:=heap_past (.cells #[.int .i64 (s 0 0),.int .i64 (s 0 1),.int .i64 (s 0 2),.int .i64 (s 1 0),.int .i64 (s 1 1),.int .i64 (s 1 2),.int .i64 (s 2 0),.int .i64 (s 2 1),.int .i64 (s 2 2),.int .i64 (s 3 0),.int .i64 (s 3 1),.int .i64 (s 3 2),.int .i64 (s 4 0),.int .i64 (s 4 1),.int .i64 (s 4 2)] 24) w_k
            have m_k:=heap_a1 wr (.cells #[.int .i64 (s 0 0),.int .i64 (s 0 1),.int .i64 (s 0 2),.int .i64 (s 1 0),.int .i64 (s 1 1),.int .i64 (s 1 2),.int .i64 (s 2 0),.int .i64 (s 2 1),.int .i64 (s 2 2),.int .i64 (s 3 0),.int .i64 (s 3 1),.int .i64 (s 3 2),.int .i64 (s 4 0),.int .i64 (s 4 1),.int .i64 (s 4 2)] 24)
            replace hb:=bel_trans hb (bel_alloc wr (.cells #[.int .i64 (s 0 0),.int .i64 (s 0 1),.int .i64 (s 0 2),.int .i64 (s 1 0),.int .i64 (s 1 1),.int .i64 (s 1 2),.int .i64 (s 2 0),.int .i64 (s 2 1),.int .i64 (s 2 2),.int .i64 (s 3 0),.int .i64 (s 3 1),.int .i64 (s 3 2),.int .i64 (s 4 0),.int .i64 (s 4 1),.int .i64 (s 4 2)] 24))
            have nl:w.heap.size≠wr.heap.size:=by have:=(Array.getElem?_eq_some_iff.1 l_k).1; have:=hl0; omega
            have nv:gv≠wr.heap.size:=by have:=hv0; omega
            have nw:gw≠wr.heap.size:=by have:=hw0; omega
            have gm0:w.heap.size<=wr.heap.size:=by have:=hl0; omega
            generalize hgm:wr.heap.size=gm at m_k nl nv nw gm0 ⊢
            clear hgm hl0 hv0 hw0
            generalize wr.alloc (.cells #[.int .i64 (s 0 0),.int .i64 (s 0 1),.int .i64 (s 0 2),.int .i64 (s 1 0),.int .i64 (s 1 1),.int .i64 (s 1 2),.int .i64 (s 2 0),.int .i64 (s 2 1),.int .i64 (s 2 2),.int .i64 (s 3 0),.int .i64 (s 3 1),.int .i64 (s 3 2),.int .i64 (s 4 0),.int .i64 (s 4 1),.int .i64 (s 4 2)] 24)=xm at l_k v_k w_k m_k hb ⊢
            have m1_k:(((xm.setCell ⟨gm,3,none⟩ (.int .i64 (s 4 0))).setCell ⟨gm,4,none⟩ (.int .i64 (s 4 1))).setCell ⟨gm,5,none⟩ (.int .i64 (s 4 2))).heap[gm]?=some (.cells #[.int .i64 (s 0 0),.int .i64 (s 0 1),.int .i64 (s 0 2),.int .i64 (s 4 0),.int .i64 (s 4 1),.int .i64 (s 4 2),.int .i64 (s 2 0),.int .i64 (s 2 1),.int .i64 (s 2 2),.int .i64 (s 3 0),.int .i64 (s 3 1),.int .i64 (s 3 2),.int .i64 (s 4 0),.int .i64 (s 4 1),.int .i64 (s 4 2)] 24 (0,0)):=heap_set (heap_set (heap_set m_k 3 (.int .i64 (s 4 0))) 4 (.int .i64 (s 4 1))) 5 (.int .i64 (s 4 2))
            have m2_k:((((((xm.setCell ⟨gm,3,none⟩ (.int .i64 (s 4 0))).setCell ⟨gm,4,none⟩ (.int .i64 (s 4 1))).setCell ⟨gm,5,none⟩ (.int .i64 (s 4 2))).setCell ⟨gm,12,none⟩ (.int .i64 (s 1 0))).setCell ⟨gm,13,none⟩ (.int .i64 (s 1 1))).setCell ⟨gm,14,none⟩ (.int .i64 (s 1 2))).heap[gm]?=some (.cells #[.int .i64 (s 0 0),.int .i64 (s 0 1),.int .i64 (s 0 2),.int .i64 (s 4 0),.int .i64 (s 4 1),.int .i64 (s 4 2),.int .i64 (s 2 0),.int .i64 (s 2 1),.int .i64 (s 2 2),.int .i64 (s 3 0),.int .i64 (s 3 1),.int .i64 (s 3 2),.int .i64 (s 1 0),.int .i64 (s 1 1),.int .i64 (s 1 2)] 24 (0,0)):=heap_set (heap_set (heap_set m1_k 12 (.int .i64 (s 1 0))) 13 (.int .i64 (s 1 1))) 14 (.int .i64 (s 1 2))
            have q3:=blkC m_k 3 rfl
            have z3:=blkF m_k 3
            have q4:=blkC m_k 4 rfl
            have z4:=blkF m_k 4
            have q5:=blkC m_k 5 rfl
            have z5:=blkF m_k 5
            have q12:=blkC m_k 12 rfl
            have z12:=blkF m_k 12
            have q13:=blkC m_k 13 rfl
            have z13:=blkF m_k 13
            have q14:=blkC m_k 14 rfl
            have z14:=blkF m_k 14
            have p12:=blkC m1_k 12 rfl
            have y12:=blkF m1_k 12
            have p13:=blkC m1_k 13 rfl
            have y13:=blkF m1_k 13
            have p14:=blkC m1_k 14 rfl
            have y14:=blkF m1_k 14
            go_region
            clear q3 z3 q4 z4 q5 z5 q12 z12 q13 z13 q14 z14
            clear p12 y12 p13 y13 p14 y14
            replace l_k:=heap_ne (heap_ne (heap_ne (heap_ne (heap_ne (heap_ne l_k nl 3 (.int .i64 (s 4 0))) nl 4 (.int .i64 (s 4 1))) nl 5 (.int .i64 (s 4 2))) nl 12 (.int .i64 (s 1 0))) nl 13 (.int .i64 (s 1 1))) nl 14 (.int .i64 (s 1 2))
            replace v_k:=heap_ne (heap_ne (heap_ne (heap_ne (heap_ne (heap_ne v_k nv 3 (.int .i64 (s 4 0))) nv 4 (.int .i64 (s 4 1))) nv 5 (.int .i64 (s 4 2))) nv 12 (.int .i64 (s 1 0))) nv 13 (.int .i64 (s 1 1))) nv 14 (.int .i64 (s 1 2))
            replace w_k:=heap_ne (heap_ne (heap_ne (heap_ne (heap_ne (heap_ne w_k nw 3 (.int .i64 (s 4 0))) nw 4 (.int .i64 (s 4 1))) nw 5 (.int .i64 (s 4 2))) nw 12 (.int .i64 (s 1 0))) nw 13 (.int .i64 (s 1 1))) nw 14 (.int .i64 (s 1 2))
            clear m_k m1_k
            replace hb:=(((((hb.setCell (p:=⟨gm,3,none⟩) gm0 (.int .i64 (s 4 0))).setCell (p:=⟨gm,4,none⟩) gm0 (.int .i64 (s 4 1))).setCell (p:=⟨gm,5,none⟩) gm0 (.int .i64 (s 4 2))).setCell (p:=⟨gm,12,none⟩) gm0 (.int .i64 (s 1 0))).setCell (p:=⟨gm,13,none⟩) gm0 (.int .i64 (s 1 1))).setCell (p:=⟨gm,14,none⟩) gm0 (.int .i64 (s 1 2))
            generalize (((((xm.setCell ⟨gm,3,none⟩ (.int .i64 (s 4 0))).setCell ⟨gm,4,none⟩ (.int .i64 (s 4 1))).setCell ⟨gm,5,none⟩ (.int .i64 (s 4 2))).setCell ⟨gm,12,none⟩ (.int .i64 (s 1 0))).setCell ⟨gm,13,none⟩ (.int .i64 (s 1 1))).setCell ⟨gm,14,none⟩ (.int .i64 (s 1 2))=x8 at l_k v_k w_k m2_k hb ⊢
            have hD:=(bel_refl x8).drew
            replace l_k:=blk_us hD l_k
            replace v_k:=blk_us hD v_k
            replace w_k:=blk_us hD w_k
            replace m2_k:=blk_us hD m2_k
            replace hb:=bel_trans hb hD
            clear hD
            generalize x8.drew=x8 at l_k v_k w_k m2_k hb ⊢
            have q0:=blkC m2_k 0 rfl
            have q1:=blkC m2_k 1 rfl
            have q2:=blkC m2_k 2 rfl
            have q3:=blkC m2_k 3 rfl
            have q4:=blkC m2_k 4 rfl
            have q5:=blkC m2_k 5 rfl
            have q6:=blkC m2_k 6 rfl
            have q7:=blkC m2_k 7 rfl
            have q8:=blkC m2_k 8 rfl
            have q9:=blkC m2_k 9 rfl
            have q10:=blkC m2_k 10 rfl
            have q11:=blkC m2_k 11 rfl
            have q12:=blkC m2_k 12 rfl
            have q13:=blkC m2_k 13 rfl
            have q14:=blkC m2_k 14 rfl
            go_wp2_with fail
            clear q0 q1 q2 q3 q4 q5 q6 q7 q8 q9 q10 q11 q12 q13 q14
            refine (CP14.out _ hb).mono ?_
            rintro _ y9 ⟨rfl,h9⟩
            have hl0:=(Array.getElem?_eq_some_iff.1 (blk_us h9 l_k)).1
            have hv0:=(Array.getElem?_eq_some_iff.1 (blk_us h9 v_k)).1
            have hw0:=(Array.getElem?_eq_some_iff.1 (blk_us h9 w_k)).1
            have hm0:=(Array.getElem?_eq_some_iff.1 (blk_us h9 m2_k)).1
            have ul:w.heap.size≠y9.heap.size:=by omega
            have uv:gv≠y9.heap.size:=by omega
            have uw:gw≠y9.heap.size:=by omega
            have um:gm≠y9.heap.size:=by omega
            have gu0:w.heap.size<=y9.heap.size:=by omega
            clear hl0 hv0 hw0 hm0
            replace l_k:=heap_past (.cells #[.int .i64 (-ws),.int .i64 tp14] 29) (blk_us h9 l_k)
            replace v_k:=heap_past (.cells #[.int .i64 (-ws),.int .i64 tp14] 29) (blk_us h9 v_k)
            replace w_k:=heap_past (.cells #[.int .i64 (-ws),.int .i64 tp14] 29) (blk_us h9 w_k)
            replace m2_k:=heap_past (.cells #[.int .i64 (-ws),.int .i64 tp14] 29) (blk_us h9 m2_k)
            have u_k:=heap_a1 y9 (.cells #[.int .i64 (-ws),.int .i64 tp14] 29)
            replace hb:=bel_trans hb (bel_trans h9 (bel_alloc y9 (.cells #[.int .i64 (-ws),.int .i64 tp14] 29)))
            clear h9
            have w_0:=blkC w_k 0 rfl
            have u_0:=blkC u_k 0 rfl
            have f0:=blkC l_k 0 rfl
            have f1:=blkC l_k 1 rfl
            have f2:=blkC l_k 2 rfl
            have f3:=blkC l_k 3 rfl
            have f4:=blkC l_k 4 rfl
            have f5:=blkC l_k 5 rfl
            have f6:=blkC l_k 6 rfl
            have f7:=blkC l_k 7 rfl
            have f8:=blkC l_k 8 rfl
            have f9:=blkC l_k 9 rfl
            have f10:=blkC l_k 10 rfl
            have f11:=blkC l_k 11 rfl
            have f12:=blkC l_k 12 rfl
            have f13:=blkC l_k 13 rfl
            have f14:=blkC l_k 14 rfl
            dsimp only
            have hGo:Hid True:=trivial
            repeat (have _q:=hGo; clear _q; first | (refine wp_store_row 24 _ _ rfl gm #[.int .i64 (s 0 0),.int .i64 (s 0 1),.int .i64 (s 0 2),.int .i64 (s 1 0),.int .i64 (s 1 1),.int .i64 (s 1 2),.int .i64 (s 2 0),.int .i64 (s 2 1),.int .i64 (s 2 2),.int .i64 (s 3 0),.int .i64 (s 3 1),.int .i64 (s 3 2),.int .i64 (s 4 0),.int .i64 (s 4 1),.int .i64 (s 4 2)] rfl rfl _ _ m2_k (by kernel_rfl) rfl (by kernel_rfl) ?_; clear hGo; dsimp only [Act.put]) | (go_at_call 11; refine (CN.out _).mono ?_; rintro _ _ ⟨rfl,rfl⟩; dsimp only) | go_step)
            clear f0 f1 f2 f3 f4 f5 f6 f7 f8 f9 f10 f11 f12 f13 f14
            clear w_0 u_0
            generalize hgu:y9.heap.size=gu at u_k ul uv uw um gu0 ⊢
            clear hgu
            generalize y9.alloc (.cells #[.int .i64 (-ws),.int .i64 tp14] 29)=x10 at l_k v_k w_k m2_k u_k hb ⊢
            have m3_k:=setRow_heap x10 gm _ #[.int .i64 (s 0 0),.int .i64 (s 0 1),.int .i64 (s 0 2),.int .i64 (s 1 0),.int .i64 (s 1 1),.int .i64 (s 1 2),.int .i64 (s 2 0),.int .i64 (s 2 1),.int .i64 (s 2 2),.int .i64 (s 3 0),.int .i64 (s 3 1),.int .i64 (s 3 2),.int .i64 (s 4 0),.int .i64 (s 4 1),.int .i64 (s 4 2)] _ _ m2_k
            replace l_k:=(setRow_other x10 gm _ #[.int .i64 (s 0 0),.int .i64 (s 0 1),.int .i64 (s 0 2),.int .i64 (s 1 0),.int .i64 (s 1 1),.int .i64 (s 1 2),.int .i64 (s 2 0),.int .i64 (s 2 1),.int .i64 (s 2 2),.int .i64 (s 3 0),.int .i64 (s 3 1),.int .i64 (s 3 2),.int .i64 (s 4 0),.int .i64 (s 4 1),.int .i64 (s 4 2)] nl).trans l_k
            replace v_k:=(setRow_other x10 gm _ #[.int .i64 (s 0 0),.int .i64 (s 0 1),.int .i64 (s 0 2),.int .i64 (s 1 0),.int .i64 (s 1 1),.int .i64 (s 1 2),.int .i64 (s 2 0),.int .i64 (s 2 1),.int .i64 (s 2 2),.int .i64 (s 3 0),.int .i64 (s 3 1),.int .i64 (s 3 2),.int .i64 (s 4 0),.int .i64 (s 4 1),.int .i64 (s 4 2)] nv).trans v_k
            replace w_k:=(setRow_other x10 gm _ #[.int .i64 (s 0 0),.int .i64 (s 0 1),.int .i64 (s 0 2),.int .i64 (s 1 0),.int .i64 (s 1 1),.int .i64 (s 1 2),.int .i64 (s 2 0),.int .i64 (s 2 1),.int .i64 (s 2 2),.int .i64 (s 3 0),.int .i64 (s 3 1),.int .i64 (s 3 2),.int .i64 (s 4 0),.int .i64 (s 4 1),.int .i64 (s 4 2)] nw).trans w_k
            replace u_k:=(setRow_other x10 gm _ #[.int .i64 (s 0 0),.int .i64 (s 0 1),.int .i64 (s 0 2),.int .i64 (s 1 0),.int .i64 (s 1 1),.int .i64 (s 1 2),.int .i64 (s 2 0),.int .i64 (s 2 1),.int .i64 (s 2 2),.int .i64 (s 3 0),.int .i64 (s 3 1),.int .i64 (s 3 2),.int .i64 (s 4 0),.int .i64 (s 4 1),.int .i64 (s 4 2)] um.symm).trans u_k
            replace hb:Below w.heap.size w (x10.setRow gm #[.int .i64 (s 0 0),.int .i64 (s 0 1),.int .i64 (s 0 2),.int .i64 (s 1 0),.int .i64 (s 1 1),.int .i64 (s 1 2),.int .i64 (s 2 0),.int .i64 (s 2 1),.int .i64 (s 2 2),.int .i64 (s 3 0),.int .i64 (s 3 1),.int .i64 (s 3 2),.int .i64 (s 4 0),.int .i64 (s 4 1),.int .i64 (s 4 2)]):=hb.trans ⟨rfl,rfl,rfl,by simp [World.setRow],fun k hk=>setRow_other _ _ _ _ (by omega)⟩
            clear m2_k
            generalize (x10.setRow gm #[.int .i64 (s 0 0),.int .i64 (s 0 1),.int .i64 (s 0 2),.int .i64 (s 1 0),.int .i64 (s 1 1),.int .i64 (s 1 2),.int .i64 (s 2 0),.int .i64 (s 2 1),.int .i64 (s 2 2),.int .i64 (s 3 0),.int .i64 (s 3 1),.int .i64 (s 3 2),.int .i64 (s 4 0),.int .i64 (s 4 1),.int .i64 (s 4 2)])=x11 at l_k v_k w_k u_k m3_k hb ⊢
            have q0:=blkC m3_k 0 rfl
            have q1:=blkC m3_k 1 rfl
            have q2:=blkC m3_k 2 rfl
            have q3:=blkC m3_k 3 rfl
            have q4:=blkC m3_k 4 rfl
            have q5:=blkC m3_k 5 rfl
            have q6:=blkC m3_k 6 rfl
            have q7:=blkC m3_k 7 rfl
            have q8:=blkC m3_k 8 rfl
            have q9:=blkC m3_k 9 rfl
            have q10:=blkC m3_k 10 rfl
            have q11:=blkC m3_k 11 rfl
            have q12:=blkC m3_k 12 rfl
            have q13:=blkC m3_k 13 rfl
            have q14:=blkC m3_k 14 rfl
            have z3:=blkF m3_k 3
            have z4:=blkF m3_k 4
            have z5:=blkF m3_k 5
            go_wp2_with fail
            clear q0 q1 q2 q3 q4 q5 q6 q7 q8 q9 q10 q11 q12 q13 q14
            clear z3 z4 z5
            have m4_k:(((x11.setCell ⟨gm,3,none⟩ (.int .i64 (s 4 0))).setCell ⟨gm,4,none⟩ (.int .i64 (s 4 1))).setCell ⟨gm,5,none⟩ (.int .i64 (s 4 2))).heap[gm]?=some (.cells #[.int .i64 (s 0 0),.int .i64 (s 0 1),.int .i64 (s 0 2),.int .i64 (s 4 0),.int .i64 (s 4 1),.int .i64 (s 4 2),.int .i64 (s 2 0),.int .i64 (s 2 1),.int .i64 (s 2 2),.int .i64 (s 3 0),.int .i64 (s 3 1),.int .i64 (s 3 2),.int .i64 (s 4 0),.int .i64 (s 4 1),.int .i64 (s 4 2)] 24 (0,0)):=heap_set (heap_set (heap_set m3_k 3 (.int .i64 (s 4 0))) 4 (.int .i64 (s 4 1))) 5 (.int .i64 (s 4 2))
            replace l_k:=heap_ne (heap_ne (heap_ne l_k nl 3 (.int .i64 (s 4 0))) nl 4 (.int .i64 (s 4 1))) nl 5 (.int .i64 (s 4 2))
            replace v_k:=heap_ne (heap_ne (heap_ne v_k nv 3 (.int .i64 (s 4 0))) nv 4 (.int .i64 (s 4 1))) nv 5 (.int .i64 (s 4 2))
            replace w_k:=heap_ne (heap_ne (heap_ne w_k nw 3 (.int .i64 (s 4 0))) nw 4 (.int .i64 (s 4 1))) nw 5 (.int .i64 (s 4 2))
            replace u_k:=heap_ne (heap_ne (heap_ne u_k um.symm 3 (.int .i64 (s 4 0))) um.symm 4 (.int .i64 (s 4 1))) um.symm 5 (.int .i64 (s 4 2))
            replace hb:=((hb.setCell (p:=⟨gm,3,none⟩) gm0 (.int .i64 (s 4 0))).setCell (p:=⟨gm,4,none⟩) gm0 (.int .i64 (s 4 1))).setCell (p:=⟨gm,5,none⟩) gm0 (.int .i64 (s 4 2))
            clear m3_k
            generalize ((x11.setCell ⟨gm,3,none⟩ (.int .i64 (s 4 0))).setCell ⟨gm,4,none⟩ (.int .i64 (s 4 1))).setCell ⟨gm,5,none⟩ (.int .i64 (s 4 2))=x12 at l_k v_k w_k u_k m4_k hb ⊢
            refine (CD14.out _ hb).mono ?_
            rintro _ y11 ⟨rfl,h11⟩
            replace l_k:=blk_us h11 l_k
            replace v_k:=blk_us h11 v_k
            replace w_k:=blk_us h11 w_k
            replace u_k:=blk_us h11 u_k
            replace hb:=bel_trans hb h11
            clear h11 m4_k
            have u_0:=blkC u_k 0 rfl
            have u_1:=blkC u_k 1 rfl
            have u_2:=blkF u_k 0
            have u_3:=blkF u_k 1
            go_wp2_with fail
            clear u_0 u_1 u_2 u_3
            have u2_k:((y11.setCell ⟨gu,0,none⟩ (.int .i64 0)).setCell ⟨gu,1,none⟩ (.int .i64 td14)).heap[gu]?=some (.cells #[.int .i64 0,.int .i64 td14] 29 (0,0)):=heap_set (heap_set u_k 0 (.int .i64 0)) 1 (.int .i64 td14)
            replace l_k:=heap_ne (heap_ne l_k ul 0 (.int .i64 0)) ul 1 (.int .i64 td14)
            replace v_k:=heap_ne (heap_ne v_k uv 0 (.int .i64 0)) uv 1 (.int .i64 td14)
            replace w_k:=heap_ne (heap_ne w_k uw 0 (.int .i64 0)) uw 1 (.int .i64 td14)
            clear u_k
            replace hb:=(hb.setCell (p:=⟨gu,0,none⟩) gu0 (.int .i64 0)).setCell (p:=⟨gu,1,none⟩) gu0 (.int .i64 td14)
            generalize (y11.setCell ⟨gu,0,none⟩ (.int .i64 0)).setCell ⟨gu,1,none⟩ (.int .i64 td14)=x13 at l_k v_k w_k u2_k hb ⊢
            have u_0:=blkC u2_k 0 rfl
            go_wp2_with (first | (go_at_call 11; refine (CN.out _).mono ?_; rintro _ _ ⟨rfl,rfl⟩))
            go_roundw
            case rel=>exact ⟨hb,l_k,v_k,w_k,.inr (.inr (.inr ((by go_num))))⟩
            case measure=>simp [intOf]
          . go_wp2
            go_roundw
            case rel=>exact ⟨hb,l_k,v_k,w_k,.inr (.inr (.inl (by go_num)))⟩
            case measure=>simp [intOf]
      . go_wp2_with fail
        go_loopw [14] (fun j wr=>Below w.heap.size w wr∧wr.heap[w.heap.size]?=some (.cells #[.int .i64 (s 0 0),.int .i64 (s 0 1),.int .i64 (s 0 2),.int .i64 (s 1 0),.int .i64 (s 1 1),.int .i64 (s 1 2),.int .i64 (s 2 0),.int .i64 (s 2 1),.int .i64 (s 2 2),.int .i64 (s 3 0),.int .i64 (s 3 1),.int .i64 (s 3 2),.int .i64 (s 4 0),.int .i64 (s 4 1),.int .i64 (s 4 2)] 24 (0,0))∧wr.heap[gv]?=some (.cells #[.int .i64 vs,.int .i64 st] 29 (0,0))∧wr.heap[gw]?=some (.cells #[.int .i64 ws,.int .i64 sv] 29 (0,0))∧(j=.int .i64 3∨j=.int .i64 4∨j=.int .i64 5)) (fun j _=>5-(intOf j).toNat)
        case atStart=>exact ⟨hb,l_k,v_k,w_k,.inl (by go_num)⟩
        case round=>
          clear hb l_k v_k w_k
          obtain ⟨hb,l_k,v_k,w_k,hrel⟩:=hrel
          have hl0:=(Array.getElem?_eq_some_iff.1 l_k).1
          have hv0:=(Array.getElem?_eq_some_iff.1 v_k).1
          have hw0:=(Array.getElem?_eq_some_iff.1 w_k).1
          rcases hrel with rfl | rfl | rfl
          . skip
            try clear CA
            try clear CG
            try clear CS
            try clear CP
            try clear CX
            try clear CY
            try clear CP01
            try clear CD01
            try clear CS01
            try clear CP02
            try clear CD02
            try clear CS02
            try clear CP03
            try clear CD03
            try clear CS03
            try clear CP04
            try clear CD04
            try clear CP12
            try clear CD12
            try clear CS12
            try clear CP13
            try clear CD13
            try clear CS13
            try clear CP14
            try clear CD14
            try clear CP24
            try clear CD24
            try clear CP34
            try clear CD34
            have f0:=blkC l_k 0 rfl
            have f1:=blkC l_k 1 rfl
            have f2:=blkC l_k 2 rfl
            have f3:=blkC l_k 3 rfl
            have f4:=blkC l_k 4 rfl
            have f5:=blkC l_k 5 rfl
            have f6:=blkC l_k 6 rfl
            have f7:=blkC l_k 7 rfl
            have f8:=blkC l_k 8 rfl
            have f9:=blkC l_k 9 rfl
            have f10:=blkC l_k 10 rfl
            have f11:=blkC l_k 11 rfl
            have f12:=blkC l_k 12 rfl
            have f13:=blkC l_k 13 rfl
            have f14:=blkC l_k 14 rfl
            go_wp2_with fail
            clear f0 f1 f2 f3 f4 f5 f6 f7 f8 f9 f10 f11 f12 f13 f14
            replace l_k:=heap_past (.cells #[.int .i64 (s 0 0),.int .i64 (s 0 1),.int .i64 (s 0 2),.int .i64 (s 1 0),.int .i64 (s 1 1),.int .i64 (s 1 2),.int .i64 (s 2 0),.int .i64 (s 2 1),.int .i64 (s 2 2),.int .i64 (s 3 0),.int .i64 (s 3 1),.int .i64 (s 3 2),.int .i64 (s 4 0),.int .i64 (s 4 1),.int .i64 (s 4 2)] 24) l_k
            replace v_k:=heap_past (.cells #[.int .i64 (s 0 0),.int .i64 (s 0 1),.int .i64 (s 0 2),.int .i64 (s 1 0),.int .i64 (s 1 1),.int .i64 (s 1 2),.int .i64 (s 2 0),.int .i64 (s 2 1),.int .i64 (s 2 2),.int .i64 (s 3 0),.int .i64 (s 3 1),.int .i64 (s 3 2),.int .i64 (s 4 0),.int .i64 (s 4 1),.int .i64 (s 4 2)] 24) v_k
            replace w_k:=heap_past (.cells #[.int .i64 (s 0 0),.int .i64 (s 0 1),.int .i64 (s 0 2),.int .i64 (s 1 0),.int .i64 (s 1 1),.int .i64 (s 1 2),.int .i64 (s 2 0),.int .i64 (s 2 1),.int .i64 (s 2 2),.int .i64 (s 3 0),.int .i64 (s 3 1),.int .i64 (s 3 2),.int .i64 (s 4 0),.int .i64 (s 4 1),.int .i64 (s 4 2)] 24) w_k
            have m_k:=heap_a1 wr (.cells #[.int .i64 (s 0 0),.int .i64 (s 0 1),.int .i64 (s 0 2),.int .i64 (s 1 0),.int .i64 (s 1 1),.int .i64 (s 1 2),.int .i64 (s 2 0),.int .i64 (s 2 1),.int .i64 (s 2 2),.int .i64 (s 3 0),.int .i64 (s 3 1),.int .i64 (s 3 2),.int .i64 (s 4 0),.int .i64 (s 4 1),.int .i64 (s 4 2)] 24)
            replace hb:=bel_trans hb (bel_alloc wr (.cells #[.int .i64 (s 0 0),.int .i64 (s 0 1),.int .i64 (s 0 2),.int .i64 (s 1 0),.int .i64 (s 1 1),.int .i64 (s 1 2),.int .i64 (s 2 0),.int .i64 (s 2 1),.int .i64 (s 2 2),.int .i64 (s 3 0),.int .i64 (s 3 1),.int .i64 (s 3 2),.int .i64 (s 4 0),.int .i64 (s 4 1),.int .i64 (s 4 2)] 24))
            have nl:w.heap.size≠wr.heap.size:=by have:=(Array.getElem?_eq_some_iff.1 l_k).1; have:=hl0; omega
            have nv:gv≠wr.heap.size:=by have:=hv0; omega
            have nw:gw≠wr.heap.size:=by have:=hw0; omega
            have gm0:w.heap.size<=wr.heap.size:=by have:=hl0; omega
            generalize hgm:wr.heap.size=gm at m_k nl nv nw gm0 ⊢
            clear hgm hl0 hv0 hw0
            generalize wr.alloc (.cells #[.int .i64 (s 0 0),.int .i64 (s 0 1),.int .i64 (s 0 2),.int .i64 (s 1 0),.int .i64 (s 1 1),.int .i64 (s 1 2),.int .i64 (s 2 0),.int .i64 (s 2 1),.int .i64 (s 2 2),.int .i64 (s 3 0),.int .i64 (s 3 1),.int .i64 (s 3 2),.int .i64 (s 4 0),.int .i64 (s 4 1),.int .i64 (s 4 2)] 24)=xm at l_k v_k w_k m_k hb ⊢
            have m1_k:(((xm.setCell ⟨gm,6,none⟩ (.int .i64 (s 3 0))).setCell ⟨gm,7,none⟩ (.int .i64 (s 3 1))).setCell ⟨gm,8,none⟩ (.int .i64 (s 3 2))).heap[gm]?=some (.cells #[.int .i64 (s 0 0),.int .i64 (s 0 1),.int .i64 (s 0 2),.int .i64 (s 1 0),.int .i64 (s 1 1),.int .i64 (s 1 2),.int .i64 (s 3 0),.int .i64 (s 3 1),.int .i64 (s 3 2),.int .i64 (s 3 0),.int .i64 (s 3 1),.int .i64 (s 3 2),.int .i64 (s 4 0),.int .i64 (s 4 1),.int .i64 (s 4 2)] 24 (0,0)):=heap_set (heap_set (heap_set m_k 6 (.int .i64 (s 3 0))) 7 (.int .i64 (s 3 1))) 8 (.int .i64 (s 3 2))
            have m2_k:((((((xm.setCell ⟨gm,6,none⟩ (.int .i64 (s 3 0))).setCell ⟨gm,7,none⟩ (.int .i64 (s 3 1))).setCell ⟨gm,8,none⟩ (.int .i64 (s 3 2))).setCell ⟨gm,9,none⟩ (.int .i64 (s 2 0))).setCell ⟨gm,10,none⟩ (.int .i64 (s 2 1))).setCell ⟨gm,11,none⟩ (.int .i64 (s 2 2))).heap[gm]?=some (.cells #[.int .i64 (s 0 0),.int .i64 (s 0 1),.int .i64 (s 0 2),.int .i64 (s 1 0),.int .i64 (s 1 1),.int .i64 (s 1 2),.int .i64 (s 3 0),.int .i64 (s 3 1),.int .i64 (s 3 2),.int .i64 (s 2 0),.int .i64 (s 2 1),.int .i64 (s 2 2),.int .i64 (s 4 0),.int .i64 (s 4 1),.int .i64 (s 4 2)] 24 (0,0)):=heap_set (heap_set (heap_set m1_k 9 (.int .i64 (s 2 0))) 10 (.int .i64 (s 2 1))) 11 (.int .i64 (s 2 2))
            have q6:=blkC m_k 6 rfl
            have z6:=blkF m_k 6
            have q7:=blkC m_k 7 rfl
            have z7:=blkF m_k 7
            have q8:=blkC m_k 8 rfl
            have z8:=blkF m_k 8
            have q9:=blkC m_k 9 rfl
            have z9:=blkF m_k 9
            have q10:=blkC m_k 10 rfl
            have z10:=blkF m_k 10
            have q11:=blkC m_k 11 rfl
            have z11:=blkF m_k 11
            have p9:=blkC m1_k 9 rfl
            have y9:=blkF m1_k 9
            have p10:=blkC m1_k 10 rfl
            have y10:=blkF m1_k 10
            have p11:=blkC m1_k 11 rfl
            have y11:=blkF m1_k 11
            go_region
            clear q6 z6 q7 z7 q8 z8 q9 z9 q10 z10 q11 z11
            clear p9 y9 p10 y10 p11 y11
            replace l_k:=heap_ne (heap_ne (heap_ne (heap_ne (heap_ne (heap_ne l_k nl 6 (.int .i64 (s 3 0))) nl 7 (.int .i64 (s 3 1))) nl 8 (.int .i64 (s 3 2))) nl 9 (.int .i64 (s 2 0))) nl 10 (.int .i64 (s 2 1))) nl 11 (.int .i64 (s 2 2))
            replace v_k:=heap_ne (heap_ne (heap_ne (heap_ne (heap_ne (heap_ne v_k nv 6 (.int .i64 (s 3 0))) nv 7 (.int .i64 (s 3 1))) nv 8 (.int .i64 (s 3 2))) nv 9 (.int .i64 (s 2 0))) nv 10 (.int .i64 (s 2 1))) nv 11 (.int .i64 (s 2 2))
            replace w_k:=heap_ne (heap_ne (heap_ne (heap_ne (heap_ne (heap_ne w_k nw 6 (.int .i64 (s 3 0))) nw 7 (.int .i64 (s 3 1))) nw 8 (.int .i64 (s 3 2))) nw 9 (.int .i64 (s 2 0))) nw 10 (.int .i64 (s 2 1))) nw 11 (.int .i64 (s 2 2))
            clear m_k m1_k
            replace hb:=(((((hb.setCell (p:=⟨gm,6,none⟩) gm0 (.int .i64 (s 3 0))).setCell (p:=⟨gm,7,none⟩) gm0 (.int .i64 (s 3 1))).setCell (p:=⟨gm,8,none⟩) gm0 (.int .i64 (s 3 2))).setCell (p:=⟨gm,9,none⟩) gm0 (.int .i64 (s 2 0))).setCell (p:=⟨gm,10,none⟩) gm0 (.int .i64 (s 2 1))).setCell (p:=⟨gm,11,none⟩) gm0 (.int .i64 (s 2 2))
            generalize (((((xm.setCell ⟨gm,6,none⟩ (.int .i64 (s 3 0))).setCell ⟨gm,7,none⟩ (.int .i64 (s 3 1))).setCell ⟨gm,8,none⟩ (.int .i64 (s 3 2))).setCell ⟨gm,9,none⟩ (.int .i64 (s 2 0))).setCell ⟨gm,10,none⟩ (.int .i64 (s 2 1))).setCell ⟨gm,11,none⟩ (.int .i64 (s 2 2))=x8 at l_k v_k w_k m2_k hb ⊢
            have hD:=(bel_refl x8).drew
            replace l_k:=blk_us hD l_k
            replace v_k:=blk_us hD v_k
            replace w_k:=blk_us hD w_k
            replace m2_k:=blk_us hD m2_k
            replace hb:=bel_trans hb hD
            clear hD
            generalize x8.drew=x8 at l_k v_k w_k m2_k hb ⊢
            have q0:=blkC m2_k 0 rfl
            have q1:=blkC m2_k 1 rfl
            have q2:=blkC m2_k 2 rfl
            have q3:=blkC m2_k 3 rfl
            have q4:=blkC m2_k 4 rfl
            have q5:=blkC m2_k 5 rfl
            have q6:=blkC m2_k 6 rfl
            have q7:=blkC m2_k 7 rfl
            have q8:=blkC m2_k 8 rfl
            have q9:=blkC m2_k 9 rfl
            have q10:=blkC m2_k 10 rfl
            have q11:=blkC m2_k 11 rfl
            have q12:=blkC m2_k 12 rfl
            have q13:=blkC m2_k 13 rfl
            have q14:=blkC m2_k 14 rfl
            go_wp2_with fail
            clear q0 q1 q2 q3 q4 q5 q6 q7 q8 q9 q10 q11 q12 q13 q14
            refine (CP23.out _ hb).mono ?_
            rintro _ y9 ⟨rfl,h9⟩
            have hl0:=(Array.getElem?_eq_some_iff.1 (blk_us h9 l_k)).1
            have hv0:=(Array.getElem?_eq_some_iff.1 (blk_us h9 v_k)).1
            have hw0:=(Array.getElem?_eq_some_iff.1 (blk_us h9 w_k)).1
            have hm0:=(Array.getElem?_eq_some_iff.1 (blk_us h9 m2_k)).1
            have ul:w.heap.size≠y9.heap.size:=by omega
            have uv:gv≠y9.heap.size:=by omega
            have uw:gw≠y9.heap.size:=by omega
            have um:gm≠y9.heap.size:=by omega
            have gu0:w.heap.size<=y9.heap.size:=by omega
            clear hl0 hv0 hw0 hm0
            replace l_k:=heap_past (.cells #[.int .i64 (-ws),.int .i64 tp23] 29) (blk_us h9 l_k)
            replace v_k:=heap_past (.cells #[.int .i64 (-ws),.int .i64 tp23] 29) (blk_us h9 v_k)
            replace w_k:=heap_past (.cells #[.int .i64 (-ws),.int .i64 tp23] 29) (blk_us h9 w_k)
            replace m2_k:=heap_past (.cells #[.int .i64 (-ws),.int .i64 tp23] 29) (blk_us h9 m2_k)
            have u_k:=heap_a1 y9 (.cells #[.int .i64 (-ws),.int .i64 tp23] 29)
            replace hb:=bel_trans hb (bel_trans h9 (bel_alloc y9 (.cells #[.int .i64 (-ws),.int .i64 tp23] 29)))
            clear h9
            have w_0:=blkC w_k 0 rfl
            have u_0:=blkC u_k 0 rfl
            have q0:=blkC m2_k 0 rfl
            have q1:=blkC m2_k 1 rfl
            have q2:=blkC m2_k 2 rfl
            have q3:=blkC m2_k 3 rfl
            have q4:=blkC m2_k 4 rfl
            have q5:=blkC m2_k 5 rfl
            have q6:=blkC m2_k 6 rfl
            have q7:=blkC m2_k 7 rfl
            have q8:=blkC m2_k 8 rfl
            have q9:=blkC m2_k 9 rfl
            have q10:=blkC m2_k 10 rfl
            have q11:=blkC m2_k 11 rfl
            go_wp2_with (first | (go_at_call 11; refine (CN.out _).mono ?_; rintro _ _ ⟨rfl,rfl⟩))
            clear q0 q1 q2 q3 q4 q5 q6 q7 q8 q9 q10 q11
            clear w_0 u_0
            generalize hgu:y9.heap.size=gu at u_k ul uv uw um gu0 ⊢
            clear hgu
            generalize y9.alloc (.cells #[.int .i64 (-ws),.int .i64 tp23] 29)=x9 at l_k v_k w_k m2_k u_k hb ⊢
            refine (CS23.out _ hb).mono ?_
            rintro _ y10 ⟨rfl,h10⟩
            replace l_k:=blk_us h10 l_k
            replace v_k:=blk_us h10 v_k
            replace w_k:=blk_us h10 w_k
            replace m2_k:=blk_us h10 m2_k
            replace u_k:=blk_us h10 u_k
            replace hb:=bel_trans hb h10
            clear h10
            have u_0:=blkC u_k 0 rfl
            have u_1:=blkC u_k 1 rfl
            have u_2:=blkF u_k 0
            have u_3:=blkF u_k 1
            go_wp2_with fail
            clear u_0 u_1 u_2 u_3
            have u2_k:((y10.setCell ⟨gu,0,none⟩ (.int .i64 (-vs))).setCell ⟨gu,1,none⟩ (.int .i64 ts23)).heap[gu]?=some (.cells #[.int .i64 (-vs),.int .i64 ts23] 29 (0,0)):=heap_set (heap_set u_k 0 (.int .i64 (-vs))) 1 (.int .i64 ts23)
            replace l_k:=heap_ne (heap_ne l_k ul 0 (.int .i64 (-vs))) ul 1 (.int .i64 ts23)
            replace v_k:=heap_ne (heap_ne v_k uv 0 (.int .i64 (-vs))) uv 1 (.int .i64 ts23)
            replace w_k:=heap_ne (heap_ne w_k uw 0 (.int .i64 (-vs))) uw 1 (.int .i64 ts23)
            replace m2_k:=heap_ne (heap_ne m2_k um 0 (.int .i64 (-vs))) um 1 (.int .i64 ts23)
            clear u_k
            have u_k:=u2_k
            clear u2_k
            replace hb:=(hb.setCell (p:=⟨gu,0,none⟩) gu0 (.int .i64 (-vs))).setCell (p:=⟨gu,1,none⟩) gu0 (.int .i64 ts23)
            generalize (y10.setCell ⟨gu,0,none⟩ (.int .i64 (-vs))).setCell ⟨gu,1,none⟩ (.int .i64 ts23)=x10 at l_k v_k w_k m2_k u_k hb ⊢
            have v_0:=blkC v_k 0 rfl
            have u_0:=blkC u_k 0 rfl
            have f0:=blkC l_k 0 rfl
            have f1:=blkC l_k 1 rfl
            have f2:=blkC l_k 2 rfl
            have f3:=blkC l_k 3 rfl
            have f4:=blkC l_k 4 rfl
            have f5:=blkC l_k 5 rfl
            have f6:=blkC l_k 6 rfl
            have f7:=blkC l_k 7 rfl
            have f8:=blkC l_k 8 rfl
            have f9:=blkC l_k 9 rfl
            have f10:=blkC l_k 10 rfl
            have f11:=blkC l_k 11 rfl
            have f12:=blkC l_k 12 rfl
            have f13:=blkC l_k 13 rfl
            have f14:=blkC l_k 14 rfl
            dsimp only
            have hGo:Hid True:=trivial
            repeat (have _q:=hGo; clear _q; first | (refine wp_store_row 24 _ _ rfl gm #[.int .i64 (s 0 0),.int .i64 (s 0 1),.int .i64 (s 0 2),.int .i64 (s 1 0),.int .i64 (s 1 1),.int .i64 (s 1 2),.int .i64 (s 2 0),.int .i64 (s 2 1),.int .i64 (s 2 2),.int .i64 (s 3 0),.int .i64 (s 3 1),.int .i64 (s 3 2),.int .i64 (s 4 0),.int .i64 (s 4 1),.int .i64 (s 4 2)] rfl rfl _ _ m2_k (by kernel_rfl) rfl (by kernel_rfl) ?_; clear hGo; dsimp only [Act.put]) | (go_at_call 11; refine (CN.out _).mono ?_; rintro _ _ ⟨rfl,rfl⟩; dsimp only) | go_step)
            clear f0 f1 f2 f3 f4 f5 f6 f7 f8 f9 f10 f11 f12 f13 f14
            clear v_0 u_0
            have m3_k:=setRow_heap x10 gm _ #[.int .i64 (s 0 0),.int .i64 (s 0 1),.int .i64 (s 0 2),.int .i64 (s 1 0),.int .i64 (s 1 1),.int .i64 (s 1 2),.int .i64 (s 2 0),.int .i64 (s 2 1),.int .i64 (s 2 2),.int .i64 (s 3 0),.int .i64 (s 3 1),.int .i64 (s 3 2),.int .i64 (s 4 0),.int .i64 (s 4 1),.int .i64 (s 4 2)] _ _ m2_k
            replace l_k:=(setRow_other x10 gm _ #[.int .i64 (s 0 0),.int .i64 (s 0 1),.int .i64 (s 0 2),.int .i64 (s 1 0),.int .i64 (s 1 1),.int .i64 (s 1 2),.int .i64 (s 2 0),.int .i64 (s 2 1),.int .i64 (s 2 2),.int .i64 (s 3 0),.int .i64 (s 3 1),.int .i64 (s 3 2),.int .i64 (s 4 0),.int .i64 (s 4 1),.int .i64 (s 4 2)] nl).trans l_k
            replace v_k:=(setRow_other x10 gm _ #[.int .i64 (s 0 0),.int .i64 (s 0 1),.int .i64 (s 0 2),.int .i64 (s 1 0),.int .i64 (s 1 1),.int .i64 (s 1 2),.int .i64 (s 2 0),.int .i64 (s 2 1),.int .i64 (s 2 2),.int .i64 (s 3 0),.int .i64 (s 3 1),.int .i64 (s 3 2),.int .i64 (s 4 0),.int .i64 (s 4 1),.int .i64 (s 4 2)] nv).trans v_k
            replace w_k:=(setRow_other x10 gm _ #[.int .i64 (s 0 0),.int .i64 (s 0 1),.int .i64 (s 0 2),.int .i64 (s 1 0),.int .i64 (s 1 1),.int .i64 (s 1 2),.int .i64 (s 2 0),.int .i64 (s 2 1),.int .i64 (s 2 2),.int .i64 (s 3 0),.int .i64 (s 3 1),.int .i64 (s 3 2),.int .i64 (s 4 0),.int .i64 (s 4 1),.int .i64 (s 4 2)] nw).trans w_k
            replace u_k:=(setRow_other x10 gm _ #[.int .i64 (s 0 0),.int .i64 (s 0 1),.int .i64 (s 0 2),.int .i64 (s 1 0),.int .i64 (s 1 1),.int .i64 (s 1 2),.int .i64 (s 2 0),.int .i64 (s 2 1),.int .i64 (s 2 2),.int .i64 (s 3 0),.int .i64 (s 3 1),.int .i64 (s 3 2),.int .i64 (s 4 0),.int .i64 (s 4 1),.int .i64 (s 4 2)] um.symm).trans u_k
            replace hb:Below w.heap.size w (x10.setRow gm #[.int .i64 (s 0 0),.int .i64 (s 0 1),.int .i64 (s 0 2),.int .i64 (s 1 0),.int .i64 (s 1 1),.int .i64 (s 1 2),.int .i64 (s 2 0),.int .i64 (s 2 1),.int .i64 (s 2 2),.int .i64 (s 3 0),.int .i64 (s 3 1),.int .i64 (s 3 2),.int .i64 (s 4 0),.int .i64 (s 4 1),.int .i64 (s 4 2)]):=hb.trans ⟨rfl,rfl,rfl,by simp [World.setRow],fun k hk=>setRow_other _ _ _ _ (by omega)⟩
            clear m2_k
            generalize (x10.setRow gm #[.int .i64 (s 0 0),.int .i64 (s 0 1),.int .i64 (s 0 2),.int .i64 (s 1 0),.int .i64 (s 1 1),.int .i64 (s 1 2),.int .i64 (s 2 0),.int .i64 (s 2 1),.int .i64 (s 2 2),.int .i64 (s 3 0),.int .i64 (s 3 1),.int .i64 (s 3 2),.int .i64 (s 4 0),.int .i64 (s 4 1),.int .i64 (s 4 2)])=x11 at l_k v_k w_k u_k m3_k hb ⊢
            have q0:=blkC m3_k 0 rfl
            have q1:=blkC m3_k 1 rfl
            have q2:=blkC m3_k 2 rfl
            have q3:=blkC m3_k 3 rfl
            have q4:=blkC m3_k 4 rfl
            have q5:=blkC m3_k 5 rfl
            have q6:=blkC m3_k 6 rfl
            have q7:=blkC m3_k 7 rfl
            have q8:=blkC m3_k 8 rfl
            have q9:=blkC m3_k 9 rfl
            have q10:=blkC m3_k 10 rfl
            have q11:=blkC m3_k 11 rfl
            have q12:=blkC m3_k 12 rfl
            have q13:=blkC m3_k 13 rfl
            have q14:=blkC m3_k 14 rfl
            have z6:=blkF m3_k 6
            have z7:=blkF m3_k 7
            have z8:=blkF m3_k 8
            go_wp2_with fail
            clear q0 q1 q2 q3 q4 q5 q6 q7 q8 q9 q10 q11 q12 q13 q14
            clear z6 z7 z8
            have m4_k:(((x11.setCell ⟨gm,6,none⟩ (.int .i64 (s 3 0))).setCell ⟨gm,7,none⟩ (.int .i64 (s 3 1))).setCell ⟨gm,8,none⟩ (.int .i64 (s 3 2))).heap[gm]?=some (.cells #[.int .i64 (s 0 0),.int .i64 (s 0 1),.int .i64 (s 0 2),.int .i64 (s 1 0),.int .i64 (s 1 1),.int .i64 (s 1 2),.int .i64 (s 3 0),.int .i64 (s 3 1),.int .i64 (s 3 2),.int .i64 (s 3 0),.int .i64 (s 3 1),.int .i64 (s 3 2),.int .i64 (s 4 0),.int .i64 (s 4 1),.int .i64 (s 4 2)] 24 (0,0)):=heap_set (heap_set (heap_set m3_k 6 (.int .i64 (s 3 0))) 7 (.int .i64 (s 3 1))) 8 (.int .i64 (s 3 2))
            replace l_k:=heap_ne (heap_ne (heap_ne l_k nl 6 (.int .i64 (s 3 0))) nl 7 (.int .i64 (s 3 1))) nl 8 (.int .i64 (s 3 2))
            replace v_k:=heap_ne (heap_ne (heap_ne v_k nv 6 (.int .i64 (s 3 0))) nv 7 (.int .i64 (s 3 1))) nv 8 (.int .i64 (s 3 2))
            replace w_k:=heap_ne (heap_ne (heap_ne w_k nw 6 (.int .i64 (s 3 0))) nw 7 (.int .i64 (s 3 1))) nw 8 (.int .i64 (s 3 2))
            replace u_k:=heap_ne (heap_ne (heap_ne u_k um.symm 6 (.int .i64 (s 3 0))) um.symm 7 (.int .i64 (s 3 1))) um.symm 8 (.int .i64 (s 3 2))
            replace hb:=((hb.setCell (p:=⟨gm,6,none⟩) gm0 (.int .i64 (s 3 0))).setCell (p:=⟨gm,7,none⟩) gm0 (.int .i64 (s 3 1))).setCell (p:=⟨gm,8,none⟩) gm0 (.int .i64 (s 3 2))
            clear m3_k
            generalize ((x11.setCell ⟨gm,6,none⟩ (.int .i64 (s 3 0))).setCell ⟨gm,7,none⟩ (.int .i64 (s 3 1))).setCell ⟨gm,8,none⟩ (.int .i64 (s 3 2))=x12 at l_k v_k w_k u_k m4_k hb ⊢
            refine (CD23.out _ hb).mono ?_
            rintro _ y11 ⟨rfl,h11⟩
            replace l_k:=blk_us h11 l_k
            replace v_k:=blk_us h11 v_k
            replace w_k:=blk_us h11 w_k
            replace u_k:=blk_us h11 u_k
            replace hb:=bel_trans hb h11
            clear h11 m4_k
            have u_0:=blkC u_k 0 rfl
            have u_1:=blkC u_k 1 rfl
            have u_2:=blkF u_k 0
            have u_3:=blkF u_k 1
            go_wp2_with fail
            clear u_0 u_1 u_2 u_3
            have u2_k:((y11.setCell ⟨gu,0,none⟩ (.int .i64 0)).setCell ⟨gu,1,none⟩ (.int .i64 td23)).heap[gu]?=some (.cells #[.int .i64 0,.int .i64 td23] 29 (0,0)):=heap_set (heap_set u_k 0 (.int .i64 0)) 1 (.int .i64 td23)
            replace l_k:=heap_ne (heap_ne l_k ul 0 (.int .i64 0)) ul 1 (.int .i64 td23)
            replace v_k:=heap_ne (heap_ne v_k uv 0 (.int .i64 0)) uv 1 (.int .i64 td23)
            replace w_k:=heap_ne (heap_ne w_k uw 0 (.int .i64 0)) uw 1 (.int .i64 td23)
            clear u_k
            replace hb:=(hb.setCell (p:=⟨gu,0,none⟩) gu0 (.int .i64 0)).setCell (p:=⟨gu,1,none⟩) gu0 (.int .i64 td23)
            generalize (y11.setCell ⟨gu,0,none⟩ (.int .i64 0)).setCell ⟨gu,1,none⟩ (.int .i64 td23)=x13 at l_k v_k w_k u2_k hb ⊢
            have u_0:=blkC u2_k 0 rfl
            go_wp2_with (first | (go_at_call 11; refine (CN.out _).mono ?_; rintro _ _ ⟨rfl,rfl⟩))
            go_roundw
            case rel=>exact ⟨hb,l_k,v_k,w_k,.inr (.inl (by go_num))⟩
            case measure=>simp [intOf]
          . skip
            try clear CA
            try clear CG
            try clear CS
            try clear CP
            try clear CX
            try clear CY
            try clear CP01
            try clear CD01
            try clear CS01
            try clear CP02
            try clear CD02
            try clear CS02
            try clear CP03
            try clear CD03
            try clear CS03
            try clear CP04
            try clear CD04
            try clear CP12
            try clear CD12
            try clear CS12
            try clear CP13
            try clear CD13
            try clear CS13
            try clear CP14
            try clear CD14
            try clear CP23
            try clear CD23
            try clear CS23
            try clear CP34
            try clear CD34
            have f0:=blkC l_k 0 rfl
            have f1:=blkC l_k 1 rfl
            have f2:=blkC l_k 2 rfl
            have f3:=blkC l_k 3 rfl
            have f4:=blkC l_k 4 rfl
            have f5:=blkC l_k 5 rfl
            have f6:=blkC l_k 6 rfl
            have f7:=blkC l_k 7 rfl
            have f8:=blkC l_k 8 rfl
            have f9:=blkC l_k 9 rfl
            have f10:=blkC l_k 10 rfl
            have f11:=blkC l_k 11 rfl
            have f12:=blkC l_k 12 rfl
            have f13:=blkC l_k 13 rfl
            have f14:=blkC l_k 14 rfl
            go_wp2_with fail
            clear f0 f1 f2 f3 f4 f5 f6 f7 f8 f9 f10 f11 f12 f13 f14
            replace l_k:=heap_past (.cells #[.int .i64 (s 0 0),.int .i64 (s 0 1),.int .i64 (s 0 2),.int .i64 (s 1 0),.int .i64 (s 1 1),.int .i64 (s 1 2),.int .i64 (s 2 0),.int .i64 (s 2 1),.int .i64 (s 2 2),.int .i64 (s 3 0),.int .i64 (s 3 1),.int .i64 (s 3 2),.int .i64 (s 4 0),.int .i64 (s 4 1),.int .i64 (s 4 2)] 24) l_k
            replace v_k:=heap_past (.cells #[.int .i64 (s 0 0),.int .i64 (s 0 1),.int .i64 (s 0 2),.int .i64 (s 1 0),.int .i64 (s 1 1),.int .i64 (s 1 2),.int .i64 (s 2 0),.int .i64 (s 2 1),.int .i64 (s 2 2),.int .i64 (s 3 0),.int .i64 (s 3 1),.int .i64 (s 3 2),.int .i64 (s 4 0),.int .i64 (s 4 1),.int .i64 (s 4 2)] 24) v_k
            replace w_k:=heap_past (.cells #[.int .i64 (s 0 0),.int .i64 (s 0 1),.int .i64 (s 0 2),.int .i64 (s 1 0),.int .i64 (s 1 1),.int .i64 (s 1 2),.int .i64 (s 2 0),.int .i64 (s 2 1),.int .i64 (s 2 2),.int .i64 (s 3 0),.int .i64 (s 3 1),.int .i64 (s 3 2),.int .i64 (s 4 0),.int .i64 (s 4 1),.int .i64 (s 4 2)] 24) w_k
            have m_k:=heap_a1 wr (.cells #[.int .i64 (s 0 0),.int .i64 (s 0 1),.int .i64 (s 0 2),.int .i64 (s 1 0),.int .i64 (s 1 1),.int .i64 (s 1 2),.int .i64 (s 2 0),.int .i64 (s 2 1),.int .i64 (s 2 2),.int .i64 (s 3 0),.int .i64 (s 3 1),.int .i64 (s 3 2),.int .i64 (s 4 0),.int .i64 (s 4 1),.int .i64 (s 4 2)] 24)
            replace hb:=bel_trans hb (bel_alloc wr (.cells #[.int .i64 (s 0 0),.int .i64 (s 0 1),.int .i64 (s 0 2),.int .i64 (s 1 0),.int .i64 (s 1 1),.int .i64 (s 1 2),.int .i64 (s 2 0),.int .i64 (s 2 1),.int .i64 (s 2 2),.int .i64 (s 3 0),.int .i64 (s 3 1),.int .i64 (s 3 2),.int .i64 (s 4 0),.int .i64 (s 4 1),.int .i64 (s 4 2)] 24))
            have nl:w.heap.size≠wr.heap.size:=by have:=(Array.getElem?_eq_some_iff.1 l_k).1; have:=hl0; omega
            have nv:gv≠wr.heap.size:=by have:=hv0; omega
            have nw:gw≠wr.heap.size:=by have:=hw0; omega
            have gm0:w.heap.size<=wr.heap.size:=by have:=hl0; omega
            generalize hgm:wr.heap.size=gm at m_k nl nv nw gm0 ⊢
            clear hgm hl0 hv0 hw0
            generalize wr.alloc (.cells #[.int .i64 (s 0 0),.int .i64 (s 0 1),.int .i64 (s 0 2),.int .i64 (s 1 0),.int .i64 (s 1 1),.int .i64 (s 1 2),.int .i64 (s 2 0),.int .i64 (s 2 1),.int .i64 (s 2 2),.int .i64 (s 3 0),.int .i64 (s 3 1),.int .i64 (s 3 2),.int .i64 (s 4 0),.int .i64 (s 4 1),.int .i64 (s 4 2)] 24)=xm at l_k v_k w_k m_k hb ⊢
            have m1_k:(((xm.setCell ⟨gm,6,none⟩ (.int .i64 (s 4 0))).setCell ⟨gm,7,none⟩ (.int .i64 (s 4 1))).setCell ⟨gm,8,none⟩ (.int .i64 (s 4 2))).heap[gm]?=some (.cells #[.int .i64 (s 0 0),.int .i64 (s 0 1),.int .i64 (s 0 2),.int .i64 (s 1 0),.int .i64 (s 1 1),.int .i64 (s 1 2),.int .i64 (s 4 0),.int .i64 (s 4 1),.int .i64 (s 4 2),.int .i64 (s 3 0),.int .i64 (s 3 1),.int .i64 (s 3 2),.int .i64 (s 4 0),.int .i64 (s 4 1),.int .i64 (s 4 2)] 24 (0,0)):=heap_set (heap_set (heap_set m_k 6 (.int .i64 (s 4 0))) 7 (.int .i64 (s 4 1))) 8 (.int .i64 (s 4 2))
            have m2_k:((((((xm.setCell ⟨gm,6,none⟩ (.int .i64 (s 4 0))).setCell ⟨gm,7,none⟩ (.int .i64 (s 4 1))).setCell ⟨gm,8,none⟩ (.int .i64 (s 4 2))).setCell ⟨gm,12,none⟩ (.int .i64 (s 2 0))).setCell ⟨gm,13,none⟩ (.int .i64 (s 2 1))).setCell ⟨gm,14,none⟩ (.int .i64 (s 2 2))).heap[gm]?=some (.cells #[.int .i64 (s 0 0),.int .i64 (s 0 1),.int .i64 (s 0 2),.int .i64 (s 1 0),.int .i64 (s 1 1),.int .i64 (s 1 2),.int .i64 (s 4 0),.int .i64 (s 4 1),.int .i64 (s 4 2),.int .i64 (s 3 0),.int .i64 (s 3 1),.int .i64 (s 3 2),.int .i64 (s 2 0),.int .i64 (s 2 1),.int .i64 (s 2 2)] 24 (0,0)):=heap_set (heap_set (heap_set m1_k 12 (.int .i64 (s 2 0))) 13 (.int .i64 (s 2 1))) 14 (.int .i64 (s 2 2))
            have q6:=blkC m_k 6 rfl
            have z6:=blkF m_k 6
            have q7:=blkC m_k 7 rfl
            have z7:=blkF m_k 7
            have q8:=blkC m_k 8 rfl
            have z8:=blkF m_k 8
            have q12:=blkC m_k 12 rfl
            have z12:=blkF m_k 12
            have q13:=blkC m_k 13 rfl
            have z13:=blkF m_k 13
            have q14:=blkC m_k 14 rfl
            have z14:=blkF m_k 14
            have p12:=blkC m1_k 12 rfl
            have y12:=blkF m1_k 12
            have p13:=blkC m1_k 13 rfl
            have y13:=blkF m1_k 13
            have p14:=blkC m1_k 14 rfl
            have y14:=blkF m1_k 14
            go_region
            clear q6 z6 q7 z7 q8 z8 q12 z12 q13 z13 q14 z14
            clear p12 y12 p13 y13 p14 y14
            replace l_k:=heap_ne (heap_ne (heap_ne (heap_ne (heap_ne (heap_ne l_k nl 6 (.int .i64 (s 4 0))) nl 7 (.int .i64 (s 4 1))) nl 8 (.int .i64 (s 4 2))) nl 12 (.int .i64 (s 2 0))) nl 13 (.int .i64 (s 2 1))) nl 14 (.int .i64 (s 2 2))
            replace v_k:=heap_ne (heap_ne (heap_ne (heap_ne (heap_ne (heap_ne v_k nv 6 (.int .i64 (s 4 0))) nv 7 (.int .i64 (s 4 1))) nv 8 (.int .i64 (s 4 2))) nv 12 (.int .i64 (s 2 0))) nv 13 (.int .i64 (s 2 1))) nv 14 (.int .i64 (s 2 2))
            replace w_k:=heap_ne (heap_ne (heap_ne (heap_ne (heap_ne (heap_ne w_k nw 6 (.int .i64 (s 4 0))) nw 7 (.int .i64 (s 4 1))) nw 8 (.int .i64 (s 4 2))) nw 12 (.int .i64 (s 2 0))) nw 13 (.int .i64 (s 2 1))) nw 14 (.int .i64 (s 2 2))
            clear m_k m1_k
            replace hb:=(((((hb.setCell (p:=⟨gm,6,none⟩) gm0 (.int .i64 (s 4 0))).setCell (p:=⟨gm,7,none⟩) gm0 (.int .i64 (s 4 1))).setCell (p:=⟨gm,8,none⟩) gm0 (.int .i64 (s 4 2))).setCell (p:=⟨gm,12,none⟩) gm0 (.int .i64 (s 2 0))).setCell (p:=⟨gm,13,none⟩) gm0 (.int .i64 (s 2 1))).setCell (p:=⟨gm,14,none⟩) gm0 (.int .i64 (s 2 2))
            generalize (((((xm.setCell ⟨gm,6,none⟩ (.int .i64 (s 4 0))).setCell ⟨gm,7,none⟩ (.int .i64 (s 4 1))).setCell ⟨gm,8,none⟩ (.int .i64 (s 4 2))).setCell ⟨gm,12,none⟩ (.int .i64 (s 2 0))).setCell ⟨gm,13,none⟩ (.int .i64 (s 2 1))).setCell ⟨gm,14,none⟩ (.int .i64 (s 2 2))=x8 at l_k v_k w_k m2_k hb ⊢
            have hD:=(bel_refl x8).drew
            replace l_k:=blk_us hD l_k
            replace v_k:=blk_us hD v_k
            replace w_k:=blk_us hD w_k
            replace m2_k:=blk_us hD m2_k
            replace hb:=bel_trans hb hD
            clear hD
            generalize x8.drew=x8 at l_k v_k w_k m2_k hb ⊢
            have q0:=blkC m2_k 0 rfl
            have q1:=blkC m2_k 1 rfl
            have q2:=blkC m2_k 2 rfl
            have q3:=blkC m2_k 3 rfl
            have q4:=blkC m2_k 4 rfl
            have q5:=blkC m2_k 5 rfl
            have q6:=blkC m2_k 6 rfl
            have q7:=blkC m2_k 7 rfl
            have q8:=blkC m2_k 8 rfl
            have q9:=blkC m2_k 9 rfl
            have q10:=blkC m2_k 10 rfl
            have q11:=blkC m2_k 11 rfl
            have q12:=blkC m2_k 12 rfl
            have q13:=blkC m2_k 13 rfl
            have q14:=blkC m2_k 14 rfl
            go_wp2_with fail
            clear q0 q1 q2 q3 q4 q5 q6 q7 q8 q9 q10 q11 q12 q13 q14
            refine (CP24.out _ hb).mono ?_
            rintro _ y9 ⟨rfl,h9⟩
            have hl0:=(Array.getElem?_eq_some_iff.1 (blk_us h9 l_k)).1
            have hv0:=(Array.getElem?_eq_some_iff.1 (blk_us h9 v_k)).1
            have hw0:=(Array.getElem?_eq_some_iff.1 (blk_us h9 w_k)).1
            have hm0:=(Array.getElem?_eq_some_iff.1 (blk_us h9 m2_k)).1
            have ul:w.heap.size≠y9.heap.size:=by omega
            have uv:gv≠y9.heap.size:=by omega
            have uw:gw≠y9.heap.size:=by omega
            have um:gm≠y9.heap.size:=by omega
            have gu0:w.heap.size<=y9.heap.size:=by omega
            clear hl0 hv0 hw0 hm0
            replace l_k:=heap_past (.cells #[.int .i64 (-ws),.int .i64 tp24] 29) (blk_us h9 l_k)
            replace v_k:=heap_past (.cells #[.int .i64 (-ws),.int .i64 tp24] 29) (blk_us h9 v_k)
            replace w_k:=heap_past (.cells #[.int .i64 (-ws),.int .i64 tp24] 29) (blk_us h9 w_k)
            replace m2_k:=heap_past (.cells #[.int .i64 (-ws),.int .i64 tp24] 29) (blk_us h9 m2_k)
            have u_k:=heap_a1 y9 (.cells #[.int .i64 (-ws),.int .i64 tp24] 29)
            replace hb:=bel_trans hb (bel_trans h9 (bel_alloc y9 (.cells #[.int .i64 (-ws),.int .i64 tp24] 29)))
            clear h9
            have w_0:=blkC w_k 0 rfl
            have u_0:=blkC u_k 0 rfl
            have f0:=blkC l_k 0 rfl
            have f1:=blkC l_k 1 rfl
            have f2:=blkC l_k 2 rfl
            have f3:=blkC l_k 3 rfl
            have f4:=blkC l_k 4 rfl
            have f5:=blkC l_k 5 rfl
            have f6:=blkC l_k 6 rfl
            have f7:=blkC l_k 7 rfl
            have f8:=blkC l_k 8 rfl
            have f9:=blkC l_k 9 rfl
            have f10:=blkC l_k 10 rfl
            have f11:=blkC l_k 11 rfl
            have f12:=blkC l_k 12 rfl
            have f13:=blkC l_k 13 rfl
            have f14:=blkC l_k 14 rfl
            dsimp only
            have hGo:Hid True:=trivial
            repeat (have _q:=hGo; clear _q; first | (refine wp_store_row 24 _ _ rfl gm #[.int .i64 (s 0 0),.int .i64 (s 0 1),.int .i64 (s 0 2),.int .i64 (s 1 0),.int .i64 (s 1 1),.int .i64 (s 1 2),.int .i64 (s 2 0),.int .i64 (s 2 1),.int .i64 (s 2 2),.int .i64 (s 3 0),.int .i64 (s 3 1),.int .i64 (s 3 2),.int .i64 (s 4 0),.int .i64 (s 4 1),.int .i64 (s 4 2)] rfl rfl _ _ m2_k (by kernel_rfl) rfl (by kernel_rfl) ?_; clear hGo; dsimp only [Act.put]) | (go_at_call 11; refine (CN.out _).mono ?_; rintro _ _ ⟨rfl,rfl⟩; dsimp only) | go_step)
            clear f0 f1 f2 f3 f4 f5 f6 f7 f8 f9 f10 f11 f12 f13 f14
            clear w_0 u_0
            generalize hgu:y9.heap.size=gu at u_k ul uv uw um gu0 ⊢
            clear hgu
            generalize y9.alloc (.cells #[.int .i64 (-ws),.int .i64 tp24] 29)=x10 at l_k v_k w_k m2_k u_k hb ⊢
            have m3_k:=setRow_heap x10 gm _ #[.int .i64 (s 0 0),.int .i64 (s 0 1),.int .i64 (s 0 2),.int .i64 (s 1 0),.int .i64 (s 1 1),.int .i64 (s 1 2),.int .i64 (s 2 0),.int .i64 (s 2 1),.int .i64 (s 2 2),.int .i64 (s 3 0),.int .i64 (s 3 1),.int .i64 (s 3 2),.int .i64 (s 4 0),.int .i64 (s 4 1),.int .i64 (s 4 2)] _ _ m2_k
            replace l_k:=(setRow_other x10 gm _ #[.int .i64 (s 0 0),.int .i64 (s 0 1),.int .i64 (s 0 2),.int .i64 (s 1 0),.int .i64 (s 1 1),.int .i64 (s 1 2),.int .i64 (s 2 0),.int .i64 (s 2 1),.int .i64 (s 2 2),.int .i64 (s 3 0),.int .i64 (s 3 1),.int .i64 (s 3 2),.int .i64 (s 4 0),.int .i64 (s 4 1),.int .i64 (s 4 2)] nl).trans l_k
            replace v_k:=(setRow_other x10 gm _ #[.int .i64 (s 0 0),.int .i64 (s 0 1),.int .i64 (s 0 2),.int .i64 (s 1 0),.int .i64 (s 1 1),.int .i64 (s 1 2),.int .i64 (s 2 0),.int .i64 (s 2 1),.int .i64 (s 2 2),.int .i64 (s 3 0),.int .i64 (s 3 1),.int .i64 (s 3 2),.int .i64 (s 4 0),.int .i64 (s 4 1),.int .i64 (s 4 2)] nv).trans v_k
            replace w_k:=(setRow_other x10 gm _ #[.int .i64 (s 0 0),.int .i64 (s 0 1),.int .i64 (s 0 2),.int .i64 (s 1 0),.int .i64 (s 1 1),.int .i64 (s 1 2),.int .i64 (s 2 0),.int .i64 (s 2 1),.int .i64 (s 2 2),.int .i64 (s 3 0),.int .i64 (s 3 1),.int .i64 (s 3 2),.int .i64 (s 4 0),.int .i64 (s 4 1),.int .i64 (s 4 2)] nw).trans w_k
            replace u_k:=(setRow_other x10 gm _ #[.int .i64 (s 0 0),.int .i64 (s 0 1),.int .i64 (s 0 2),.int .i64 (s 1 0),.int .i64 (s 1 1),.int .i64 (s 1 2),.int .i64 (s 2 0),.int .i64 (s 2 1),.int .i64 (s 2 2),.int .i64 (s 3 0),.int .i64 (s 3 1),.int .i64 (s 3 2),.int .i64 (s 4 0),.int .i64 (s 4 1),.int .i64 (s 4 2)] um.symm).trans u_k
            replace hb:Below w.heap.size w (x10.setRow gm #[.int .i64 (s 0 0),.int .i64 (s 0 1),.int .i64 (s 0 2),.int .i64 (s 1 0),.int .i64 (s 1 1),.int .i64 (s 1 2),.int .i64 (s 2 0),.int .i64 (s 2 1),.int .i64 (s 2 2),.int .i64 (s 3 0),.int .i64 (s 3 1),.int .i64 (s 3 2),.int .i64 (s 4 0),.int .i64 (s 4 1),.int .i64 (s 4 2)]):=hb.trans ⟨rfl,rfl,rfl,by simp [World.setRow],fun k hk=>setRow_other _ _ _ _ (by omega)⟩
            clear m2_k
            generalize (x10.setRow gm #[.int .i64 (s 0 0),.int .i64 (s 0 1),.int .i64 (s 0 2),.int .i64 (s 1 0),.int .i64 (s 1 1),.int .i64 (s 1 2),.int .i64 (s 2 0),.int .i64 (s 2 1),.int .i64 (s 2 2),.int .i64 (s 3 0),.int .i64 (s 3 1),.int .i64 (s 3 2),.int .i64 (s 4 0),.int .i64 (s 4 1),.int .i64 (s 4 2)])=x11 at l_k v_k w_k u_k m3_k hb ⊢
            have q0:=blkC m3_k 0 rfl
            have q1:=blkC m3_k 1 rfl
            have q2:=blkC m3_k 2 rfl
            have q3:=blkC m3_k 3 rfl
            have q4:=blkC m3_k 4 rfl
            have q5:=blkC m3_k 5 rfl
            have q6:=blkC m3_k 6 rfl
            have q7:=blkC m3_k 7 rfl
            have q8:=blkC m3_k 8 rfl
            have q9:=blkC m3_k 9 rfl
            have q10:=blkC m3_k 10 rfl
            have q11:=blkC m3_k 11 rfl
            have q12:=blkC m3_k 12 rfl
            have q13:=blkC m3_k 13 rfl
            have q14:=blkC m3_k 14 rfl
            have z6:=blkF m3_k 6
            have z7:=blkF m3_k 7
            have z8:=blkF m3_k 8
            go_wp2_with fail
            clear q0 q1 q2 q3 q4 q5 q6 q7 q8 q9 q10 q11 q12 q13 q14
            clear z6 z7 z8
            have m4_k:(((x11.setCell ⟨gm,6,none⟩ (.int .i64 (s 4 0))).setCell ⟨gm,7,none⟩ (.int .i64 (s 4 1))).setCell ⟨gm,8,none⟩ (.int .i64 (s 4 2))).heap[gm]?=some (.cells #[.int .i64 (s 0 0),.int .i64 (s 0 1),.int .i64 (s 0 2),.int .i64 (s 1 0),.int .i64 (s 1 1),.int .i64 (s 1 2),.int .i64 (s 4 0),.int .i64 (s 4 1),.int .i64 (s 4 2),.int .i64 (s 3 0),.int .i64 (s 3 1),.int .i64 (s 3 2),.int .i64 (s 4 0),.int .i64 (s 4 1),.int .i64 (s 4 2)] 24 (0,0)):=heap_set (heap_set (heap_set m3_k 6 (.int .i64 (s 4 0))) 7 (.int .i64 (s 4 1))) 8 (.int .i64 (s 4 2))
            replace l_k:=heap_ne (heap_ne (heap_ne l_k nl 6 (.int .i64 (s 4 0))) nl 7 (.int .i64 (s 4 1))) nl 8 (.int .i64 (s 4 2))
            replace v_k:=heap_ne (heap_ne (heap_ne v_k nv 6 (.int .i64 (s 4 0))) nv 7 (.int .i64 (s 4 1))) nv 8 (.int .i64 (s 4 2))
            replace w_k:=heap_ne (heap_ne (heap_ne w_k nw 6 (.int .i64 (s 4 0))) nw 7 (.int .i64 (s 4 1))) nw 8 (.int .i64 (s 4 2))
            replace u_k:=heap_ne (heap_ne (heap_ne u_k um.symm 6 (.int .i64 (s 4 0))) um.symm 7 (.int .i64 (s 4 1))) um.symm 8 (.int .i64 (s 4 2))
            replace hb:=((hb.setCell (p:=⟨gm,6,none⟩) gm0 (.int .i64 (s 4 0))).setCell (p:=⟨gm,7,none⟩) gm0 (.int .i64 (s 4 1))).setCell (p:=⟨gm,8,none⟩) gm0 (.int .i64 (s 4 2))
            clear m3_k
            generalize ((x11.setCell ⟨gm,6,none⟩ (.int .i64 (s 4 0))).setCell ⟨gm,7,none⟩ (.int .i64 (s 4 1))).setCell ⟨gm,8,none⟩ (.int .i64 (s 4 2))=x12 at l_k v_k w_k u_k m4_k hb ⊢
            refine (CD24.out _ hb).mono ?_
            rintro _ y11 ⟨rfl,h11⟩
            replace l_k:=blk_us h11 l_k
            replace v_k:=blk_us h11 v_k
            replace w_k:=blk_us h11 w_k
            replace u_k:=blk_us h11 u_k
            replace hb:=bel_trans hb h11
            clear h11 m4_k
            have u_0:=blkC u_k 0 rfl
            have u_1:=blkC u_k 1 rfl
            have u_2:=blkF u_k 0
            have u_3:=blkF u_k 1
            go_wp2_with fail
            clear u_0 u_1 u_2 u_3
            have u2_k:((y11.setCell ⟨gu,0,none⟩ (.int .i64 0)).setCell ⟨gu,1,none⟩ (.int .i64 td24)).heap[gu]?=some (.cells #[.int .i64 0,.int .i64 td24] 29 (0,0)):=heap_set (heap_set u_k 0 (.int .i64 0)) 1 (.int .i64 td24)
            replace l_k:=heap_ne (heap_ne l_k ul 0 (.int .i64 0)) ul 1 (.int .i64 td24)
            replace v_k:=heap_ne (heap_ne v_k uv 0 (.int .i64 0)) uv 1 (.int .i64 td24)
            replace w_k:=heap_ne (heap_ne w_k uw 0 (.int .i64 0)) uw 1 (.int .i64 td24)
            clear u_k
            replace hb:=(hb.setCell (p:=⟨gu,0,none⟩) gu0 (.int .i64 0)).setCell (p:=⟨gu,1,none⟩) gu0 (.int .i64 td24)
            generalize (y11.setCell ⟨gu,0,none⟩ (.int .i64 0)).setCell ⟨gu,1,none⟩ (.int .i64 td24)=x13 at l_k v_k w_k u2_k hb ⊢
            have u_0:=blkC u2_k 0 rfl
            go_wp2_with (first | (go_at_call 11; refine (CN.out _).mono ?_; rintro _ _ ⟨rfl,rfl⟩))
            go_roundw
            case rel=>exact ⟨hb,l_k,v_k,w_k,.inr (.inr ((by go_num)))⟩
            case measure=>simp [intOf]
          . go_wp2
            go_roundw
            case rel=>exact ⟨hb,l_k,v_k,w_k,.inr (.inr (.inr (.inl (by go_num))))⟩
            case measure=>simp [intOf]
      . go_wp2_with fail
        go_loopw [14] (fun j wr=>Below w.heap.size w wr∧wr.heap[w.heap.size]?=some (.cells #[.int .i64 (s 0 0),.int .i64 (s 0 1),.int .i64 (s 0 2),.int .i64 (s 1 0),.int .i64 (s 1 1),.int .i64 (s 1 2),.int .i64 (s 2 0),.int .i64 (s 2 1),.int .i64 (s 2 2),.int .i64 (s 3 0),.int .i64 (s 3 1),.int .i64 (s 3 2),.int .i64 (s 4 0),.int .i64 (s 4 1),.int .i64 (s 4 2)] 24 (0,0))∧wr.heap[gv]?=some (.cells #[.int .i64 vs,.int .i64 st] 29 (0,0))∧wr.heap[gw]?=some (.cells #[.int .i64 ws,.int .i64 sv] 29 (0,0))∧(j=.int .i64 4∨j=.int .i64 5)) (fun j _=>5-(intOf j).toNat)
        case atStart=>exact ⟨hb,l_k,v_k,w_k,.inl (by go_num)⟩
        case round=>
          clear hb l_k v_k w_k
          obtain ⟨hb,l_k,v_k,w_k,hrel⟩:=hrel
          have hl0:=(Array.getElem?_eq_some_iff.1 l_k).1
          have hv0:=(Array.getElem?_eq_some_iff.1 v_k).1
          have hw0:=(Array.getElem?_eq_some_iff.1 w_k).1
          rcases hrel with rfl | rfl
          . skip
            try clear CA
            try clear CG
            try clear CS
            try clear CP
            try clear CX
            try clear CY
            try clear CP01
            try clear CD01
            try clear CS01
            try clear CP02
            try clear CD02
            try clear CS02
            try clear CP03
            try clear CD03
            try clear CS03
            try clear CP04
            try clear CD04
            try clear CP12
            try clear CD12
            try clear CS12
            try clear CP13
            try clear CD13
            try clear CS13
            try clear CP14
            try clear CD14
            try clear CP23
            try clear CD23
            try clear CS23
            try clear CP24
            try clear CD24
            have f0:=blkC l_k 0 rfl
            have f1:=blkC l_k 1 rfl
            have f2:=blkC l_k 2 rfl
            have f3:=blkC l_k 3 rfl
            have f4:=blkC l_k 4 rfl
            have f5:=blkC l_k 5 rfl
            have f6:=blkC l_k 6 rfl
            have f7:=blkC l_k 7 rfl
            have f8:=blkC l_k 8 rfl
            have f9:=blkC l_k 9 rfl
            have f10:=blkC l_k 10 rfl
            have f11:=blkC l_k 11 rfl
            have f12:=blkC l_k 12 rfl
            have f13:=blkC l_k 13 rfl
            have f14:=blkC l_k 14 rfl
            go_wp2_with fail
            clear f0 f1 f2 f3 f4 f5 f6 f7 f8 f9 f10 f11 f12 f13 f14
            replace l_k:=heap_past (.cells #[.int .i64 (s 0 0),.int .i64 (s 0 1),.int .i64 (s 0 2),.int .i64 (s 1 0),.int .i64 (s 1 1),.int .i64 (s 1 2),.int .i64 (s 2 0),.int .i64 (s 2 1),.int .i64 (s 2 2),.int .i64 (s 3 0),.int .i64 (s 3 1),.int .i64 (s 3 2),.int .i64 (s 4 0),.int .i64 (s 4 1),.int .i64 (s 4 2)] 24) l_k
            replace v_k:=heap_past (.cells #[.int .i64 (s 0 0),.int .i64 (s 0 1),.int .i64 (s 0 2),.int .i64 (s 1 0),.int .i64 (s 1 1),.int .i64 (s 1 2),.int .i64 (s 2 0),.int .i64 (s 2 1),.int .i64 (s 2 2),.int .i64 (s 3 0),.int .i64 (s 3 1),.int .i64 (s 3 2),.int .i64 (s 4 0),.int .i64 (s 4 1),.int .i64 (s 4 2)] 24) v_k
            replace w_k:=heap_past (.cells #[.int .i64 (s 0 0),.int .i64 (s 0 1),.int .i64 (s 0 2),.int .i64 (s 1 0),.int .i64 (s 1 1),.int .i64 (s 1 2),.int .i64 (s 2 0),.int .i64 (s 2 1),.int .i64 (s 2 2),.int .i64 (s 3 0),.int .i64 (s 3 1),.int .i64 (s 3 2),.int .i64 (s 4 0),.int .i64 (s 4 1),.int .i64 (s 4 2)] 24) w_k
            have m_k:=heap_a1 wr (.cells #[.int .i64 (s 0 0),.int .i64 (s 0 1),.int .i64 (s 0 2),.int .i64 (s 1 0),.int .i64 (s 1 1),.int .i64 (s 1 2),.int .i64 (s 2 0),.int .i64 (s 2 1),.int .i64 (s 2 2),.int .i64 (s 3 0),.int .i64 (s 3 1),.int .i64 (s 3 2),.int .i64 (s 4 0),.int .i64 (s 4 1),.int .i64 (s 4 2)] 24)
            replace hb:=bel_trans hb (bel_alloc wr (.cells #[.int .i64 (s 0 0),.int .i64 (s 0 1),.int .i64 (s 0 2),.int .i64 (s 1 0),.int .i64 (s 1 1),.int .i64 (s 1 2),.int .i64 (s 2 0),.int .i64 (s 2 1),.int .i64 (s 2 2),.int .i64 (s 3 0),.int .i64 (s 3 1),.int .i64 (s 3 2),.int .i64 (s 4 0),.int .i64 (s 4 1),.int .i64 (s 4 2)] 24))
            have nl:w.heap.size≠wr.heap.size:=by have:=(Array.getElem?_eq_some_iff.1 l_k).1; have:=hl0; omega
            have nv:gv≠wr.heap.size:=by have:=hv0; omega
            have nw:gw≠wr.heap.size:=by have:=hw0; omega
            have gm0:w.heap.size<=wr.heap.size:=by have:=hl0; omega
            generalize hgm:wr.heap.size=gm at m_k nl nv nw gm0 ⊢
            clear hgm hl0 hv0 hw0
            generalize wr.alloc (.cells #[.int .i64 (s 0 0),.int .i64 (s 0 1),.int .i64 (s 0 2),.int .i64 (s 1 0),.int .i64 (s 1 1),.int .i64 (s 1 2),.int .i64 (s 2 0),.int .i64 (s 2 1),.int .i64 (s 2 2),.int .i64 (s 3 0),.int .i64 (s 3 1),.int .i64 (s 3 2),.int .i64 (s 4 0),.int .i64 (s 4 1),.int .i64 (s 4 2)] 24)=xm at l_k v_k w_k m_k hb ⊢
            have m1_k:(((xm.setCell ⟨gm,9,none⟩ (.int .i64 (s 4 0))).setCell ⟨gm,10,none⟩ (.int .i64 (s 4 1))).setCell ⟨gm,11,none⟩ (.int .i64 (s 4 2))).heap[gm]?=some (.cells #[.int .i64 (s 0 0),.int .i64 (s 0 1),.int .i64 (s 0 2),.int .i64 (s 1 0),.int .i64 (s 1 1),.int .i64 (s 1 2),.int .i64 (s 2 0),.int .i64 (s 2 1),.int .i64 (s 2 2),.int .i64 (s 4 0),.int .i64 (s 4 1),.int .i64 (s 4 2),.int .i64 (s 4 0),.int .i64 (s 4 1),.int .i64 (s 4 2)] 24 (0,0)):=heap_set (heap_set (heap_set m_k 9 (.int .i64 (s 4 0))) 10 (.int .i64 (s 4 1))) 11 (.int .i64 (s 4 2))
            have m2_k:((((((xm.setCell ⟨gm,9,none⟩ (.int .i64 (s 4 0))).setCell ⟨gm,10,none⟩ (.int .i64 (s 4 1))).setCell ⟨gm,11,none⟩ (.int .i64 (s 4 2))).setCell ⟨gm,12,none⟩ (.int .i64 (s 3 0))).setCell ⟨gm,13,none⟩ (.int .i64 (s 3 1))).setCell ⟨gm,14,none⟩ (.int .i64 (s 3 2))).heap[gm]?=some (.cells #[.int .i64 (s 0 0),.int .i64 (s 0 1),.int .i64 (s 0 2),.int .i64 (s 1 0),.int .i64 (s 1 1),.int .i64 (s 1 2),.int .i64 (s 2 0),.int .i64 (s 2 1),.int .i64 (s 2 2),.int .i64 (s 4 0),.int .i64 (s 4 1),.int .i64 (s 4 2),.int .i64 (s 3 0),.int .i64 (s 3 1),.int .i64 (s 3 2)] 24 (0,0)):=heap_set (heap_set (heap_set m1_k 12 (.int .i64 (s 3 0))) 13 (.int .i64 (s 3 1))) 14 (.int .i64 (s 3 2))
            have q9:=blkC m_k 9 rfl
            have z9:=blkF m_k 9
            have q10:=blkC m_k 10 rfl
            have z10:=blkF m_k 10
            have q11:=blkC m_k 11 rfl
            have z11:=blkF m_k 11
            have q12:=blkC m_k 12 rfl
            have z12:=blkF m_k 12
            have q13:=blkC m_k 13 rfl
            have z13:=blkF m_k 13
            have q14:=blkC m_k 14 rfl
            have z14:=blkF m_k 14
            have p12:=blkC m1_k 12 rfl
            have y12:=blkF m1_k 12
            have p13:=blkC m1_k 13 rfl
            have y13:=blkF m1_k 13
            have p14:=blkC m1_k 14 rfl
            have y14:=blkF m1_k 14
            go_region
            clear q9 z9 q10 z10 q11 z11 q12 z12 q13 z13 q14 z14
            clear p12 y12 p13 y13 p14 y14
            replace l_k:=heap_ne (heap_ne (heap_ne (heap_ne (heap_ne (heap_ne l_k nl 9 (.int .i64 (s 4 0))) nl 10 (.int .i64 (s 4 1))) nl 11 (.int .i64 (s 4 2))) nl 12 (.int .i64 (s 3 0))) nl 13 (.int .i64 (s 3 1))) nl 14 (.int .i64 (s 3 2))
            replace v_k:=heap_ne (heap_ne (heap_ne (heap_ne (heap_ne (heap_ne v_k nv 9 (.int .i64 (s 4 0))) nv 10 (.int .i64 (s 4 1))) nv 11 (.int .i64 (s 4 2))) nv 12 (.int .i64 (s 3 0))) nv 13 (.int .i64 (s 3 1))) nv 14 (.int .i64 (s 3 2))
            replace w_k:=heap_ne (heap_ne (heap_ne (heap_ne (heap_ne (heap_ne w_k nw 9 (.int .i64 (s 4 0))) nw 10 (.int .i64 (s 4 1))) nw 11 (.int .i64 (s 4 2))) nw 12 (.int .i64 (s 3 0))) nw 13 (.int .i64 (s 3 1))) nw 14 (.int .i64 (s 3 2))
            clear m_k m1_k
            replace hb:=(((((hb.setCell (p:=⟨gm,9,none⟩) gm0 (.int .i64 (s 4 0))).setCell (p:=⟨gm,10,none⟩) gm0 (.int .i64 (s 4 1))).setCell (p:=⟨gm,11,none⟩) gm0 (.int .i64 (s 4 2))).setCell (p:=⟨gm,12,none⟩) gm0 (.int .i64 (s 3 0))).setCell (p:=⟨gm,13,none⟩) gm0 (.int .i64 (s 3 1))).setCell (p:=⟨gm,14,none⟩) gm0 (.int .i64 (s 3 2))
            generalize (((((xm.setCell ⟨gm,9,none⟩ (.int .i64 (s 4 0))).setCell ⟨gm,10,none⟩ (.int .i64 (s 4 1))).setCell ⟨gm,11,none⟩ (.int .i64 (s 4 2))).setCell ⟨gm,12,none⟩ (.int .i64 (s 3 0))).setCell ⟨gm,13,none⟩ (.int .i64 (s 3 1))).setCell ⟨gm,14,none⟩ (.int .i64 (s 3 2))=x8 at l_k v_k w_k m2_k hb ⊢
            have hD:=(bel_refl x8).drew
            replace l_k:=blk_us hD l_k
            replace v_k:=blk_us hD v_k
            replace w_k:=blk_us hD w_k
            replace m2_k:=blk_us hD m2_k
            replace hb:=bel_trans hb hD
            clear hD
            generalize x8.drew=x8 at l_k v_k w_k m2_k hb ⊢
            have q0:=blkC m2_k 0 rfl
            have q1:=blkC m2_k 1 rfl
            have q2:=blkC m2_k 2 rfl
            have q3:=blkC m2_k 3 rfl
            have q4:=blkC m2_k 4 rfl
            have q5:=blkC m2_k 5 rfl
            have q6:=blkC m2_k 6 rfl
            have q7:=blkC m2_k 7 rfl
            have q8:=blkC m2_k 8 rfl
            have q9:=blkC m2_k 9 rfl
            have q10:=blkC m2_k 10 rfl
            have q11:=blkC m2_k 11 rfl
            have q12:=blkC m2_k 12 rfl
            have q13:=blkC m2_k 13 rfl
            have q14:=blkC m2_k 14 rfl
            go_wp2_with fail
            clear q0 q1 q2 q3 q4 q5 q6 q7 q8 q9 q10 q11 q12 q13 q14
            refine (CP34.out _ hb).mono ?_
            rintro _ y9 ⟨rfl,h9⟩
            have hl0:=(Array.getElem?_eq_some_iff.1 (blk_us h9 l_k)).1
            have hv0:=(Array.getElem?_eq_some_iff.1 (blk_us h9 v_k)).1
            have hw0:=(Array.getElem?_eq_some_iff.1 (blk_us h9 w_k)).1
            have hm0:=(Array.getElem?_eq_some_iff.1 (blk_us h9 m2_k)).1
            have ul:w.heap.size≠y9.heap.size:=by omega
            have uv:gv≠y9.heap.size:=by omega
            have uw:gw≠y9.heap.size:=by omega
            have um:gm≠y9.heap.size:=by omega
            have gu0:w.heap.size<=y9.heap.size:=by omega
            clear hl0 hv0 hw0 hm0
            replace l_k:=heap_past (.cells #[.int .i64 (-ws),.int .i64 tp34] 29) (blk_us h9 l_k)
            replace v_k:=heap_past (.cells #[.int .i64 (-ws),.int .i64 tp34] 29) (blk_us h9 v_k)
            replace w_k:=heap_past (.cells #[.int .i64 (-ws),.int .i64 tp34] 29) (blk_us h9 w_k)
            replace m2_k:=heap_past (.cells #[.int .i64 (-ws),.int .i64 tp34] 29) (blk_us h9 m2_k)
            have u_k:=heap_a1 y9 (.cells #[.int .i64 (-ws),.int .i64 tp34] 29)
            replace hb:=bel_trans hb (bel_trans h9 (bel_alloc y9 (.cells #[.int .i64 (-ws),.int .i64 tp34] 29)))
            clear h9
            have w_0:=blkC w_k 0 rfl
            have u_0:=blkC u_k 0 rfl
            have f0:=blkC l_k 0 rfl
            have f1:=blkC l_k 1 rfl
            have f2:=blkC l_k 2 rfl
            have f3:=blkC l_k 3 rfl
            have f4:=blkC l_k 4 rfl
            have f5:=blkC l_k 5 rfl
            have f6:=blkC l_k 6 rfl
            have f7:=blkC l_k 7 rfl
            have f8:=blkC l_k 8 rfl
            have f9:=blkC l_k 9 rfl
            have f10:=blkC l_k 10 rfl
            have f11:=blkC l_k 11 rfl
            have f12:=blkC l_k 12 rfl
            have f13:=blkC l_k 13 rfl
            have f14:=blkC l_k 14 rfl
            dsimp only
            have hGo:Hid True:=trivial
            repeat (have _q:=hGo; clear _q; first | (refine wp_store_row 24 _ _ rfl gm #[.int .i64 (s 0 0),.int .i64 (s 0 1),.int .i64 (s 0 2),.int .i64 (s 1 0),.int .i64 (s 1 1),.int .i64 (s 1 2),.int .i64 (s 2 0),.int .i64 (s 2 1),.int .i64 (s 2 2),.int .i64 (s 3 0),.int .i64 (s 3 1),.int .i64 (s 3 2),.int .i64 (s 4 0),.int .i64 (s 4 1),.int .i64 (s 4 2)] rfl rfl _ _ m2_k (by kernel_rfl) rfl (by kernel_rfl) ?_; clear hGo; dsimp only [Act.put]) | (go_at_call 11; refine (CN.out _).mono ?_; rintro _ _ ⟨rfl,rfl⟩; dsimp only) | go_step)
            clear f0 f1 f2 f3 f4 f5 f6 f7 f8 f9 f10 f11 f12 f13 f14
            clear w_0 u_0
            generalize hgu:y9.heap.size=gu at u_k ul uv uw um gu0 ⊢
            clear hgu
            generalize y9.alloc (.cells #[.int .i64 (-ws),.int .i64 tp34] 29)=x10 at l_k v_k w_k m2_k u_k hb ⊢
            have m3_k:=setRow_heap x10 gm _ #[.int .i64 (s 0 0),.int .i64 (s 0 1),.int .i64 (s 0 2),.int .i64 (s 1 0),.int .i64 (s 1 1),.int .i64 (s 1 2),.int .i64 (s 2 0),.int .i64 (s 2 1),.int .i64 (s 2 2),.int .i64 (s 3 0),.int .i64 (s 3 1),.int .i64 (s 3 2),.int .i64 (s 4 0),.int .i64 (s 4 1),.int .i64 (s 4 2)] _ _ m2_k
            replace l_k:=(setRow_other x10 gm _ #[.int .i64 (s 0 0),.int .i64 (s 0 1),.int .i64 (s 0 2),.int .i64 (s 1 0),.int .i64 (s 1 1),.int .i64 (s 1 2),.int .i64 (s 2 0),.int .i64 (s 2 1),.int .i64 (s 2 2),.int .i64 (s 3 0),.int .i64 (s 3 1),.int .i64 (s 3 2),.int .i64 (s 4 0),.int .i64 (s 4 1),.int .i64 (s 4 2)] nl).trans l_k
            replace v_k:=(setRow_other x10 gm _ #[.int .i64 (s 0 0),.int .i64 (s 0 1),.int .i64 (s 0 2),.int .i64 (s 1 0),.int .i64 (s 1 1),.int .i64 (s 1 2),.int .i64 (s 2 0),.int .i64 (s 2 1),.int .i64 (s 2 2),.int .i64 (s 3 0),.int .i64 (s 3 1),.int .i64 (s 3 2),.int .i64 (s 4 0),.int .i64 (s 4 1),.int .i64 (s 4 2)] nv).trans v_k
            replace w_k:=(setRow_other x10 gm _ #[.int .i64 (s 0 0),.int .i64 (s 0 1),.int .i64 (s 0 2),.int .i64 (s 1 0),.int .i64 (s 1 1),.int .i64 (s 1 2),.int .i64 (s 2 0),.int .i64 (s 2 1),.int .i64 (s 2 2),.int .i64 (s 3 0),.int .i64 (s 3 1),.int .i64 (s 3 2),.int .i64 (s 4 0),.int .i64 (s 4 1),.int .i64 (s 4 2)] nw).trans w_k
            replace u_k:=(setRow_other x10 gm _ #[.int .i64 (s 0 0),.int .i64 (s 0 1),.int .i64 (s 0 2),.int .i64 (s 1 0),.int .i64 (s 1 1),.int .i64 (s 1 2),.int .i64 (s 2 0),.int .i64 (s 2 1),.int .i64 (s 2 2),.int .i64 (s 3 0),.int .i64 (s 3 1),.int .i64 (s 3 2),.int .i64 (s 4 0),.int .i64 (s 4 1),.int .i64 (s 4 2)] um.symm).trans u_k
            replace hb:Below w.heap.size w (x10.setRow gm #[.int .i64 (s 0 0),.int .i64 (s 0 1),.int .i64 (s 0 2),.int .i64 (s 1 0),.int .i64 (s 1 1),.int .i64 (s 1 2),.int .i64 (s 2 0),.int .i64 (s 2 1),.int .i64 (s 2 2),.int .i64 (s 3 0),.int .i64 (s 3 1),.int .i64 (s 3 2),.int .i64 (s 4 0),.int .i64 (s 4 1),.int .i64 (s 4 2)]):=hb.trans ⟨rfl,rfl,rfl,by simp [World.setRow],fun k hk=>setRow_other _ _ _ _ (by omega)⟩
            clear m2_k
            generalize (x10.setRow gm #[.int .i64 (s 0 0),.int .i64 (s 0 1),.int .i64 (s 0 2),.int .i64 (s 1 0),.int .i64 (s 1 1),.int .i64 (s 1 2),.int .i64 (s 2 0),.int .i64 (s 2 1),.int .i64 (s 2 2),.int .i64 (s 3 0),.int .i64 (s 3 1),.int .i64 (s 3 2),.int .i64 (s 4 0),.int .i64 (s 4 1),.int .i64 (s 4 2)])=x11 at l_k v_k w_k u_k m3_k hb ⊢
            have q0:=blkC m3_k 0 rfl
            have q1:=blkC m3_k 1 rfl
            have q2:=blkC m3_k 2 rfl
            have q3:=blkC m3_k 3 rfl
            have q4:=blkC m3_k 4 rfl
            have q5:=blkC m3_k 5 rfl
            have q6:=blkC m3_k 6 rfl
            have q7:=blkC m3_k 7 rfl
            have q8:=blkC m3_k 8 rfl
            have q9:=blkC m3_k 9 rfl
            have q10:=blkC m3_k 10 rfl
            have q11:=blkC m3_k 11 rfl
            have q12:=blkC m3_k 12 rfl
            have q13:=blkC m3_k 13 rfl
            have q14:=blkC m3_k 14 rfl
            have z9:=blkF m3_k 9
            have z10:=blkF m3_k 10
            have z11:=blkF m3_k 11
            go_wp2_with fail
            clear q0 q1 q2 q3 q4 q5 q6 q7 q8 q9 q10 q11 q12 q13 q14
            clear z9 z10 z11
            have m4_k:(((x11.setCell ⟨gm,9,none⟩ (.int .i64 (s 4 0))).setCell ⟨gm,10,none⟩ (.int .i64 (s 4 1))).setCell ⟨gm,11,none⟩ (.int .i64 (s 4 2))).heap[gm]?=some (.cells #[.int .i64 (s 0 0),.int .i64 (s 0 1),.int .i64 (s 0 2),.int .i64 (s 1 0),.int .i64 (s 1 1),.int .i64 (s 1 2),.int .i64 (s 2 0),.int .i64 (s 2 1),.int .i64 (s 2 2),.int .i64 (s 4 0),.int .i64 (s 4 1),.int .i64 (s 4 2),.int .i64 (s 4 0),.int .i64 (s 4 1),.int .i64 (s 4 2)] 24 (0,0)):=heap_set (heap_set (heap_set m3_k 9 (.int .i64 (s 4 0))) 10 (.int .i64 (s 4 1))) 11 (.int .i64 (s 4 2))
            replace l_k:=heap_ne (heap_ne (heap_ne l_k nl 9 (.int .i64 (s 4 0))) nl 10 (.int .i64 (s 4 1))) nl 11 (.int .i64 (s 4 2))
            replace v_k:=heap_ne (heap_ne (heap_ne v_k nv 9 (.int .i64 (s 4 0))) nv 10 (.int .i64 (s 4 1))) nv 11 (.int .i64 (s 4 2))
            replace w_k:=heap_ne (heap_ne (heap_ne w_k nw 9 (.int .i64 (s 4 0))) nw 10 (.int .i64 (s 4 1))) nw 11 (.int .i64 (s 4 2))
            replace u_k:=heap_ne (heap_ne (heap_ne u_k um.symm 9 (.int .i64 (s 4 0))) um.symm 10 (.int .i64 (s 4 1))) um.symm 11 (.int .i64 (s 4 2))
            replace hb:=((hb.setCell (p:=⟨gm,9,none⟩) gm0 (.int .i64 (s 4 0))).setCell (p:=⟨gm,10,none⟩) gm0 (.int .i64 (s 4 1))).setCell (p:=⟨gm,11,none⟩) gm0 (.int .i64 (s 4 2))
            clear m3_k
            generalize ((x11.setCell ⟨gm,9,none⟩ (.int .i64 (s 4 0))).setCell ⟨gm,10,none⟩ (.int .i64 (s 4 1))).setCell ⟨gm,11,none⟩ (.int .i64 (s 4 2))=x12 at l_k v_k w_k u_k m4_k hb ⊢
            refine (CD34.out _ hb).mono ?_
            rintro _ y11 ⟨rfl,h11⟩
            replace l_k:=blk_us h11 l_k
            replace v_k:=blk_us h11 v_k
            replace w_k:=blk_us h11 w_k
            replace u_k:=blk_us h11 u_k
            replace hb:=bel_trans hb h11
            clear h11 m4_k
            have u_0:=blkC u_k 0 rfl
            have u_1:=blkC u_k 1 rfl
            have u_2:=blkF u_k 0
            have u_3:=blkF u_k 1
            go_wp2_with fail
            clear u_0 u_1 u_2 u_3
            have u2_k:((y11.setCell ⟨gu,0,none⟩ (.int .i64 0)).setCell ⟨gu,1,none⟩ (.int .i64 td34)).heap[gu]?=some (.cells #[.int .i64 0,.int .i64 td34] 29 (0,0)):=heap_set (heap_set u_k 0 (.int .i64 0)) 1 (.int .i64 td34)
            replace l_k:=heap_ne (heap_ne l_k ul 0 (.int .i64 0)) ul 1 (.int .i64 td34)
            replace v_k:=heap_ne (heap_ne v_k uv 0 (.int .i64 0)) uv 1 (.int .i64 td34)
            replace w_k:=heap_ne (heap_ne w_k uw 0 (.int .i64 0)) uw 1 (.int .i64 td34)
            clear u_k
            replace hb:=(hb.setCell (p:=⟨gu,0,none⟩) gu0 (.int .i64 0)).setCell (p:=⟨gu,1,none⟩) gu0 (.int .i64 td34)
            generalize (y11.setCell ⟨gu,0,none⟩ (.int .i64 0)).setCell ⟨gu,1,none⟩ (.int .i64 td34)=x13 at l_k v_k w_k u2_k hb ⊢
            have u_0:=blkC u2_k 0 rfl
            go_wp2_with (first | (go_at_call 11; refine (CN.out _).mono ?_; rintro _ _ ⟨rfl,rfl⟩))
            go_roundw
            case rel=>exact ⟨hb,l_k,v_k,w_k,.inr ((by go_num))⟩
            case measure=>simp [intOf]
          . go_wp2
            go_roundw
            case rel=>exact ⟨hb,l_k,v_k,w_k,.inr (.inr (.inr (.inr (.inl (by go_num)))))⟩
            case measure=>simp [intOf]
      . go_wp2_with fail
        go_loopw [14] (fun j wr=>Below w.heap.size w wr∧wr.heap[w.heap.size]?=some (.cells #[.int .i64 (s 0 0),.int .i64 (s 0 1),.int .i64 (s 0 2),.int .i64 (s 1 0),.int .i64 (s 1 1),.int .i64 (s 1 2),.int .i64 (s 2 0),.int .i64 (s 2 1),.int .i64 (s 2 2),.int .i64 (s 3 0),.int .i64 (s 3 1),.int .i64 (s 3 2),.int .i64 (s 4 0),.int .i64 (s 4 1),.int .i64 (s 4 2)] 24 (0,0))∧wr.heap[gv]?=some (.cells #[.int .i64 vs,.int .i64 st] 29 (0,0))∧wr.heap[gw]?=some (.cells #[.int .i64 ws,.int .i64 sv] 29 (0,0))∧(j=.int .i64 5)) (fun j _=>5-(intOf j).toNat)
        case atStart=>exact ⟨hb,l_k,v_k,w_k,by go_num⟩
        case round=>
          clear hb l_k v_k w_k
          obtain ⟨hb,l_k,v_k,w_k,hrel⟩:=hrel
          have hl0:=(Array.getElem?_eq_some_iff.1 l_k).1
          have hv0:=(Array.getElem?_eq_some_iff.1 v_k).1
          have hw0:=(Array.getElem?_eq_some_iff.1 w_k).1
          rcases hrel with rfl
          . go_wp2
            go_roundw
            case rel=>exact ⟨hb,l_k,v_k,w_k,.inr (.inr (.inr (.inr (.inr ((by go_num))))))⟩
            case measure=>simp [intOf]
      . go_wp2
        go_ret
        exact ⟨rfl,hb⟩
theorem own:ownKnob Tryd.prog.godebug=none:=by kernel_rfl
theorem laidOut:laidOutB Tryd.prog=true:=by kernel_rfl
theorem door_met (os:Os) (args:Array Value):laidMetH Tryd.prog Rows.solidTrueRow.laid ((World.doorLaid Tryd.prog 400 os).forCall (fun _ _=>0) ⟨#[],args,[]⟩).memory :=
  laidMetH_of_parts3 (fuel:=8) (laidMet_of_run' 8 (by kernel_rfl) (by kernel_rfl)) (by kernel_rfl) (by kernel_rfl)
set_option maxRecDepth 100000 in
theorem lifted (os:Os) (started:os.Started) (H:Type) (enc:TypeId × Value->H) :
    ReturnsInHanded {} Tryd.checked os 3 .any (fun w args=>(Rows.solidTrueSpec.pre enc Tryd.prog Tryd.f3 [] false w args∧laidMetH Tryd.prog Rows.solidTrueRow.laid w)∧sizedMet enc Tryd.prog Tryd.f3 (OpenSpec.ofChange Rows.solidTrueSpec) false w args)
      (Rows.solidTrueSpec.post enc Tryd.prog Tryd.f3 false true false false):=by
  refine returnsInHanded_of_change_and (C:=Tryd.checked) (X:=fun w _=>laidMetH Tryd.prog Rows.solidTrueRow.laid w) (fun _ _ _ hh h=>h.of_heap hh) own started (by kernel_rfl) Tryd.func3
    (ChangeSpec.witness_shaped (enc:=enc) (C:=Tryd.checked) (os:=os) (X:=fun w _=>laidMetH Tryd.prog Rows.solidTrueRow.laid w) false (World.doorLaid Tryd.prog 400 os) #[.agg #[.int .i64 0,.int .i64 0,.int .i64 0,.int .i64 0,.int .i64 0,.int .i64 0,.int .i64 0,.int .i64 0,.int .i64 0,.int .i64 0,.int .i64 0,.int .i64 0,.int .i64 0,.int .i64 0,.int .i64 0]] 8 rfl (World.shaped_of_RefB (by kernel_rfl) (by kernel_rfl)) (by kernel_rfl) (by kernel_rfl) (by kernel_rfl) (door_met os _)) ?_
  intro W base args ds gs before hval0 hW _ _ hL _
  have hval:∀ (j:Nat) t v,Tryd.f3.params[j]?=some t->args[j]?=some v->Value.okWide Tryd.prog W .any base t v:=hval0
  have hW':=hW
  obtain ⟨p,q,hA0,hV,rfl,hfz,hnd⟩:=hW
  have hA:DataW.TrodAll enc Tryd.prog W 0 (fun _=>true) true Tryd.f3.params.toList args.toList ds p:=hA0
  rw [Tryd.params3] at hA hval
  obtain ⟨v0,vs0,d0,ds0,p0,q0,hargs,rfl,rfl,h0,r0⟩:=trodAll_cons hA
  obtain ⟨rfl,rfl,rfl⟩:=trodAll_nil r0
  obtain rfl:args=#[v0]:=by cases args; simp_all
  obtain ⟨rfl,rfl⟩:=trodVars_none hV
  have k0:=h0
  have lt0:∀ x ∈ p0,x.block<W.heap.size:=by obtain ⟨m,hm⟩:=k0; exact DataW.trod_lt m _ _ _ hm
  obtain ⟨x0,rfl,w0⟩:=spaces5_of (hval 0 24 v0 rfl rfl) h0
  clear hA0 hval0
  refine (walk x0 W w0 (hold9_of hL)).mono fun e W' ⟨he,bel⟩=>?_
  subst he
  exact ⟨_,rfl,_,_,_,[],_,[],hW',trodAll_mk1 (shut_bool Tryd.underlying4 _),(trodAll_cons_mk (Below.trod laidOut (by kernel_rfl) (of_decide_eq_true (by kernel_rfl)) k0 bel lt0) trodAll_mk0),rfl,bel.frame _,fun h=>by cases h⟩
theorem said:Rows.SolidTrueSaid :=
  OpenClaim.holds_of_wide 3 Tryd.f3 rfl rfl rfl rfl rfl rfl rfl ⟨rfl,rfl,rfl,rfl,rfl⟩ rfl rfl rfl rfl rfl (by kernel_rfl) Tryd.func3 (by kernel_rfl)
    (of_decide_eq_true (by kernel_rfl)) (by unfold Func.isWrapper; first | (rw [if_pos (by decide +kernel)]; kernel_rfl) | (rw [if_neg (by decide +kernel)]; exact ⟨rfl,rfl⟩))
    (fun os started H enc _=>lifted os started H enc)
theorem plain (f:FuncId) (fn:Func) (hf:Tryd.pinned.checked.prog.funcNamed Tryd.f3.name=some f) (hfn:Tryd.pinned.checked.prog.funcs[f]?=some fn) :
    true=Tryd.pinned.checked.prog.looks []∧∀ (j:Nat) t,fn.params[j]?=some t->Tryd.pinned.checked.prog.wantsStandIn t=false:=by
  obtain rfl:f=3:=Option.some.inj ((show Tryd.prog.funcNamed Tryd.f3.name=some 3 by kernel_rfl).symm.trans hf) |>.symm
  obtain rfl:fn=Tryd.f3:=(Option.some.inj (Tryd.func3.symm.trans hfn)).symm
  refine ⟨by kernel_rfl,fun j t ht=>?_⟩
  rw [Tryd.params3] at ht
  obtain rfl:t=24:=by simpa using Array.mem_of_getElem? ht
  exact (show Tryd.prog.wantsStandIn 24=false by kernel_rfl)
theorem card:Rows.SolidTrueCardSaid :=
  Claim7.holds_tied_plain_at .later [] _ _ _ _ said (fun _ h=>by cases h) (by kernel_rfl) (fun _ h=>by cases h) solidTrue_row_tie rfl ⟨rfl,rfl⟩ (by kernel_rfl) rfl plain (by kernel_rfl)
end Go.Proofs.YtobofhgpidbpmaaDoor.solidTrue
namespace Go.Proofs.YtobofhgpidbpmaaDoor
theorem solidTrue_holds:Rows.SolidTrueCardSaid:=solidTrue.card
end Go.Proofs.YtobofhgpidbpmaaDoor
