/-
  SolidTrue's walk up to the ten rounds, which it leaves as statements.
-/
import Derived.Test.YtobofhgpidbpmaaDoorSt20
import Derived.Deep.WholeRow
set_option linter.unusedVariables false
set_option linter.unusedSimpArgs false
namespace Go.Proofs.YtobofhgpidbpmaaDoor.solidTrue
open Go Go.ChangeShapes Go.WideShapes Go.ChangeAt Go.RowKit Go.Proofs.YtobofhgpidbpmaaDoor Go.Proofs.YtobofhgpidbpmaaDoor.M
structure Cts (s:Nat->Nat->Int) (w:World) (vs ws st sv tp01 td01 ts01 tp02 td02 ts02 tp03 td03 ts03 tp04 td04 tp12 td12 ts12 tp13 td13 ts13 tp14 td14 tp23 td23 ts23 tp24 td24 tp34 td34:Int):Prop where
  nvs:IntKind.i64.wrap (-vs)=-vs
  nws:IntKind.i64.wrap (-ws)=-ws
  CA:Hid (∀ W,Hold4 W->Calls Tryd.prog 4 #[] W fun e w'=>e=.returned (.bool true)∧Below W.heap.size W w')
  CG:Hid (∀ W g,W.heap[g]?=some (.cells #[.int .i64 (s 0 0),.int .i64 (s 0 1),.int .i64 (s 0 2),.int .i64 (s 1 0),.int .i64 (s 1 1),.int .i64 (s 1 2),.int .i64 (s 2 0),.int .i64 (s 2 1),.int .i64 (s 2 2),.int .i64 (s 3 0),.int .i64 (s 3 1),.int .i64 (s 3 2),.int .i64 (s 4 0),.int .i64 (s 4 1),.int .i64 (s 4 2)] 24 (0,0))->Calls Tryd.prog 5 #[.slice (some ⟨g,0,none⟩) 5 5] W fun x w'=>x=.returned (.bool true)∧Below W.heap.size W w')
  CN:Hid (∀ W,Calls Tryd.prog 11 #[.int .i64 0] W fun r w'=>r=.returned (.int .i64 0)∧w'=W)
  CS:Hid (∀ W,Below w.heap.size w W->Calls Tryd.prog 6 #[.agg #[.int .i64 (s 0 0),.int .i64 (s 0 1),.int .i64 (s 0 2)],.agg #[.int .i64 (s 1 0),.int .i64 (s 1 1),.int .i64 (s 1 2)],.agg #[.int .i64 (s 2 0),.int .i64 (s 2 1),.int .i64 (s 2 2)],.agg #[.int .i64 (s 3 0),.int .i64 (s 3 1),.int .i64 (s 3 2)]] W fun e w'=>e=.returned (.tuple #[.agg #[.int .i64 vs,.int .i64 st],.int .i64 0])∧Below W.heap.size W w')
  CP:Hid (∀ W,Below w.heap.size w W->Calls Tryd.prog 8 #[.agg #[.int .i64 (s 0 0),.int .i64 (s 0 1),.int .i64 (s 0 2)],.agg #[.int .i64 (s 1 0),.int .i64 (s 1 1),.int .i64 (s 1 2)],.agg #[.int .i64 (s 2 0),.int .i64 (s 2 1),.int .i64 (s 2 2)],.agg #[.int .i64 (s 3 0),.int .i64 (s 3 1),.int .i64 (s 3 2)],.agg #[.int .i64 (s 4 0),.int .i64 (s 4 1),.int .i64 (s 4 2)]] W fun e w'=>e=.returned (.tuple #[.agg #[.int .i64 ws,.int .i64 sv],.int .i64 0])∧Below W.heap.size W w')
  CX:Hid (∀ W,Below w.heap.size w W->Calls Tryd.prog 7 #[.agg #[.int .i64 (s 0 0),.int .i64 (s 0 1),.int .i64 (s 0 2)],.agg #[.int .i64 (s 1 0),.int .i64 (s 1 1),.int .i64 (s 1 2)],.agg #[.int .i64 (s 2 0),.int .i64 (s 2 1),.int .i64 (s 2 2)],.agg #[.int .i64 (s 3 0),.int .i64 (s 3 1),.int .i64 (s 3 2)]] W fun r w'=>∃ g o n c e,r=.returned (.tuple #[.agg #[.bool g,.slice o n c,.int .i64 e],.int .i64 0])∧(∀ W2,Below w'.heap.size w' W2->Calls Tryd.prog 10 #[.agg #[.bool g,.slice o n c,.int .i64 e]] W2 fun r2 w2=>r2=.returned (.int .i64 vs)∧Below W2.heap.size W2 w2)∧Below W.heap.size W w')
  CY:Hid (∀ W,Below w.heap.size w W->Calls Tryd.prog 9 #[.agg #[.int .i64 (s 0 0),.int .i64 (s 0 1),.int .i64 (s 0 2)],.agg #[.int .i64 (s 1 0),.int .i64 (s 1 1),.int .i64 (s 1 2)],.agg #[.int .i64 (s 2 0),.int .i64 (s 2 1),.int .i64 (s 2 2)],.agg #[.int .i64 (s 3 0),.int .i64 (s 3 1),.int .i64 (s 3 2)],.agg #[.int .i64 (s 4 0),.int .i64 (s 4 1),.int .i64 (s 4 2)]] W fun r w'=>∃ g o n c e,r=.returned (.tuple #[.agg #[.bool g,.slice o n c,.int .i64 e],.int .i64 0])∧(∀ W2,Below w'.heap.size w' W2->Calls Tryd.prog 10 #[.agg #[.bool g,.slice o n c,.int .i64 e]] W2 fun r2 w2=>r2=.returned (.int .i64 ws)∧Below W2.heap.size W2 w2)∧Below W.heap.size W w')
  CP01:Hid (∀ W,Below w.heap.size w W->Calls Tryd.prog 8 #[.agg #[.int .i64 (s 1 0),.int .i64 (s 1 1),.int .i64 (s 1 2)],.agg #[.int .i64 (s 0 0),.int .i64 (s 0 1),.int .i64 (s 0 2)],.agg #[.int .i64 (s 2 0),.int .i64 (s 2 1),.int .i64 (s 2 2)],.agg #[.int .i64 (s 3 0),.int .i64 (s 3 1),.int .i64 (s 3 2)],.agg #[.int .i64 (s 4 0),.int .i64 (s 4 1),.int .i64 (s 4 2)]] W fun e w'=>e=.returned (.tuple #[.agg #[.int .i64 (- ws),.int .i64 (tp01)],.int .i64 0])∧Below W.heap.size W w')
  CD01:Hid (∀ W,Below w.heap.size w W->Calls Tryd.prog 8 #[.agg #[.int .i64 (s 1 0),.int .i64 (s 1 1),.int .i64 (s 1 2)],.agg #[.int .i64 (s 1 0),.int .i64 (s 1 1),.int .i64 (s 1 2)],.agg #[.int .i64 (s 2 0),.int .i64 (s 2 1),.int .i64 (s 2 2)],.agg #[.int .i64 (s 3 0),.int .i64 (s 3 1),.int .i64 (s 3 2)],.agg #[.int .i64 (s 4 0),.int .i64 (s 4 1),.int .i64 (s 4 2)]] W fun e w'=>e=.returned (.tuple #[.agg #[.int .i64 0,.int .i64 (td01)],.int .i64 0])∧Below W.heap.size W w')
  CS01:Hid (∀ W,Below w.heap.size w W->Calls Tryd.prog 6 #[.agg #[.int .i64 (s 1 0),.int .i64 (s 1 1),.int .i64 (s 1 2)],.agg #[.int .i64 (s 0 0),.int .i64 (s 0 1),.int .i64 (s 0 2)],.agg #[.int .i64 (s 2 0),.int .i64 (s 2 1),.int .i64 (s 2 2)],.agg #[.int .i64 (s 3 0),.int .i64 (s 3 1),.int .i64 (s 3 2)]] W fun e w'=>e=.returned (.tuple #[.agg #[.int .i64 (- vs),.int .i64 (ts01)],.int .i64 0])∧Below W.heap.size W w')
  CP02:Hid (∀ W,Below w.heap.size w W->Calls Tryd.prog 8 #[.agg #[.int .i64 (s 2 0),.int .i64 (s 2 1),.int .i64 (s 2 2)],.agg #[.int .i64 (s 1 0),.int .i64 (s 1 1),.int .i64 (s 1 2)],.agg #[.int .i64 (s 0 0),.int .i64 (s 0 1),.int .i64 (s 0 2)],.agg #[.int .i64 (s 3 0),.int .i64 (s 3 1),.int .i64 (s 3 2)],.agg #[.int .i64 (s 4 0),.int .i64 (s 4 1),.int .i64 (s 4 2)]] W fun e w'=>e=.returned (.tuple #[.agg #[.int .i64 (- ws),.int .i64 (tp02)],.int .i64 0])∧Below W.heap.size W w')
  CD02:Hid (∀ W,Below w.heap.size w W->Calls Tryd.prog 8 #[.agg #[.int .i64 (s 2 0),.int .i64 (s 2 1),.int .i64 (s 2 2)],.agg #[.int .i64 (s 1 0),.int .i64 (s 1 1),.int .i64 (s 1 2)],.agg #[.int .i64 (s 2 0),.int .i64 (s 2 1),.int .i64 (s 2 2)],.agg #[.int .i64 (s 3 0),.int .i64 (s 3 1),.int .i64 (s 3 2)],.agg #[.int .i64 (s 4 0),.int .i64 (s 4 1),.int .i64 (s 4 2)]] W fun e w'=>e=.returned (.tuple #[.agg #[.int .i64 0,.int .i64 (td02)],.int .i64 0])∧Below W.heap.size W w')
  CS02:Hid (∀ W,Below w.heap.size w W->Calls Tryd.prog 6 #[.agg #[.int .i64 (s 2 0),.int .i64 (s 2 1),.int .i64 (s 2 2)],.agg #[.int .i64 (s 1 0),.int .i64 (s 1 1),.int .i64 (s 1 2)],.agg #[.int .i64 (s 0 0),.int .i64 (s 0 1),.int .i64 (s 0 2)],.agg #[.int .i64 (s 3 0),.int .i64 (s 3 1),.int .i64 (s 3 2)]] W fun e w'=>e=.returned (.tuple #[.agg #[.int .i64 (- vs),.int .i64 (ts02)],.int .i64 0])∧Below W.heap.size W w')
  CP03:Hid (∀ W,Below w.heap.size w W->Calls Tryd.prog 8 #[.agg #[.int .i64 (s 3 0),.int .i64 (s 3 1),.int .i64 (s 3 2)],.agg #[.int .i64 (s 1 0),.int .i64 (s 1 1),.int .i64 (s 1 2)],.agg #[.int .i64 (s 2 0),.int .i64 (s 2 1),.int .i64 (s 2 2)],.agg #[.int .i64 (s 0 0),.int .i64 (s 0 1),.int .i64 (s 0 2)],.agg #[.int .i64 (s 4 0),.int .i64 (s 4 1),.int .i64 (s 4 2)]] W fun e w'=>e=.returned (.tuple #[.agg #[.int .i64 (- ws),.int .i64 (tp03)],.int .i64 0])∧Below W.heap.size W w')
  CD03:Hid (∀ W,Below w.heap.size w W->Calls Tryd.prog 8 #[.agg #[.int .i64 (s 3 0),.int .i64 (s 3 1),.int .i64 (s 3 2)],.agg #[.int .i64 (s 1 0),.int .i64 (s 1 1),.int .i64 (s 1 2)],.agg #[.int .i64 (s 2 0),.int .i64 (s 2 1),.int .i64 (s 2 2)],.agg #[.int .i64 (s 3 0),.int .i64 (s 3 1),.int .i64 (s 3 2)],.agg #[.int .i64 (s 4 0),.int .i64 (s 4 1),.int .i64 (s 4 2)]] W fun e w'=>e=.returned (.tuple #[.agg #[.int .i64 0,.int .i64 (td03)],.int .i64 0])∧Below W.heap.size W w')
  CS03:Hid (∀ W,Below w.heap.size w W->Calls Tryd.prog 6 #[.agg #[.int .i64 (s 3 0),.int .i64 (s 3 1),.int .i64 (s 3 2)],.agg #[.int .i64 (s 1 0),.int .i64 (s 1 1),.int .i64 (s 1 2)],.agg #[.int .i64 (s 2 0),.int .i64 (s 2 1),.int .i64 (s 2 2)],.agg #[.int .i64 (s 0 0),.int .i64 (s 0 1),.int .i64 (s 0 2)]] W fun e w'=>e=.returned (.tuple #[.agg #[.int .i64 (- vs),.int .i64 (ts03)],.int .i64 0])∧Below W.heap.size W w')
  CP04:Hid (∀ W,Below w.heap.size w W->Calls Tryd.prog 8 #[.agg #[.int .i64 (s 4 0),.int .i64 (s 4 1),.int .i64 (s 4 2)],.agg #[.int .i64 (s 1 0),.int .i64 (s 1 1),.int .i64 (s 1 2)],.agg #[.int .i64 (s 2 0),.int .i64 (s 2 1),.int .i64 (s 2 2)],.agg #[.int .i64 (s 3 0),.int .i64 (s 3 1),.int .i64 (s 3 2)],.agg #[.int .i64 (s 0 0),.int .i64 (s 0 1),.int .i64 (s 0 2)]] W fun e w'=>e=.returned (.tuple #[.agg #[.int .i64 (- ws),.int .i64 (tp04)],.int .i64 0])∧Below W.heap.size W w')
  CD04:Hid (∀ W,Below w.heap.size w W->Calls Tryd.prog 8 #[.agg #[.int .i64 (s 4 0),.int .i64 (s 4 1),.int .i64 (s 4 2)],.agg #[.int .i64 (s 1 0),.int .i64 (s 1 1),.int .i64 (s 1 2)],.agg #[.int .i64 (s 2 0),.int .i64 (s 2 1),.int .i64 (s 2 2)],.agg #[.int .i64 (s 3 0),.int .i64 (s 3 1),.int .i64 (s 3 2)],.agg #[.int .i64 (s 4 0),.int .i64 (s 4 1),.int .i64 (s 4 2)]] W fun e w'=>e=.returned (.tuple #[.agg #[.int .i64 0,.int .i64 (td04)],.int .i64 0])∧Below W.heap.size W w')
  CP12:Hid (∀ W,Below w.heap.size w W->Calls Tryd.prog 8 #[.agg #[.int .i64 (s 0 0),.int .i64 (s 0 1),.int .i64 (s 0 2)],.agg #[.int .i64 (s 2 0),.int .i64 (s 2 1),.int .i64 (s 2 2)],.agg #[.int .i64 (s 1 0),.int .i64 (s 1 1),.int .i64 (s 1 2)],.agg #[.int .i64 (s 3 0),.int .i64 (s 3 1),.int .i64 (s 3 2)],.agg #[.int .i64 (s 4 0),.int .i64 (s 4 1),.int .i64 (s 4 2)]] W fun e w'=>e=.returned (.tuple #[.agg #[.int .i64 (- ws),.int .i64 (tp12)],.int .i64 0])∧Below W.heap.size W w')
  CD12:Hid (∀ W,Below w.heap.size w W->Calls Tryd.prog 8 #[.agg #[.int .i64 (s 0 0),.int .i64 (s 0 1),.int .i64 (s 0 2)],.agg #[.int .i64 (s 2 0),.int .i64 (s 2 1),.int .i64 (s 2 2)],.agg #[.int .i64 (s 2 0),.int .i64 (s 2 1),.int .i64 (s 2 2)],.agg #[.int .i64 (s 3 0),.int .i64 (s 3 1),.int .i64 (s 3 2)],.agg #[.int .i64 (s 4 0),.int .i64 (s 4 1),.int .i64 (s 4 2)]] W fun e w'=>e=.returned (.tuple #[.agg #[.int .i64 0,.int .i64 (td12)],.int .i64 0])∧Below W.heap.size W w')
  CS12:Hid (∀ W,Below w.heap.size w W->Calls Tryd.prog 6 #[.agg #[.int .i64 (s 0 0),.int .i64 (s 0 1),.int .i64 (s 0 2)],.agg #[.int .i64 (s 2 0),.int .i64 (s 2 1),.int .i64 (s 2 2)],.agg #[.int .i64 (s 1 0),.int .i64 (s 1 1),.int .i64 (s 1 2)],.agg #[.int .i64 (s 3 0),.int .i64 (s 3 1),.int .i64 (s 3 2)]] W fun e w'=>e=.returned (.tuple #[.agg #[.int .i64 (- vs),.int .i64 (ts12)],.int .i64 0])∧Below W.heap.size W w')
  CP13:Hid (∀ W,Below w.heap.size w W->Calls Tryd.prog 8 #[.agg #[.int .i64 (s 0 0),.int .i64 (s 0 1),.int .i64 (s 0 2)],.agg #[.int .i64 (s 3 0),.int .i64 (s 3 1),.int .i64 (s 3 2)],.agg #[.int .i64 (s 2 0),.int .i64 (s 2 1),.int .i64 (s 2 2)],.agg #[.int .i64 (s 1 0),.int .i64 (s 1 1),.int .i64 (s 1 2)],.agg #[.int .i64 (s 4 0),.int .i64 (s 4 1),.int .i64 (s 4 2)]] W fun e w'=>e=.returned (.tuple #[.agg #[.int .i64 (- ws),.int .i64 (tp13)],.int .i64 0])∧Below W.heap.size W w')
  CD13:Hid (∀ W,Below w.heap.size w W->Calls Tryd.prog 8 #[.agg #[.int .i64 (s 0 0),.int .i64 (s 0 1),.int .i64 (s 0 2)],.agg #[.int .i64 (s 3 0),.int .i64 (s 3 1),.int .i64 (s 3 2)],.agg #[.int .i64 (s 2 0),.int .i64 (s 2 1),.int .i64 (s 2 2)],.agg #[.int .i64 (s 3 0),.int .i64 (s 3 1),.int .i64 (s 3 2)],.agg #[.int .i64 (s 4 0),.int .i64 (s 4 1),.int .i64 (s 4 2)]] W fun e w'=>e=.returned (.tuple #[.agg #[.int .i64 0,.int .i64 (td13)],.int .i64 0])∧Below W.heap.size W w')
  CS13:Hid (∀ W,Below w.heap.size w W->Calls Tryd.prog 6 #[.agg #[.int .i64 (s 0 0),.int .i64 (s 0 1),.int .i64 (s 0 2)],.agg #[.int .i64 (s 3 0),.int .i64 (s 3 1),.int .i64 (s 3 2)],.agg #[.int .i64 (s 2 0),.int .i64 (s 2 1),.int .i64 (s 2 2)],.agg #[.int .i64 (s 1 0),.int .i64 (s 1 1),.int .i64 (s 1 2)]] W fun e w'=>e=.returned (.tuple #[.agg #[.int .i64 (- vs),.int .i64 (ts13)],.int .i64 0])∧Below W.heap.size W w')
  CP14:Hid (∀ W,Below w.heap.size w W->Calls Tryd.prog 8 #[.agg #[.int .i64 (s 0 0),.int .i64 (s 0 1),.int .i64 (s 0 2)],.agg #[.int .i64 (s 4 0),.int .i64 (s 4 1),.int .i64 (s 4 2)],.agg #[.int .i64 (s 2 0),.int .i64 (s 2 1),.int .i64 (s 2 2)],.agg #[.int .i64 (s 3 0),.int .i64 (s 3 1),.int .i64 (s 3 2)],.agg #[.int .i64 (s 1 0),.int .i64 (s 1 1),.int .i64 (s 1 2)]] W fun e w'=>e=.returned (.tuple #[.agg #[.int .i64 (- ws),.int .i64 (tp14)],.int .i64 0])∧Below W.heap.size W w')
  CD14:Hid (∀ W,Below w.heap.size w W->Calls Tryd.prog 8 #[.agg #[.int .i64 (s 0 0),.int .i64 (s 0 1),.int .i64 (s 0 2)],.agg #[.int .i64 (s 4 0),.int .i64 (s 4 1),.int .i64 (s 4 2)],.agg #[.int .i64 (s 2 0),.int .i64 (s 2 1),.int .i64 (s 2 2)],.agg #[.int .i64 (s 3 0),.int .i64 (s 3 1),.int .i64 (s 3 2)],.agg #[.int .i64 (s 4 0),.int .i64 (s 4 1),.int .i64 (s 4 2)]] W fun e w'=>e=.returned (.tuple #[.agg #[.int .i64 0,.int .i64 (td14)],.int .i64 0])∧Below W.heap.size W w')
  CP23:Hid (∀ W,Below w.heap.size w W->Calls Tryd.prog 8 #[.agg #[.int .i64 (s 0 0),.int .i64 (s 0 1),.int .i64 (s 0 2)],.agg #[.int .i64 (s 1 0),.int .i64 (s 1 1),.int .i64 (s 1 2)],.agg #[.int .i64 (s 3 0),.int .i64 (s 3 1),.int .i64 (s 3 2)],.agg #[.int .i64 (s 2 0),.int .i64 (s 2 1),.int .i64 (s 2 2)],.agg #[.int .i64 (s 4 0),.int .i64 (s 4 1),.int .i64 (s 4 2)]] W fun e w'=>e=.returned (.tuple #[.agg #[.int .i64 (- ws),.int .i64 (tp23)],.int .i64 0])∧Below W.heap.size W w')
  CD23:Hid (∀ W,Below w.heap.size w W->Calls Tryd.prog 8 #[.agg #[.int .i64 (s 0 0),.int .i64 (s 0 1),.int .i64 (s 0 2)],.agg #[.int .i64 (s 1 0),.int .i64 (s 1 1),.int .i64 (s 1 2)],.agg #[.int .i64 (s 3 0),.int .i64 (s 3 1),.int .i64 (s 3 2)],.agg #[.int .i64 (s 3 0),.int .i64 (s 3 1),.int .i64 (s 3 2)],.agg #[.int .i64 (s 4 0),.int .i64 (s 4 1),.int .i64 (s 4 2)]] W fun e w'=>e=.returned (.tuple #[.agg #[.int .i64 0,.int .i64 (td23)],.int .i64 0])∧Below W.heap.size W w')
  CS23:Hid (∀ W,Below w.heap.size w W->Calls Tryd.prog 6 #[.agg #[.int .i64 (s 0 0),.int .i64 (s 0 1),.int .i64 (s 0 2)],.agg #[.int .i64 (s 1 0),.int .i64 (s 1 1),.int .i64 (s 1 2)],.agg #[.int .i64 (s 3 0),.int .i64 (s 3 1),.int .i64 (s 3 2)],.agg #[.int .i64 (s 2 0),.int .i64 (s 2 1),.int .i64 (s 2 2)]] W fun e w'=>e=.returned (.tuple #[.agg #[.int .i64 (- vs),.int .i64 (ts23)],.int .i64 0])∧Below W.heap.size W w')
  CP24:Hid (∀ W,Below w.heap.size w W->Calls Tryd.prog 8 #[.agg #[.int .i64 (s 0 0),.int .i64 (s 0 1),.int .i64 (s 0 2)],.agg #[.int .i64 (s 1 0),.int .i64 (s 1 1),.int .i64 (s 1 2)],.agg #[.int .i64 (s 4 0),.int .i64 (s 4 1),.int .i64 (s 4 2)],.agg #[.int .i64 (s 3 0),.int .i64 (s 3 1),.int .i64 (s 3 2)],.agg #[.int .i64 (s 2 0),.int .i64 (s 2 1),.int .i64 (s 2 2)]] W fun e w'=>e=.returned (.tuple #[.agg #[.int .i64 (- ws),.int .i64 (tp24)],.int .i64 0])∧Below W.heap.size W w')
  CD24:Hid (∀ W,Below w.heap.size w W->Calls Tryd.prog 8 #[.agg #[.int .i64 (s 0 0),.int .i64 (s 0 1),.int .i64 (s 0 2)],.agg #[.int .i64 (s 1 0),.int .i64 (s 1 1),.int .i64 (s 1 2)],.agg #[.int .i64 (s 4 0),.int .i64 (s 4 1),.int .i64 (s 4 2)],.agg #[.int .i64 (s 3 0),.int .i64 (s 3 1),.int .i64 (s 3 2)],.agg #[.int .i64 (s 4 0),.int .i64 (s 4 1),.int .i64 (s 4 2)]] W fun e w'=>e=.returned (.tuple #[.agg #[.int .i64 0,.int .i64 (td24)],.int .i64 0])∧Below W.heap.size W w')
  CP34:Hid (∀ W,Below w.heap.size w W->Calls Tryd.prog 8 #[.agg #[.int .i64 (s 0 0),.int .i64 (s 0 1),.int .i64 (s 0 2)],.agg #[.int .i64 (s 1 0),.int .i64 (s 1 1),.int .i64 (s 1 2)],.agg #[.int .i64 (s 2 0),.int .i64 (s 2 1),.int .i64 (s 2 2)],.agg #[.int .i64 (s 4 0),.int .i64 (s 4 1),.int .i64 (s 4 2)],.agg #[.int .i64 (s 3 0),.int .i64 (s 3 1),.int .i64 (s 3 2)]] W fun e w'=>e=.returned (.tuple #[.agg #[.int .i64 (- ws),.int .i64 (tp34)],.int .i64 0])∧Below W.heap.size W w')
  CD34:Hid (∀ W,Below w.heap.size w W->Calls Tryd.prog 8 #[.agg #[.int .i64 (s 0 0),.int .i64 (s 0 1),.int .i64 (s 0 2)],.agg #[.int .i64 (s 1 0),.int .i64 (s 1 1),.int .i64 (s 1 2)],.agg #[.int .i64 (s 2 0),.int .i64 (s 2 1),.int .i64 (s 2 2)],.agg #[.int .i64 (s 4 0),.int .i64 (s 4 1),.int .i64 (s 4 2)],.agg #[.int .i64 (s 4 0),.int .i64 (s 4 1),.int .i64 (s 4 2)]] W fun e w'=>e=.returned (.tuple #[.agg #[.int .i64 0,.int .i64 (td34)],.int .i64 0])∧Below W.heap.size W w')
structure Box (p:Prop):Prop where
  out:p
structure Pre (M:Prop) where
  g01:Prop
  g02:Prop
  g03:Prop
  g04:Prop
  g12:Prop
  g13:Prop
  g14:Prop
  g23:Prop
  g24:Prop
  g34:Prop
  f:Box g01->Box g02->Box g03->Box g04->Box g12->Box g13->Box g14->Box g23->Box g24->Box g34->M
set_option maxRecDepth 100000 in
set_option maxHeartbeats 60000000 in
def pre {s:Nat->Nat->Int} {w:World} {vs ws st sv tp01 td01 ts01 tp02 td02 ts02 tp03 td03 ts03 tp04 td04 tp12 td12 ts12 tp13 td13 ts13 tp14 td14 tp23 td23 ts23 tp24 td24 tp34 td34:Int} (C:Cts s w vs ws st sv tp01 td01 ts01 tp02 td02 ts02 tp03 td03 ts03 tp04 td04 tp12 td12 ts12 tp13 td13 ts13 tp14 td14 tp23 td23 ts23 tp24 td24 tp34 td34) (H:Hold4 w):Pre (Calls Tryd.prog 3 #[.agg (five s)] w fun e w'=>e=.returned (.bool true)∧Below w.heap.size w w'):=by
  apply Pre.mk
  intro hg01 hg02 hg03 hg04 hg12 hg13 hg14 hg23 hg24 hg34
  have nvs:=C.nvs
  have nws:=C.nws
  have CA:=C.CA
  have CG:=C.CG
  have CN:=C.CN
  have CS:=C.CS
  have CP:=C.CP
  have CX:=C.CX
  have CY:=C.CY
  unfold five
  go_enter Tryd.func3,Tryd.ntmps3
  have l_k:=heap_a1 w (.cells #[.int .i64 (s 0 0),.int .i64 (s 0 1),.int .i64 (s 0 2),.int .i64 (s 1 0),.int .i64 (s 1 1),.int .i64 (s 1 2),.int .i64 (s 2 0),.int .i64 (s 2 1),.int .i64 (s 2 2),.int .i64 (s 3 0),.int .i64 (s 3 1),.int .i64 (s 3 2),.int .i64 (s 4 0),.int .i64 (s 4 1),.int .i64 (s 4 2)] 24)
  have hb:=bel_alloc w (.cells #[.int .i64 (s 0 0),.int .i64 (s 0 1),.int .i64 (s 0 2),.int .i64 (s 1 0),.int .i64 (s 1 1),.int .i64 (s 1 2),.int .i64 (s 2 0),.int .i64 (s 2 1),.int .i64 (s 2 2),.int .i64 (s 3 0),.int .i64 (s 3 1),.int .i64 (s 3 2),.int .i64 (s 4 0),.int .i64 (s 4 1),.int .i64 (s 4 2)] 24)
  have H1:=H.keeps hb
  go_wp2_with fail
  generalize w.alloc (.cells #[.int .i64 (s 0 0),.int .i64 (s 0 1),.int .i64 (s 0 2),.int .i64 (s 1 0),.int .i64 (s 1 1),.int .i64 (s 1 2),.int .i64 (s 2 0),.int .i64 (s 2 1),.int .i64 (s 2 2),.int .i64 (s 3 0),.int .i64 (s 3 1),.int .i64 (s 3 2),.int .i64 (s 4 0),.int .i64 (s 4 1),.int .i64 (s 4 2)] 24)=x1 at l_k hb H1 ⊢
  refine (CA.out _ H1).mono ?_
  rintro _ y1 ⟨rfl,h1⟩
  replace l_k:=blk_us h1 l_k
  replace hb:=bel_trans hb h1
  clear h1 H1
  go_wp2_with fail
  refine (CG.out _ _ l_k).mono ?_
  rintro _ y2 ⟨rfl,h2⟩
  replace l_k:=blk_us h2 l_k
  replace hb:=bel_trans hb h2
  clear h2
  . skip
    have f0:=blkC l_k 0 rfl
    have f1:=blkC l_k 1 rfl
    have f2:=blkC l_k 2 rfl
    have f3:=blkC l_k 3 rfl
    have f4:=blkC l_k 4 rfl
    have f5:=blkC l_k 5 rfl
    have f6:=blkC l_k 6 rfl
    have f7:=blkC l_k 7 rfl
    have f8:=blkC l_k 8 rfl
    have f9:=blkC l_k 9 rfl
    have f10:=blkC l_k 10 rfl
    have f11:=blkC l_k 11 rfl
    go_wp2_with fail
    clear f0 f1 f2 f3 f4 f5 f6 f7 f8 f9 f10 f11
    refine (CS.out _ hb).mono ?_
    rintro _ y3 ⟨rfl,h3⟩
    replace l_k:=heap_past (.cells #[.int .i64 vs,.int .i64 st] 29) (blk_us h3 l_k)
    have v_k:=heap_a1 y3 (.cells #[.int .i64 vs,.int .i64 st] 29)
    replace hb:=bel_trans hb (bel_trans h3 (bel_alloc y3 (.cells #[.int .i64 vs,.int .i64 st] 29)))
    clear h3
    have f0:=blkC l_k 0 rfl
    have f1:=blkC l_k 1 rfl
    have f2:=blkC l_k 2 rfl
    have f3:=blkC l_k 3 rfl
    have f4:=blkC l_k 4 rfl
    have f5:=blkC l_k 5 rfl
    have f6:=blkC l_k 6 rfl
    have f7:=blkC l_k 7 rfl
    have f8:=blkC l_k 8 rfl
    have f9:=blkC l_k 9 rfl
    have f10:=blkC l_k 10 rfl
    have f11:=blkC l_k 11 rfl
    go_wp2_with fail
    clear f0 f1 f2 f3 f4 f5 f6 f7 f8 f9 f10 f11
    generalize hgv:y3.heap.size=gv at v_k ⊢
    clear hgv
    generalize y3.alloc (.cells #[.int .i64 vs,.int .i64 st] 29)=x3 at l_k v_k hb ⊢
    refine (CX.out _ hb).mono ?_
    rintro _ y4 ⟨gx,ox,nx,cx,ex,rfl,CGx,h4⟩
    replace l_k:=heap_past (.cells #[.bool gx,.slice ox nx cx,.int .i64 ex] 35) (blk_us h4 l_k)
    replace v_k:=heap_past (.cells #[.bool gx,.slice ox nx cx,.int .i64 ex] 35) (blk_us h4 v_k)
    have x_k:=heap_a1 y4 (.cells #[.bool gx,.slice ox nx cx,.int .i64 ex] 35)
    have hx4:=bel_alloc y4 (.cells #[.bool gx,.slice ox nx cx,.int .i64 ex] 35)
    replace hb:=bel_trans hb (bel_trans h4 hx4)
    clear h4
    have f0:=blkC l_k 0 rfl
    have f1:=blkC l_k 1 rfl
    have f2:=blkC l_k 2 rfl
    have f3:=blkC l_k 3 rfl
    have f4:=blkC l_k 4 rfl
    have f5:=blkC l_k 5 rfl
    have f6:=blkC l_k 6 rfl
    have f7:=blkC l_k 7 rfl
    have f8:=blkC l_k 8 rfl
    have f9:=blkC l_k 9 rfl
    have f10:=blkC l_k 10 rfl
    have f11:=blkC l_k 11 rfl
    have f12:=blkC l_k 12 rfl
    have f13:=blkC l_k 13 rfl
    have f14:=blkC l_k 14 rfl
    go_wp2_with fail
    clear f0 f1 f2 f3 f4 f5 f6 f7 f8 f9 f10 f11 f12 f13 f14
    generalize hgx:y4.heap.size=qx at x_k ⊢
    clear hgx
    generalize y4.alloc (.cells #[.bool gx,.slice ox nx cx,.int .i64 ex] 35)=x4 at l_k v_k x_k hx4 hb ⊢
    refine (CP.out _ hb).mono ?_
    rintro _ y5 ⟨rfl,h5⟩
    replace hx4:=bel_trans hx4 (bel_trans h5 (bel_alloc y5 (.cells #[.int .i64 ws,.int .i64 sv] 29)))
    replace l_k:=heap_past (.cells #[.int .i64 ws,.int .i64 sv] 29) (blk_us h5 l_k)
    replace v_k:=heap_past (.cells #[.int .i64 ws,.int .i64 sv] 29) (blk_us h5 v_k)
    replace x_k:=heap_past (.cells #[.int .i64 ws,.int .i64 sv] 29) (blk_us h5 x_k)
    have w_k:=heap_a1 y5 (.cells #[.int .i64 ws,.int .i64 sv] 29)
    replace hb:=bel_trans hb (bel_trans h5 (bel_alloc y5 (.cells #[.int .i64 ws,.int .i64 sv] 29)))
    clear h5
    have f0:=blkC l_k 0 rfl
    have f1:=blkC l_k 1 rfl
    have f2:=blkC l_k 2 rfl
    have f3:=blkC l_k 3 rfl
    have f4:=blkC l_k 4 rfl
    have f5:=blkC l_k 5 rfl
    have f6:=blkC l_k 6 rfl
    have f7:=blkC l_k 7 rfl
    have f8:=blkC l_k 8 rfl
    have f9:=blkC l_k 9 rfl
    have f10:=blkC l_k 10 rfl
    have f11:=blkC l_k 11 rfl
    have f12:=blkC l_k 12 rfl
    have f13:=blkC l_k 13 rfl
    have f14:=blkC l_k 14 rfl
    go_wp2_with fail
    clear f0 f1 f2 f3 f4 f5 f6 f7 f8 f9 f10 f11 f12 f13 f14
    generalize hgw:y5.heap.size=gw at w_k ⊢
    clear hgw
    generalize y5.alloc (.cells #[.int .i64 ws,.int .i64 sv] 29)=x5 at l_k v_k x_k w_k hx4 hb ⊢
    refine (CY.out _ hb).mono ?_
    rintro _ y6 ⟨gy,oy,ny,cy,ey,rfl,CGy,h6⟩
    replace hx4:=bel_trans hx4 (bel_trans h6 (bel_alloc y6 (.cells #[.bool gy,.slice oy ny cy,.int .i64 ey] 35)))
    replace l_k:=heap_past (.cells #[.bool gy,.slice oy ny cy,.int .i64 ey] 35) (blk_us h6 l_k)
    replace v_k:=heap_past (.cells #[.bool gy,.slice oy ny cy,.int .i64 ey] 35) (blk_us h6 v_k)
    replace x_k:=heap_past (.cells #[.bool gy,.slice oy ny cy,.int .i64 ey] 35) (blk_us h6 x_k)
    replace w_k:=heap_past (.cells #[.bool gy,.slice oy ny cy,.int .i64 ey] 35) (blk_us h6 w_k)
    have y_k:=heap_a1 y6 (.cells #[.bool gy,.slice oy ny cy,.int .i64 ey] 35)
    have hy6:=bel_alloc y6 (.cells #[.bool gy,.slice oy ny cy,.int .i64 ey] 35)
    replace hb:=bel_trans hb (bel_trans h6 hy6)
    clear h6
    have CGX:Hid _:=hideIt CGx
    have CGY:Hid _:=hideIt CGy
    clear CGx CGy
    go_wp2_with fail
    generalize hgy:y6.heap.size=qy at y_k ⊢
    clear hgy
    generalize y6.alloc (.cells #[.bool gy,.slice oy ny cy,.int .i64 ey] 35)=x6 at l_k v_k x_k w_k y_k hx4 hy6 hb ⊢
    have KK:∀ W,Below x6.heap.size x6 W->W.cell? ⟨gv,0,none⟩=some (.int .i64 vs)∧W.cell? ⟨gv,1,none⟩=some (.int .i64 st)∧W.cell? ⟨qx,0,none⟩=some (.bool gx)∧W.cell? ⟨qx,1,none⟩=some (.slice ox nx cx)∧W.cell? ⟨qx,2,none⟩=some (.int .i64 ex)∧W.cell? ⟨gw,0,none⟩=some (.int .i64 ws)∧W.cell? ⟨gw,1,none⟩=some (.int .i64 sv)∧W.cell? ⟨qy,0,none⟩=some (.bool gy)∧W.cell? ⟨qy,1,none⟩=some (.slice oy ny cy)∧W.cell? ⟨qy,2,none⟩=some (.int .i64 ey):=fun W hb=>⟨q_cell (blkC v_k 0 rfl) hb,q_cell (blkC v_k 1 rfl) hb,q_cell (blkC x_k 0 rfl) hb,q_cell (blkC x_k 1 rfl) hb,q_cell (blkC x_k 2 rfl) hb,q_cell (blkC w_k 0 rfl) hb,q_cell (blkC w_k 1 rfl) hb,q_cell (blkC y_k 0 rfl) hb,q_cell (blkC y_k 1 rfl) hb,q_cell (blkC y_k 2 rfl) hb⟩
    have hC0:=(bel_refl x6).drew
    go_region_held3 (fun W=>W.cell? ⟨gv,0,none⟩=some (.int .i64 vs)∧W.cell? ⟨gv,1,none⟩=some (.int .i64 st)∧W.cell? ⟨qx,0,none⟩=some (.bool gx)∧W.cell? ⟨qx,1,none⟩=some (.slice ox nx cx)∧W.cell? ⟨qx,2,none⟩=some (.int .i64 ex)∧W.cell? ⟨gw,0,none⟩=some (.int .i64 ws)∧W.cell? ⟨gw,1,none⟩=some (.int .i64 sv)∧W.cell? ⟨qy,0,none⟩=some (.bool gy)∧W.cell? ⟨qy,1,none⟩=some (.slice oy ny cy)∧W.cell? ⟨qy,2,none⟩=some (.int .i64 ey))
      (with_reducible first | assumption | exact KK _ hC0 | exact KK _ hC1 | exact KK _ hC2 | fail)
      (first | (go_at_call 10; refine (CGX.out _ (bel_trans hx4 hC0)).mono ?_; rintro _ y7 ⟨rfl,hq1⟩; have hC1:=bel_trans hC0 hq1) | (go_at_call 10; refine (CGY.out _ (bel_trans hy6 hC1)).mono ?_; rintro _ y8 ⟨rfl,hq2⟩; have hC2:=bel_trans hC1 hq2))
    all_goals
      replace hb:=bel_trans hb hC2
      replace l_k:=blk_us hC2 l_k
      replace v_k:=blk_us hC2 v_k
      replace w_k:=blk_us hC2 w_k
      clear x_k y_k KK hx4 hy6 CGX CGY hC0 hC1 hC2 hq1 hq2
    go_wp2_with fail
    go_loopw [13] (fun i wr=>Below w.heap.size w wr∧wr.heap[w.heap.size]?=some (.cells #[.int .i64 (s 0 0),.int .i64 (s 0 1),.int .i64 (s 0 2),.int .i64 (s 1 0),.int .i64 (s 1 1),.int .i64 (s 1 2),.int .i64 (s 2 0),.int .i64 (s 2 1),.int .i64 (s 2 2),.int .i64 (s 3 0),.int .i64 (s 3 1),.int .i64 (s 3 2),.int .i64 (s 4 0),.int .i64 (s 4 1),.int .i64 (s 4 2)] 24 (0,0))∧wr.heap[gv]?=some (.cells #[.int .i64 vs,.int .i64 st] 29 (0,0))∧wr.heap[gw]?=some (.cells #[.int .i64 ws,.int .i64 sv] 29 (0,0))∧(i=.int .i64 0∨i=.int .i64 1∨i=.int .i64 2∨i=.int .i64 3∨i=.int .i64 4∨i=.int .i64 5)) (fun i _=>5-(intOf i).toNat)
    case atStart=>exact ⟨hb,l_k,v_k,w_k,.inl rfl⟩
    case round=>
      clear hb l_k v_k w_k
      obtain ⟨hb,l_k,v_k,w_k,hrel⟩:=hrel
      rcases hrel with rfl | rfl | rfl | rfl | rfl | rfl
      . go_wp2_with fail
        go_loopw [14] (fun j wr=>Below w.heap.size w wr∧wr.heap[w.heap.size]?=some (.cells #[.int .i64 (s 0 0),.int .i64 (s 0 1),.int .i64 (s 0 2),.int .i64 (s 1 0),.int .i64 (s 1 1),.int .i64 (s 1 2),.int .i64 (s 2 0),.int .i64 (s 2 1),.int .i64 (s 2 2),.int .i64 (s 3 0),.int .i64 (s 3 1),.int .i64 (s 3 2),.int .i64 (s 4 0),.int .i64 (s 4 1),.int .i64 (s 4 2)] 24 (0,0))∧wr.heap[gv]?=some (.cells #[.int .i64 vs,.int .i64 st] 29 (0,0))∧wr.heap[gw]?=some (.cells #[.int .i64 ws,.int .i64 sv] 29 (0,0))∧(j=.int .i64 1∨j=.int .i64 2∨j=.int .i64 3∨j=.int .i64 4∨j=.int .i64 5)) (fun j _=>5-(intOf j).toNat)
        case atStart=>exact ⟨hb,l_k,v_k,w_k,.inl (by go_num)⟩
        case round=>
          clear hb l_k v_k w_k
          obtain ⟨hb,l_k,v_k,w_k,hrel⟩:=hrel
          have hl0:=(Array.getElem?_eq_some_iff.1 l_k).1
          have hv0:=(Array.getElem?_eq_some_iff.1 v_k).1
          have hw0:=(Array.getElem?_eq_some_iff.1 w_k).1
          rcases hrel with rfl | rfl | rfl | rfl | rfl
          . clear CA CG CN CS CP CX CY hg02 hg03 hg04 hg12 hg13 hg14 hg23 hg24 hg34
            rename_i z0 z1 z2 z3 z4 z5 z6 z7 z8 z9 z10 z11 z12 z13 z14 z15 z16 z17 z18 z19 z20 z21 z22 z23 z24 z25 z26 z27 z28 z29 z30 z31 z32 z33 z34 z35 z36 z37 z38 z39 z40 z41 z42 z43 z44 z45 z46 z47 z48 z49 z50 z51 z52 z53 z54 z55 z56 z57 z58 z59 z60 z61 z62 z63 z64 z65 z66 z67 z68 z69 z70 z71 z72 z73 z74 z75 z76 z77 z78 z79 z80 z81 z82 z83 z84 z85 z86 z87 z88 z89 z90 z91 z92 z93 z94 z95 z96 z97 z98 z99 z100 z101 z102 z103 z104
            revert z0 x1 y1 y2 y3 gv x3 y4 gx ox nx cx ex qx x4 y5 gw x5 y6 gy oy ny cy ey qy x6 y7 y8 z1 z2 z3 z4 z5 u14 z6 z7 z8 u92 u93 u94 u95 u96 u97 z9 z10 z11 z12 z13 z14 z15 z16 z17 z18 z19 z20 z21 z22 z23 z24 z25 z26 z27 z28 z29 z30 z31 z32 z33 z34 z35 z36 z37 z38 z39 z40 z41 z42 z43 z44 z45 z46 z47 z48 z49 z50 z51 z52 z53 z54 z55 z56 z57 z58 z59 z60 z61 z62 z63 z64 z65 z66 z67 z68 z69 z70 z71 z72 z73 z74 z75 z76 z77 z78 z79 z80 z81 z82 z83 z84 z85 z86 z87 z88 z89 z90 z91 z92 z93 z94 z95 z96 z97 z98 z99 z100 z101 z102 z103 z104 wr u2 u15 u16 u17 u98 u99 u100 u101 u102 u103 u104 u105 u106 u107 u108 u109 u110 u111 u112 u113 u114 u115 u116 u117 u118 u119 u120 u121 u122 u123 u124 u125 u126 u127 u128 u129 u130 u131 u132 u133 u134 u135 u136 u137 u138 u139 u140 u141 u142 u143 u144 u145 u146 u147 u148 u149 u150 u151 u152 u153 u154 u155 u156 u157 u158 u159 u160 u161 u162 u163 u164 u165 u166 u167 u168 u169 u170 u171 u172 u173 u174 u175 u176 u177 u178 u179 u180 u181 u182 u183 u184 u185 u186 u187 u188 u189 u190 hb l_k v_k w_k hl0 hv0 hw0
            exact hg01.out
          . clear CA CG CN CS CP CX CY hg01 hg03 hg04 hg12 hg13 hg14 hg23 hg24 hg34
            rename_i z0 z1 z2 z3 z4 z5 z6 z7 z8 z9 z10 z11 z12 z13 z14 z15 z16 z17 z18 z19 z20 z21 z22 z23 z24 z25 z26 z27 z28 z29 z30 z31 z32 z33 z34 z35 z36 z37 z38 z39 z40 z41 z42 z43 z44 z45 z46 z47 z48 z49 z50 z51 z52 z53 z54 z55 z56 z57 z58 z59 z60 z61 z62 z63 z64 z65 z66 z67 z68 z69 z70 z71 z72 z73 z74 z75 z76 z77 z78 z79 z80 z81 z82 z83 z84 z85 z86 z87 z88 z89 z90 z91 z92 z93 z94 z95 z96 z97 z98 z99 z100 z101 z102 z103 z104
            revert z0 x1 y1 y2 y3 gv x3 y4 gx ox nx cx ex qx x4 y5 gw x5 y6 gy oy ny cy ey qy x6 y7 y8 z1 z2 z3 z4 z5 u14 z6 z7 z8 u92 u93 u94 u95 u96 u97 z9 z10 z11 z12 z13 z14 z15 z16 z17 z18 z19 z20 z21 z22 z23 z24 z25 z26 z27 z28 z29 z30 z31 z32 z33 z34 z35 z36 z37 z38 z39 z40 z41 z42 z43 z44 z45 z46 z47 z48 z49 z50 z51 z52 z53 z54 z55 z56 z57 z58 z59 z60 z61 z62 z63 z64 z65 z66 z67 z68 z69 z70 z71 z72 z73 z74 z75 z76 z77 z78 z79 z80 z81 z82 z83 z84 z85 z86 z87 z88 z89 z90 z91 z92 z93 z94 z95 z96 z97 z98 z99 z100 z101 z102 z103 z104 wr u2 u15 u16 u17 u98 u99 u100 u101 u102 u103 u104 u105 u106 u107 u108 u109 u110 u111 u112 u113 u114 u115 u116 u117 u118 u119 u120 u121 u122 u123 u124 u125 u126 u127 u128 u129 u130 u131 u132 u133 u134 u135 u136 u137 u138 u139 u140 u141 u142 u143 u144 u145 u146 u147 u148 u149 u150 u151 u152 u153 u154 u155 u156 u157 u158 u159 u160 u161 u162 u163 u164 u165 u166 u167 u168 u169 u170 u171 u172 u173 u174 u175 u176 u177 u178 u179 u180 u181 u182 u183 u184 u185 u186 u187 u188 u189 u190 hb l_k v_k w_k hl0 hv0 hw0
            exact hg02.out
          . clear CA CG CN CS CP CX CY hg01 hg02 hg04 hg12 hg13 hg14 hg23 hg24 hg34
            rename_i z0 z1 z2 z3 z4 z5 z6 z7 z8 z9 z10 z11 z12 z13 z14 z15 z16 z17 z18 z19 z20 z21 z22 z23 z24 z25 z26 z27 z28 z29 z30 z31 z32 z33 z34 z35 z36 z37 z38 z39 z40 z41 z42 z43 z44 z45 z46 z47 z48 z49 z50 z51 z52 z53 z54 z55 z56 z57 z58 z59 z60 z61 z62 z63 z64 z65 z66 z67 z68 z69 z70 z71 z72 z73 z74 z75 z76 z77 z78 z79 z80 z81 z82 z83 z84 z85 z86 z87 z88 z89 z90 z91 z92 z93 z94 z95 z96 z97 z98 z99 z100 z101 z102 z103 z104
            revert z0 x1 y1 y2 y3 gv x3 y4 gx ox nx cx ex qx x4 y5 gw x5 y6 gy oy ny cy ey qy x6 y7 y8 z1 z2 z3 z4 z5 u14 z6 z7 z8 u92 u93 u94 u95 u96 u97 z9 z10 z11 z12 z13 z14 z15 z16 z17 z18 z19 z20 z21 z22 z23 z24 z25 z26 z27 z28 z29 z30 z31 z32 z33 z34 z35 z36 z37 z38 z39 z40 z41 z42 z43 z44 z45 z46 z47 z48 z49 z50 z51 z52 z53 z54 z55 z56 z57 z58 z59 z60 z61 z62 z63 z64 z65 z66 z67 z68 z69 z70 z71 z72 z73 z74 z75 z76 z77 z78 z79 z80 z81 z82 z83 z84 z85 z86 z87 z88 z89 z90 z91 z92 z93 z94 z95 z96 z97 z98 z99 z100 z101 z102 z103 z104 wr u2 u15 u16 u17 u98 u99 u100 u101 u102 u103 u104 u105 u106 u107 u108 u109 u110 u111 u112 u113 u114 u115 u116 u117 u118 u119 u120 u121 u122 u123 u124 u125 u126 u127 u128 u129 u130 u131 u132 u133 u134 u135 u136 u137 u138 u139 u140 u141 u142 u143 u144 u145 u146 u147 u148 u149 u150 u151 u152 u153 u154 u155 u156 u157 u158 u159 u160 u161 u162 u163 u164 u165 u166 u167 u168 u169 u170 u171 u172 u173 u174 u175 u176 u177 u178 u179 u180 u181 u182 u183 u184 u185 u186 u187 u188 u189 u190 hb l_k v_k w_k hl0 hv0 hw0
            exact hg03.out
          . clear CA CG CN CS CP CX CY hg01 hg02 hg03 hg12 hg13 hg14 hg23 hg24 hg34
            rename_i z0 z1 z2 z3 z4 z5 z6 z7 z8 z9 z10 z11 z12 z13 z14 z15 z16 z17 z18 z19 z20 z21 z22 z23 z24 z25 z26 z27 z28 z29 z30 z31 z32 z33 z34 z35 z36 z37 z38 z39 z40 z41 z42 z43 z44 z45 z46 z47 z48 z49 z50 z51 z52 z53 z54 z55 z56 z57 z58 z59 z60 z61 z62 z63 z64 z65 z66 z67 z68 z69 z70 z71 z72 z73 z74 z75 z76 z77 z78 z79 z80 z81 z82 z83 z84 z85 z86 z87 z88 z89 z90 z91 z92 z93 z94 z95 z96 z97 z98 z99 z100 z101 z102 z103 z104
            revert z0 x1 y1 y2 y3 gv x3 y4 gx ox nx cx ex qx x4 y5 gw x5 y6 gy oy ny cy ey qy x6 y7 y8 z1 z2 z3 z4 z5 u14 z6 z7 z8 u92 u93 u94 u95 u96 u97 z9 z10 z11 z12 z13 z14 z15 z16 z17 z18 z19 z20 z21 z22 z23 z24 z25 z26 z27 z28 z29 z30 z31 z32 z33 z34 z35 z36 z37 z38 z39 z40 z41 z42 z43 z44 z45 z46 z47 z48 z49 z50 z51 z52 z53 z54 z55 z56 z57 z58 z59 z60 z61 z62 z63 z64 z65 z66 z67 z68 z69 z70 z71 z72 z73 z74 z75 z76 z77 z78 z79 z80 z81 z82 z83 z84 z85 z86 z87 z88 z89 z90 z91 z92 z93 z94 z95 z96 z97 z98 z99 z100 z101 z102 z103 z104 wr u2 u15 u16 u17 u98 u99 u100 u101 u102 u103 u104 u105 u106 u107 u108 u109 u110 u111 u112 u113 u114 u115 u116 u117 u118 u119 u120 u121 u122 u123 u124 u125 u126 u127 u128 u129 u130 u131 u132 u133 u134 u135 u136 u137 u138 u139 u140 u141 u142 u143 u144 u145 u146 u147 u148 u149 u150 u151 u152 u153 u154 u155 u156 u157 u158 u159 u160 u161 u162 u163 u164 u165 u166 u167 u168 u169 u170 u171 u172 u173 u174 u175 u176 u177 u178 u179 u180 u181 u182 u183 u184 u185 u186 u187 u188 u189 u190 hb l_k v_k w_k hl0 hv0 hw0
            exact hg04.out
          . go_wp2
            go_roundw
            case rel=>exact ⟨hb,l_k,v_k,w_k,.inr (.inl (by go_num))⟩
            case measure=>simp [intOf]
      . go_wp2_with fail
        go_loopw [14] (fun j wr=>Below w.heap.size w wr∧wr.heap[w.heap.size]?=some (.cells #[.int .i64 (s 0 0),.int .i64 (s 0 1),.int .i64 (s 0 2),.int .i64 (s 1 0),.int .i64 (s 1 1),.int .i64 (s 1 2),.int .i64 (s 2 0),.int .i64 (s 2 1),.int .i64 (s 2 2),.int .i64 (s 3 0),.int .i64 (s 3 1),.int .i64 (s 3 2),.int .i64 (s 4 0),.int .i64 (s 4 1),.int .i64 (s 4 2)] 24 (0,0))∧wr.heap[gv]?=some (.cells #[.int .i64 vs,.int .i64 st] 29 (0,0))∧wr.heap[gw]?=some (.cells #[.int .i64 ws,.int .i64 sv] 29 (0,0))∧(j=.int .i64 2∨j=.int .i64 3∨j=.int .i64 4∨j=.int .i64 5)) (fun j _=>5-(intOf j).toNat)
        case atStart=>exact ⟨hb,l_k,v_k,w_k,.inl (by go_num)⟩
        case round=>
          clear hb l_k v_k w_k
          obtain ⟨hb,l_k,v_k,w_k,hrel⟩:=hrel
          have hl0:=(Array.getElem?_eq_some_iff.1 l_k).1
          have hv0:=(Array.getElem?_eq_some_iff.1 v_k).1
          have hw0:=(Array.getElem?_eq_some_iff.1 w_k).1
          rcases hrel with rfl | rfl | rfl | rfl
          . clear CA CG CN CS CP CX CY hg01 hg02 hg03 hg04 hg13 hg14 hg23 hg24 hg34
            rename_i z0 z1 z2 z3 z4 z5 z6 z7 z8 z9 z10 z11 z12 z13 z14 z15 z16 z17 z18 z19 z20 z21 z22 z23 z24 z25 z26 z27 z28 z29 z30 z31 z32 z33 z34 z35 z36 z37 z38 z39 z40 z41 z42 z43 z44 z45 z46 z47 z48 z49 z50 z51 z52 z53 z54 z55 z56 z57 z58 z59 z60 z61 z62 z63 z64 z65 z66 z67 z68 z69 z70 z71 z72 z73 z74 z75 z76 z77 z78 z79 z80 z81 z82 z83 z84 z85 z86 z87 z88 z89 z90 z91 z92 z93 z94 z95 z96 z97 z98 z99 z100 z101 z102 z103 z104
            revert z0 x1 y1 y2 y3 gv x3 y4 gx ox nx cx ex qx x4 y5 gw x5 y6 gy oy ny cy ey qy x6 y7 y8 z1 z2 z3 z4 z5 u14 z6 z7 z8 u92 u93 u94 u95 u96 u97 z9 z10 z11 z12 z13 z14 z15 z16 z17 z18 z19 z20 z21 z22 z23 z24 z25 z26 z27 z28 z29 z30 z31 z32 z33 z34 z35 z36 z37 z38 z39 z40 z41 z42 z43 z44 z45 z46 z47 z48 z49 z50 z51 z52 z53 z54 z55 z56 z57 z58 z59 z60 z61 z62 z63 z64 z65 z66 z67 z68 z69 z70 z71 z72 z73 z74 z75 z76 z77 z78 z79 z80 z81 z82 z83 z84 z85 z86 z87 z88 z89 z90 z91 z92 z93 z94 z95 z96 z97 z98 z99 z100 z101 z102 z103 z104 wr u2 u15 u16 u17 u98 u99 u100 u101 u102 u103 u104 u105 u106 u107 u108 u109 u110 u111 u112 u113 u114 u115 u116 u117 u118 u119 u120 u121 u122 u123 u124 u125 u126 u127 u128 u129 u130 u131 u132 u133 u134 u135 u136 u137 u138 u139 u140 u141 u142 u143 u144 u145 u146 u147 u148 u149 u150 u151 u152 u153 u154 u155 u156 u157 u158 u159 u160 u161 u162 u163 u164 u165 u166 u167 u168 u169 u170 u171 u172 u173 u174 u175 u176 u177 u178 u179 u180 u181 u182 u183 u184 u185 u186 u187 u188 u189 u190 hb l_k v_k w_k hl0 hv0 hw0
            exact hg12.out
          . clear CA CG CN CS CP CX CY hg01 hg02 hg03 hg04 hg12 hg14 hg23 hg24 hg34
            rename_i z0 z1 z2 z3 z4 z5 z6 z7 z8 z9 z10 z11 z12 z13 z14 z15 z16 z17 z18 z19 z20 z21 z22 z23 z24 z25 z26 z27 z28 z29 z30 z31 z32 z33 z34 z35 z36 z37 z38 z39 z40 z41 z42 z43 z44 z45 z46 z47 z48 z49 z50 z51 z52 z53 z54 z55 z56 z57 z58 z59 z60 z61 z62 z63 z64 z65 z66 z67 z68 z69 z70 z71 z72 z73 z74 z75 z76 z77 z78 z79 z80 z81 z82 z83 z84 z85 z86 z87 z88 z89 z90 z91 z92 z93 z94 z95 z96 z97 z98 z99 z100 z101 z102 z103 z104
            revert z0 x1 y1 y2 y3 gv x3 y4 gx ox nx cx ex qx x4 y5 gw x5 y6 gy oy ny cy ey qy x6 y7 y8 z1 z2 z3 z4 z5 u14 z6 z7 z8 u92 u93 u94 u95 u96 u97 z9 z10 z11 z12 z13 z14 z15 z16 z17 z18 z19 z20 z21 z22 z23 z24 z25 z26 z27 z28 z29 z30 z31 z32 z33 z34 z35 z36 z37 z38 z39 z40 z41 z42 z43 z44 z45 z46 z47 z48 z49 z50 z51 z52 z53 z54 z55 z56 z57 z58 z59 z60 z61 z62 z63 z64 z65 z66 z67 z68 z69 z70 z71 z72 z73 z74 z75 z76 z77 z78 z79 z80 z81 z82 z83 z84 z85 z86 z87 z88 z89 z90 z91 z92 z93 z94 z95 z96 z97 z98 z99 z100 z101 z102 z103 z104 wr u2 u15 u16 u17 u98 u99 u100 u101 u102 u103 u104 u105 u106 u107 u108 u109 u110 u111 u112 u113 u114 u115 u116 u117 u118 u119 u120 u121 u122 u123 u124 u125 u126 u127 u128 u129 u130 u131 u132 u133 u134 u135 u136 u137 u138 u139 u140 u141 u142 u143 u144 u145 u146 u147 u148 u149 u150 u151 u152 u153 u154 u155 u156 u157 u158 u159 u160 u161 u162 u163 u164 u165 u166 u167 u168 u169 u170 u171 u172 u173 u174 u175 u176 u177 u178 u179 u180 u181 u182 u183 u184 u185 u186 u187 u188 u189 u190 hb l_k v_k w_k hl0 hv0 hw0
            exact hg13.out
          . clear CA CG CN CS CP CX CY hg01 hg02 hg03 hg04 hg12 hg13 hg23 hg24 hg34
            rename_i z0 z1 z2 z3 z4 z5 z6 z7 z8 z9 z10 z11 z12 z13 z14 z15 z16 z17 z18 z19 z20 z21 z22 z23 z24 z25 z26 z27 z28 z29 z30 z31 z32 z33 z34 z35 z36 z37 z38 z39 z40 z41 z42 z43 z44 z45 z46 z47 z48 z49 z50 z51 z52 z53 z54 z55 z56 z57 z58 z59 z60 z61 z62 z63 z64 z65 z66 z67 z68 z69 z70 z71 z72 z73 z74 z75 z76 z77 z78 z79 z80 z81 z82 z83 z84 z85 z86 z87 z88 z89 z90 z91 z92 z93 z94 z95 z96 z97 z98 z99 z100 z101 z102 z103 z104
            revert z0 x1 y1 y2 y3 gv x3 y4 gx ox nx cx ex qx x4 y5 gw x5 y6 gy oy ny cy ey qy x6 y7 y8 z1 z2 z3 z4 z5 u14 z6 z7 z8 u92 u93 u94 u95 u96 u97 z9 z10 z11 z12 z13 z14 z15 z16 z17 z18 z19 z20 z21 z22 z23 z24 z25 z26 z27 z28 z29 z30 z31 z32 z33 z34 z35 z36 z37 z38 z39 z40 z41 z42 z43 z44 z45 z46 z47 z48 z49 z50 z51 z52 z53 z54 z55 z56 z57 z58 z59 z60 z61 z62 z63 z64 z65 z66 z67 z68 z69 z70 z71 z72 z73 z74 z75 z76 z77 z78 z79 z80 z81 z82 z83 z84 z85 z86 z87 z88 z89 z90 z91 z92 z93 z94 z95 z96 z97 z98 z99 z100 z101 z102 z103 z104 wr u2 u15 u16 u17 u98 u99 u100 u101 u102 u103 u104 u105 u106 u107 u108 u109 u110 u111 u112 u113 u114 u115 u116 u117 u118 u119 u120 u121 u122 u123 u124 u125 u126 u127 u128 u129 u130 u131 u132 u133 u134 u135 u136 u137 u138 u139 u140 u141 u142 u143 u144 u145 u146 u147 u148 u149 u150 u151 u152 u153 u154 u155 u156 u157 u158 u159 u160 u161 u162 u163 u164 u165 u166 u167 u168 u169 u170 u171 u172 u173 u174 u175 u176 u177 u178 u179 u180 u181 u182 u183 u184 u185 u186 u187 u188 u189 u190 hb l_k v_k w_k hl0 hv0 hw0
            exact hg14.out
          . go_wp2
            go_roundw
            case rel=>exact ⟨hb,l_k,v_k,w_k,.inr (.inr (.inl (by go_num)))⟩
            case measure=>simp [intOf]
      . go_wp2_with fail
        go_loopw [14] (fun j wr=>Below w.heap.size w wr∧wr.heap[w.heap.size]?=some (.cells #[.int .i64 (s 0 0),.int .i64 (s 0 1),.int .i64 (s 0 2),.int .i64 (s 1 0),.int .i64 (s 1 1),.int .i64 (s 1 2),.int .i64 (s 2 0),.int .i64 (s 2 1),.int .i64 (s 2 2),.int .i64 (s 3 0),.int .i64 (s 3 1),.int .i64 (s 3 2),.int .i64 (s 4 0),.int .i64 (s 4 1),.int .i64 (s 4 2)] 24 (0,0))∧wr.heap[gv]?=some (.cells #[.int .i64 vs,.int .i64 st] 29 (0,0))∧wr.heap[gw]?=some (.cells #[.int .i64 ws,.int .i64 sv] 29 (0,0))∧(j=.int .i64 3∨j=.int .i64 4∨j=.int .i64 5)) (fun j _=>5-(intOf j).toNat)
        case atStart=>exact ⟨hb,l_k,v_k,w_k,.inl (by go_num)⟩
        case round=>
          clear hb l_k v_k w_k
          obtain ⟨hb,l_k,v_k,w_k,hrel⟩:=hrel
          have hl0:=(Array.getElem?_eq_some_iff.1 l_k).1
          have hv0:=(Array.getElem?_eq_some_iff.1 v_k).1
          have hw0:=(Array.getElem?_eq_some_iff.1 w_k).1
          rcases hrel with rfl | rfl | rfl
          . clear CA CG CN CS CP CX CY hg01 hg02 hg03 hg04 hg12 hg13 hg14 hg24 hg34
            rename_i z0 z1 z2 z3 z4 z5 z6 z7 z8 z9 z10 z11 z12 z13 z14 z15 z16 z17 z18 z19 z20 z21 z22 z23 z24 z25 z26 z27 z28 z29 z30 z31 z32 z33 z34 z35 z36 z37 z38 z39 z40 z41 z42 z43 z44 z45 z46 z47 z48 z49 z50 z51 z52 z53 z54 z55 z56 z57 z58 z59 z60 z61 z62 z63 z64 z65 z66 z67 z68 z69 z70 z71 z72 z73 z74 z75 z76 z77 z78 z79 z80 z81 z82 z83 z84 z85 z86 z87 z88 z89 z90 z91 z92 z93 z94 z95 z96 z97 z98 z99 z100 z101 z102 z103 z104
            revert z0 x1 y1 y2 y3 gv x3 y4 gx ox nx cx ex qx x4 y5 gw x5 y6 gy oy ny cy ey qy x6 y7 y8 z1 z2 z3 z4 z5 u14 z6 z7 z8 u92 u93 u94 u95 u96 u97 z9 z10 z11 z12 z13 z14 z15 z16 z17 z18 z19 z20 z21 z22 z23 z24 z25 z26 z27 z28 z29 z30 z31 z32 z33 z34 z35 z36 z37 z38 z39 z40 z41 z42 z43 z44 z45 z46 z47 z48 z49 z50 z51 z52 z53 z54 z55 z56 z57 z58 z59 z60 z61 z62 z63 z64 z65 z66 z67 z68 z69 z70 z71 z72 z73 z74 z75 z76 z77 z78 z79 z80 z81 z82 z83 z84 z85 z86 z87 z88 z89 z90 z91 z92 z93 z94 z95 z96 z97 z98 z99 z100 z101 z102 z103 z104 wr u2 u15 u16 u17 u98 u99 u100 u101 u102 u103 u104 u105 u106 u107 u108 u109 u110 u111 u112 u113 u114 u115 u116 u117 u118 u119 u120 u121 u122 u123 u124 u125 u126 u127 u128 u129 u130 u131 u132 u133 u134 u135 u136 u137 u138 u139 u140 u141 u142 u143 u144 u145 u146 u147 u148 u149 u150 u151 u152 u153 u154 u155 u156 u157 u158 u159 u160 u161 u162 u163 u164 u165 u166 u167 u168 u169 u170 u171 u172 u173 u174 u175 u176 u177 u178 u179 u180 u181 u182 u183 u184 u185 u186 u187 u188 u189 u190 hb l_k v_k w_k hl0 hv0 hw0
            exact hg23.out
          . clear CA CG CN CS CP CX CY hg01 hg02 hg03 hg04 hg12 hg13 hg14 hg23 hg34
            rename_i z0 z1 z2 z3 z4 z5 z6 z7 z8 z9 z10 z11 z12 z13 z14 z15 z16 z17 z18 z19 z20 z21 z22 z23 z24 z25 z26 z27 z28 z29 z30 z31 z32 z33 z34 z35 z36 z37 z38 z39 z40 z41 z42 z43 z44 z45 z46 z47 z48 z49 z50 z51 z52 z53 z54 z55 z56 z57 z58 z59 z60 z61 z62 z63 z64 z65 z66 z67 z68 z69 z70 z71 z72 z73 z74 z75 z76 z77 z78 z79 z80 z81 z82 z83 z84 z85 z86 z87 z88 z89 z90 z91 z92 z93 z94 z95 z96 z97 z98 z99 z100 z101 z102 z103 z104
            revert z0 x1 y1 y2 y3 gv x3 y4 gx ox nx cx ex qx x4 y5 gw x5 y6 gy oy ny cy ey qy x6 y7 y8 z1 z2 z3 z4 z5 u14 z6 z7 z8 u92 u93 u94 u95 u96 u97 z9 z10 z11 z12 z13 z14 z15 z16 z17 z18 z19 z20 z21 z22 z23 z24 z25 z26 z27 z28 z29 z30 z31 z32 z33 z34 z35 z36 z37 z38 z39 z40 z41 z42 z43 z44 z45 z46 z47 z48 z49 z50 z51 z52 z53 z54 z55 z56 z57 z58 z59 z60 z61 z62 z63 z64 z65 z66 z67 z68 z69 z70 z71 z72 z73 z74 z75 z76 z77 z78 z79 z80 z81 z82 z83 z84 z85 z86 z87 z88 z89 z90 z91 z92 z93 z94 z95 z96 z97 z98 z99 z100 z101 z102 z103 z104 wr u2 u15 u16 u17 u98 u99 u100 u101 u102 u103 u104 u105 u106 u107 u108 u109 u110 u111 u112 u113 u114 u115 u116 u117 u118 u119 u120 u121 u122 u123 u124 u125 u126 u127 u128 u129 u130 u131 u132 u133 u134 u135 u136 u137 u138 u139 u140 u141 u142 u143 u144 u145 u146 u147 u148 u149 u150 u151 u152 u153 u154 u155 u156 u157 u158 u159 u160 u161 u162 u163 u164 u165 u166 u167 u168 u169 u170 u171 u172 u173 u174 u175 u176 u177 u178 u179 u180 u181 u182 u183 u184 u185 u186 u187 u188 u189 u190 hb l_k v_k w_k hl0 hv0 hw0
            exact hg24.out
          . go_wp2
            go_roundw
            case rel=>exact ⟨hb,l_k,v_k,w_k,.inr (.inr (.inr (.inl (by go_num))))⟩
            case measure=>simp [intOf]
      . go_wp2_with fail
        go_loopw [14] (fun j wr=>Below w.heap.size w wr∧wr.heap[w.heap.size]?=some (.cells #[.int .i64 (s 0 0),.int .i64 (s 0 1),.int .i64 (s 0 2),.int .i64 (s 1 0),.int .i64 (s 1 1),.int .i64 (s 1 2),.int .i64 (s 2 0),.int .i64 (s 2 1),.int .i64 (s 2 2),.int .i64 (s 3 0),.int .i64 (s 3 1),.int .i64 (s 3 2),.int .i64 (s 4 0),.int .i64 (s 4 1),.int .i64 (s 4 2)] 24 (0,0))∧wr.heap[gv]?=some (.cells #[.int .i64 vs,.int .i64 st] 29 (0,0))∧wr.heap[gw]?=some (.cells #[.int .i64 ws,.int .i64 sv] 29 (0,0))∧(j=.int .i64 4∨j=.int .i64 5)) (fun j _=>5-(intOf j).toNat)
        case atStart=>exact ⟨hb,l_k,v_k,w_k,.inl (by go_num)⟩
        case round=>
          clear hb l_k v_k w_k
          obtain ⟨hb,l_k,v_k,w_k,hrel⟩:=hrel
          have hl0:=(Array.getElem?_eq_some_iff.1 l_k).1
          have hv0:=(Array.getElem?_eq_some_iff.1 v_k).1
          have hw0:=(Array.getElem?_eq_some_iff.1 w_k).1
          rcases hrel with rfl | rfl
          . clear CA CG CN CS CP CX CY hg01 hg02 hg03 hg04 hg12 hg13 hg14 hg23 hg24
            rename_i z0 z1 z2 z3 z4 z5 z6 z7 z8 z9 z10 z11 z12 z13 z14 z15 z16 z17 z18 z19 z20 z21 z22 z23 z24 z25 z26 z27 z28 z29 z30 z31 z32 z33 z34 z35 z36 z37 z38 z39 z40 z41 z42 z43 z44 z45 z46 z47 z48 z49 z50 z51 z52 z53 z54 z55 z56 z57 z58 z59 z60 z61 z62 z63 z64 z65 z66 z67 z68 z69 z70 z71 z72 z73 z74 z75 z76 z77 z78 z79 z80 z81 z82 z83 z84 z85 z86 z87 z88 z89 z90 z91 z92 z93 z94 z95 z96 z97 z98 z99 z100 z101 z102 z103 z104
            revert z0 x1 y1 y2 y3 gv x3 y4 gx ox nx cx ex qx x4 y5 gw x5 y6 gy oy ny cy ey qy x6 y7 y8 z1 z2 z3 z4 z5 u14 z6 z7 z8 u92 u93 u94 u95 u96 u97 z9 z10 z11 z12 z13 z14 z15 z16 z17 z18 z19 z20 z21 z22 z23 z24 z25 z26 z27 z28 z29 z30 z31 z32 z33 z34 z35 z36 z37 z38 z39 z40 z41 z42 z43 z44 z45 z46 z47 z48 z49 z50 z51 z52 z53 z54 z55 z56 z57 z58 z59 z60 z61 z62 z63 z64 z65 z66 z67 z68 z69 z70 z71 z72 z73 z74 z75 z76 z77 z78 z79 z80 z81 z82 z83 z84 z85 z86 z87 z88 z89 z90 z91 z92 z93 z94 z95 z96 z97 z98 z99 z100 z101 z102 z103 z104 wr u2 u15 u16 u17 u98 u99 u100 u101 u102 u103 u104 u105 u106 u107 u108 u109 u110 u111 u112 u113 u114 u115 u116 u117 u118 u119 u120 u121 u122 u123 u124 u125 u126 u127 u128 u129 u130 u131 u132 u133 u134 u135 u136 u137 u138 u139 u140 u141 u142 u143 u144 u145 u146 u147 u148 u149 u150 u151 u152 u153 u154 u155 u156 u157 u158 u159 u160 u161 u162 u163 u164 u165 u166 u167 u168 u169 u170 u171 u172 u173 u174 u175 u176 u177 u178 u179 u180 u181 u182 u183 u184 u185 u186 u187 u188 u189 u190 hb l_k v_k w_k hl0 hv0 hw0
            exact hg34.out
          . go_wp2
            go_roundw
            case rel=>exact ⟨hb,l_k,v_k,w_k,.inr (.inr (.inr (.inr (.inl (by go_num)))))⟩
            case measure=>simp [intOf]
      . go_wp2_with fail
        go_loopw [14] (fun j wr=>Below w.heap.size w wr∧wr.heap[w.heap.size]?=some (.cells #[.int .i64 (s 0 0),.int .i64 (s 0 1),.int .i64 (s 0 2),.int .i64 (s 1 0),.int .i64 (s 1 1),.int .i64 (s 1 2),.int .i64 (s 2 0),.int .i64 (s 2 1),.int .i64 (s 2 2),.int .i64 (s 3 0),.int .i64 (s 3 1),.int .i64 (s 3 2),.int .i64 (s 4 0),.int .i64 (s 4 1),.int .i64 (s 4 2)] 24 (0,0))∧wr.heap[gv]?=some (.cells #[.int .i64 vs,.int .i64 st] 29 (0,0))∧wr.heap[gw]?=some (.cells #[.int .i64 ws,.int .i64 sv] 29 (0,0))∧(j=.int .i64 5)) (fun j _=>5-(intOf j).toNat)
        case atStart=>exact ⟨hb,l_k,v_k,w_k,by go_num⟩
        case round=>
          clear hb l_k v_k w_k
          obtain ⟨hb,l_k,v_k,w_k,hrel⟩:=hrel
          have hl0:=(Array.getElem?_eq_some_iff.1 l_k).1
          have hv0:=(Array.getElem?_eq_some_iff.1 v_k).1
          have hw0:=(Array.getElem?_eq_some_iff.1 w_k).1
          rcases hrel with rfl
          . go_wp2
            go_roundw
            case rel=>exact ⟨hb,l_k,v_k,w_k,.inr (.inr (.inr (.inr (.inr ((by go_num))))))⟩
            case measure=>simp [intOf]
      . go_wp2
        go_ret
        exact ⟨rfl,hb⟩
end Go.Proofs.YtobofhgpidbpmaaDoor.solidTrue
