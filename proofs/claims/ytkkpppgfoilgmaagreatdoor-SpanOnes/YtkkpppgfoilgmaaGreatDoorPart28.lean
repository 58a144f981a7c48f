/-
  plumblaw8's is and twos, by what the calls answer (tools/p8e.py)
-/
import Derived.Test.YtkkpppgfoilgmaaGreatDoorPart27
import Derived.Deep.RegionHeld3
set_option maxRecDepth 100000
set_option maxHeartbeats 8000000
set_option linter.unusedVariables false
set_option linter.unusedSimpArgs false
namespace Go.Proofs.YtkkpppgfoilgmaaGreatDoor
open Go Go.Proofs.Tryz Go.RowKit Go.Proofs.YtkkpppgfoilgmaaGreatDoor.M
theorem lN (x y:Int) (w:World):Calls prog 18 #[.agg #[.int .i64 0,.int .i64 0],.int .i64 1,.bool true,.agg #[.int .i64 x,.int .i64 y]] w fun e w'=>e=.returned (.bool true)∧Below w.heap.size w w':=by
 have hb:=aq w
 go_enter func18,ntmps18
 have s_k:=bv w (.cells #[.int .i64 0,.int .i64 0] 23) (.cells #[.int .i64 x,.int .i64 y] 23)
 have t_k:=bh w (.cells #[.int .i64 0,.int .i64 0] 23) (.cells #[.int .i64 x,.int .i64 y] 23)
 have f0:=ab s_k 0 rfl
 have f1:=ab s_k 1 rfl
 have f2:=ab t_k 0 rfl
 have f3:=ab t_k 1 rfl
 go_wp2
 go_ret
 exact⟨rfl,ax w _ _⟩
theorem fv (x y:Int) (w:World):Calls prog 18 #[.agg #[.int .i64 x,.int .i64 y],.int .i64 0,.bool false,.agg #[.int .i64 x,.int .i64 y]] w fun e w'=>e=.returned (.bool true)∧Below w.heap.size w w':=by
 have hb:=aq w
 go_enter func18,ntmps18
 have s_k:=bv w (.cells #[.int .i64 x,.int .i64 y] 23) (.cells #[.int .i64 x,.int .i64 y] 23)
 have t_k:=bh w (.cells #[.int .i64 x,.int .i64 y] 23) (.cells #[.int .i64 x,.int .i64 y] 23)
 have f0:=ab s_k 0 rfl
 have f1:=ab s_k 1 rfl
 have f2:=ab t_k 0 rfl
 have f3:=ab t_k 1 rfl
 go_wp2
 go_ret
 exact⟨rfl,ax w _ _⟩
end Go.Proofs.YtkkpppgfoilgmaaGreatDoor
