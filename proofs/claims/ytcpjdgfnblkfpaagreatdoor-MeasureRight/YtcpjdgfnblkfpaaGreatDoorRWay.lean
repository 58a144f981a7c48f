/-
  Package round: the ways, by their contracts.
-/
import Derived.Test.YtcpjdgfnblkfpaaGreatDoorRM
import Derived.Test.YtcpjdgfnblkfpaaGreatDoorDTold
import Derived.WideLaws
namespace Go.Proofs.YtcpjdgfnblkfpaaGreatDoor
open Go Go.RowKit Go.Proofs.YtcpjdgfnblkfpaaGreatDoor.M
set_option linter.unusedSimpArgs false
set_option linter.unusedVariables false

theorem raise1 (ng odd : Bool) (left : Int) (w : World) : Calls Tryz.prog 161 #[.bool ng, .bool odd, .int .i64 left] w fun e w' => e = .returned (.bool (rUp 0 ng odd left)) ∧ w' = w := by
  unfold rUp
  rw [if_pos rfl]
  go_enter Tryz.func161, Tryz.ntmps161
  by_cases h3 : left = 3
  · subst h3
    go_wp2
    go_ret
    exact ⟨by simp, rfl⟩
  · by_cases h2 : left = 2
    · subst h2
      go_wp2
      go_ret
      exact ⟨by simp, rfl⟩
    · go_wp2
      go_ret
      exact ⟨by simp [h2, h3], rfl⟩
theorem raise2 (ng odd : Bool) (left : Int) (w : World) : Calls Tryz.prog 162 #[.bool ng, .bool odd, .int .i64 left] w fun e w' => e = .returned (.bool (rUp 1 ng odd left)) ∧ w' = w := by
  unfold rUp
  rw [if_neg (by decide), if_pos rfl]
  go_enter Tryz.func162, Tryz.ntmps162
  by_cases h0 : left = 0
  · subst h0
    go_wp2
    go_ret
    exact ⟨by simp, rfl⟩
  · go_wp2
    go_ret
    exact ⟨by simp [h0], rfl⟩
theorem raise3 (ng odd : Bool) (left : Int) (w : World) : Calls Tryz.prog 163 #[.bool ng, .bool odd, .int .i64 left] w fun e w' => e = .returned (.bool (rUp 2 ng odd left)) ∧ w' = w := by
  unfold rUp
  rw [if_neg (by decide), if_neg (by decide), if_pos rfl]
  go_enter Tryz.func163, Tryz.ntmps163
  by_cases h0 : left = 0
  · subst h0
    go_wp2
    go_ret
    exact ⟨by simp, rfl⟩
  · go_wp2
    go_ret
    exact ⟨by simp [h0], rfl⟩
theorem raise4 (ng odd : Bool) (left : Int) (w : World) : Calls Tryz.prog 164 #[.bool ng, .bool odd, .int .i64 left] w fun e w' => e = .returned (.bool (rUp 3 ng odd left)) ∧ w' = w := by
  unfold rUp
  rw [if_neg (by decide), if_neg (by decide), if_neg (by decide)]
  go_enter Tryz.func164, Tryz.ntmps164
  go_wp2
  go_ret
  exact ⟨rfl, rfl⟩
/-- The function of a way. -/
def wayF (way : Int) : Nat := if way = 0 then 161 else if way = 1 then 162 else if way = 2 then 163 else 164
def wayV (way : Int) : Value := .agg #[.func (.func (wayF way)) #[] #[]]
theorem heap4_alloc (w : World) (a : Obj) {x0 x1 x2 x3 : Value} {t : TypeId} : ((w.alloc a).alloc (.cells #[x0, x1, x2, x3] t)).heap[w.heap.size + 1]? = some (.cells #[x0, x1, x2, x3] t (0, 0)) := heap_b2 w a _
set_option maxRecDepth 100000 in
theorem wayOf_any (way : Int) (w : World) : Calls Tryz.prog 155 #[.int .i64 way] w fun e w' => e = .returned (.tuple #[if 0 ≤ way ∧ way ≤ 3 then wayV way else .agg #[.nilFunc], .bool (decide (0 ≤ way ∧ way ≤ 3))]) ∧ Below w.heap.size w w' := by
  have hmf : ∀ (fn : Fn) (first cap : Array Value) (w : World), (Instr.makeFunc fn first cap).run Tryz.prog w = .ok (.func fn first cap) w := fun _ _ _ _ => rfl
  have hst : ∀ (p : Addr) (F : Nat) (m : Mode) (w : World), (store p (.func (.func F) #[] #[]) m).run Tryz.prog w = stored Tryz.prog w p (.func (.func F) #[] #[]) m := fun p F m w => run_store _ w p _ m rfl
  have hsn : ∀ (p : Addr) (m : Mode) (w : World), (store p .nilFunc m).run Tryz.prog w = stored Tryz.prog w p .nilFunc m := fun p m w => run_store _ w p _ m rfl
  have hb2 := bel_alloc2 w (.cells #[.nilFunc] 174) (.cells #[.nilFunc, .nilFunc, .nilFunc, .nilFunc] 185)
  have q0 := heap_a2 w (.cells #[.nilFunc] 174) (.cells #[.nilFunc, .nilFunc, .nilFunc, .nilFunc] 185)
  have q1 := heap_b2 w (.cells #[.nilFunc] 174) (.cells #[.nilFunc, .nilFunc, .nilFunc, .nilFunc] 185)
  have x0 := blkC q1 0 rfl
  have x1 := blkC q1 1 rfl
  have x2 := blkC q1 2 rfl
  have x3 := blkC q1 3 rfl
  have z0 := blkF q1 0
  have z1 := blkF q1 1
  have z2 := blkF q1 2
  have z3 := blkF q1 3
  have y0 := blkC q0 0 rfl
  have y1 := blkF q0 0
  by_cases h0 : way < 0
  · go_enter Tryz.func155, Tryz.ntmps155
    go_wp2
    refine bodyPost_ret (v := .tuple #[.agg #[.nilFunc], .bool false]) (by simp [results, Tryz.results155, go_sem]) rfl ⟨?_, ?_⟩
    · rfl
    · exact bel_alloc2 _ _ _
  by_cases h4 : 4 ≤ way
  · go_enter Tryz.func155, Tryz.ntmps155
    go_wp2
    refine bodyPost_ret (v := .tuple #[.agg #[.nilFunc], .bool false]) (by simp [results, Tryz.results155, go_sem]) rfl ⟨?_, ?_⟩
    · rfl
    · exact bel_alloc2 _ _ _
  rw [if_pos (by omega), show decide (0 ≤ way ∧ way ≤ 3) = true from decide_eq_true (by omega)]
  have hc : way = 0 ∨ way = 1 ∨ way = 2 ∨ way = 3 := by omega
  rcases hc with rfl | rfl | rfl | rfl
  all_goals
    go_enter Tryz.func155, Tryz.ntmps155
    go_wp2
    refine bodyPost_ret (v := .tuple #[wayV _, .bool true]) (by simp [results, Tryz.results155, go_sem, wayV, wayF]; first | done | rfl) rfl ⟨rfl, ?_⟩
    exact bel_alloc2 _ _ _
end Go.Proofs.YtcpjdgfnblkfpaaGreatDoor
