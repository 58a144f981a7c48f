/-
  Package round: sums to the nearest, by their contracts.
-/
import Derived.Test.YtcpjdgfnblkfpaaGreatDoorRQuo3
namespace Go.Proofs.YtcpjdgfnblkfpaaGreatDoor
open Go Go.RowKit Go.Proofs.YtcpjdgfnblkfpaaGreatDoor.M
set_option linter.unusedSimpArgs false
set_option linter.unusedVariables false

set_option maxRecDepth 100000 in
set_option maxHeartbeats 1000000 in
theorem operate_near (F G : Value) (hF : ∃ f, F = .func f #[] #[]) (hG : ∃ f, G = .func f #[] #[]) (near : Int) (R : Value) (o : Option Addr) (n c : Nat) (w : World) :
    Calls Tryz.prog 152 #[.agg #[F, G], .int .i64 near, .int .i64 0, R, .slice o n c] w fun e w' => e = .returned (.tuple #[.int .i64 near, .int .i64 0]) ∧ Below w.heap.size w w' := by
  obtain ⟨f, rfl⟩ := hF
  obtain ⟨g, rfl⟩ := hG
  have CW := fun W => wayOf_any 0 W
  unfold wayV wayF at CW
  simp only [if_true] at CW
  have hst : ∀ (p : Addr) (F : Nat) (m : Mode) (w : World), (store p (.func (.func F) #[] #[]) m).run Tryz.prog w = stored Tryz.prog w p (.func (.func F) #[] #[]) m := fun p F m w => run_store _ w p _ m rfl
  go_enter Tryz.func152, Tryz.ntmps152
  go_wp2_with fail
  refine (CW _).mono ?_
  rintro _ w2 ⟨rfl, hb2⟩
  have hb1 := bel_alloc w (.cells #[.func f #[] #[], .func g #[] #[]] 164)
  have hbw := bel_trans hb1 hb2
  have q1 := heap_alloc_new w2 (.cells #[.nilFunc] 174)
  have y0 := blkC q1 0 rfl
  have y1 := blkF q1 0
  clear CW
  go_wp2
  all_goals refine bodyPost_ret (v := .tuple #[.int .i64 near, .int .i64 0]) (by simp [results, Tryz.results152, go_sem]) rfl ⟨rfl, ?_⟩
  all_goals exact bel_trans hbw (bel_alloc _ _)
set_option maxRecDepth 100000 in
theorem double_any (w : World) : Calls Tryz.prog 151 #[] w fun e w' => e = .returned (.agg #[.func (.func 62) #[] #[], .func (.func 154) #[] #[]]) ∧ Below w.heap.size w w' := by
  have hmf : ∀ (fn : Fn) (first cap : Array Value) (w : World), (Instr.makeFunc fn first cap).run Tryz.prog w = .ok (.func fn first cap) w := fun _ _ _ _ => rfl
  have hst : ∀ (p : Addr) (F : Nat) (m : Mode) (w : World), (store p (.func (.func F) #[] #[]) m).run Tryz.prog w = stored Tryz.prog w p (.func (.func F) #[] #[]) m := fun p F m w => run_store _ w p _ m rfl
  have q1 := heap_alloc_new w (.cells #[.nilFunc, .nilFunc] 164)
  have x0 := blkC q1 0 rfl
  have x1 := blkC q1 1 rfl
  have z0 := blkF q1 0
  have z1 := blkF q1 1
  go_enter Tryz.func151, Tryz.ntmps151
  go_wp2
  all_goals refine bodyPost_ret (v := .agg #[.func (.func 62) #[] #[], .func (.func 154) #[] #[]]) (by simp [results, Tryz.results151, go_sem]) rfl ⟨rfl, ?_⟩
  all_goals exact bel_alloc _ _
end Go.Proofs.YtcpjdgfnblkfpaaGreatDoor
