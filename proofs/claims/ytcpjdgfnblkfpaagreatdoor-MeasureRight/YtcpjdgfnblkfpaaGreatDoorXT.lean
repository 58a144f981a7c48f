/-
  Package expansion: told, with its deferred recover; the closures; withFloat, withList; Grow, Scale, Sum, by their contracts.
-/
import Derived.Test.YtcpjdgfnblkfpaaGreatDoorX9
import Derived.Test.YtcpjdgfnblkfpaaGreatDoorDTold
import Derived.Test.YtcpjdgfnblkfpaaGreatDoorDSetV
namespace Go.Proofs.YtcpjdgfnblkfpaaGreatDoor
open Go Go.RowKit Go.Proofs.YtcpjdgfnblkfpaaGreatDoor.M
set_option linter.unusedSimpArgs false
set_option linter.unusedVariables false

theorem xif_nil (w : World) : (binOp .eql 20 Value.nilIface Value.nilIface).run Tryz.prog w = .ok (.bool true) w := by kernel_rfl
theorem xif_not (w : World) : (binOp .eql 20 (.iface 29 (.int .i64 14)) Value.nilIface).run Tryz.prog w = .ok (.bool false) w := by kernel_rfl
theorem xif_is (w : World) : (binOp .eql 20 (.iface 29 (.int .i64 14)) (.iface 29 (.int .i64 14))).run Tryz.prog w = .ok (.bool true) w := by kernel_rfl
theorem xcatch_panicking (p : Addr) (x : Value) (older : List PanicEntry) (w : World) (hc : w.cell? p = some x) (hz : w.frozen? p = false) :
    CallsD Tryz.prog 111 #[.pointer (some p)] (.panicking ({ v := .iface 29 (.int .i64 14), recovered := false } :: older)) w fun e u' w' =>
      e = .returned (.tuple #[]) ∧ u' = .panicking ({ v := .iface 29 (.int .i64 14), recovered := true } :: older) ∧ w' = w.setCell p (.int .i64 14) := by
  have h1 := xif_not
  have h2 := xif_is
  refine callsD_of_wpS Tryz.func111 rfl fun c₀ cs hu => ?_
  apply wpS_seq
  apply wpS_region
  simp [wpOpsS, go_sem, recoverD, hu, Tryz.ntmps111, Exit.thenS]
  refine wpS_of_wp ?_
  go_wp2
  simp [bodyPostS, results, Tryz.results111]
theorem xcatch_idle (p : Addr) (w : World) :
    CallsD Tryz.prog 111 #[.pointer (some p)] .returning w fun e u' w' => e = .returned (.tuple #[]) ∧ u' = .returning ∧ w' = w := by
  have h1 := xif_nil
  refine callsD_of_wpS Tryz.func111 rfl fun c₀ cs hu => ?_
  apply wpS_seq
  apply wpS_region
  simp [wpOpsS, go_sem, recoverD, hu, Tryz.ntmps111, Exit.thenS]
  refine wpS_of_wp ?_
  go_wp2
  cases c₀
  simp_all [bodyPostS, results, Tryz.results111]
set_option maxRecDepth 100000 in
set_option maxHeartbeats 1000000 in
theorem xtold_no (F : Nat) (cap : Array Value) (w : World) (hE : ∀ w, (callFunc F cap).run Tryz.prog w = .ok (.enter F cap) w) (hF : ∀ W, Below w.heap.size w W → Calls Tryz.prog F cap W fun r W' => r = gaveX ∧ Below W.heap.size W W') :
    Calls Tryz.prog 80 #[.func (.func F) #[] cap] w fun r w' => r = .returned (.tuple #[.slice none 0 0, .int .i64 14]) ∧ Below w.heap.size w w' := by
  have hmf : ∀ (fn : Fn) (first cap : Array Value) (w : World), (Instr.makeFunc fn first cap).run Tryz.prog w = .ok (.func fn first cap) w := fun _ _ _ _ => rfl
  go_enter_defers Tryz.func80, Tryz.ntmps80
  go_wp2_with fail
  refine (hF _ (bel_alloc _ _)).mono ?_
  rintro r W' ⟨rfl, hb⟩
  unfold gaveX
  have q1 := (hb.block w.heap.size (by rw [size1]; omega)).trans (heap_a1 _ _)
  have f0 := blkF q1 0
  have k0 := blkC q1 0 rfl
  go_wp2_with fail
  refine leaves_cons (f := 111) (args := #[.pointer (some ⟨w.heap.size, 0, none⟩)]) (by simp) (by simp [go_sem]) ?_
  refine (xcatch_panicking ⟨w.heap.size, 0, none⟩ _ [] _ k0 f0).mono ?_
  rintro e u' w'' ⟨rfl, rfl, rfl⟩
  simp [Leaves, settle, results, Tryz.results80, go_sem, k0]
  exact (bel_trans (bel_alloc _ _) hb).setCell (Nat.le_refl _) _
set_option maxRecDepth 100000 in
set_option maxHeartbeats 1000000 in
theorem xtold_yes (F : Nat) (cap : Array Value) (w : World) (s : Ls) (hE : ∀ w, (callFunc F cap).run Tryz.prog w = .ok (.enter F cap) w) (hF : ∀ W, Below w.heap.size w W → Calls Tryz.prog F cap W fun r W' => ∃ v, r = .returned v ∧ LsO W.heap.size W' v s ∧ Below W.heap.size W W') :
    Calls Tryz.prog 80 #[.func (.func F) #[] cap] w fun r w' => ∃ v, r = .returned (.tuple #[v, .int .i64 0]) ∧ LsO w.heap.size w' v s ∧ Below w.heap.size w w' := by
  have hmf : ∀ (fn : Fn) (first cap : Array Value) (w : World), (Instr.makeFunc fn first cap).run Tryz.prog w = .ok (.func fn first cap) w := fun _ _ _ _ => rfl
  go_enter_defers Tryz.func80, Tryz.ntmps80
  go_wp2_with fail
  refine (hF _ (bel_alloc _ _)).mono ?_
  rintro r W' ⟨v, rfl, hL, hb⟩
  have q1 := (hb.block w.heap.size (by rw [size1]; omega)).trans (heap_a1 _ _)
  have f0 := blkF q1 0
  have k0 := blkC q1 0 rfl
  have hL2 : LsO w.heap.size (W'.setCell ⟨w.heap.size, 0, none⟩ (.int .i64 0)) v s := by
    rcases hL with h | h
    · exact .inl ((h.set_below (a := ⟨w.heap.size, 0, none⟩) (by rw [size1]; exact Nat.lt_succ_self _) _).lower (by rw [size1]; omega))
    · exact .inr h
  have hb2 : Below w.heap.size w (W'.setCell ⟨w.heap.size, 0, none⟩ (.int .i64 0)) := (bel_trans (bel_alloc _ _) hb).setCell (p := ⟨w.heap.size, 0, none⟩) (Nat.le_refl _) _
  obtain ⟨ao, cc, rfl⟩ := hL.shape
  go_wp2_with fail
  refine leaves_cons (f := 111) (args := #[.pointer (some ⟨w.heap.size, 0, none⟩)]) (by simp) (by simp [go_sem]) ?_
  refine (xcatch_idle ⟨w.heap.size, 0, none⟩ _).mono ?_
  rintro e u' w'' ⟨rfl, rfl, rfl⟩
  simp [Leaves, settle, results, Tryz.results80, go_sem, k0]
  first | exact hb2 | exact ⟨hL2, hb2⟩ | exact ⟨_, rfl, hL2, hb2⟩
end Go.Proofs.YtcpjdgfnblkfpaaGreatDoor
