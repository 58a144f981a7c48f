/-
  Package span: plus, by its contract, over what sum tells.
-/
import Derived.Test.YtcpjdgfnblkfpaaGreatDoorSPt4
namespace Go.Proofs.YtcpjdgfnblkfpaaGreatDoor
open Go Go.RowKit Go.Proofs.YtcpjdgfnblkfpaaGreatDoor.M
set_option linter.unusedSimpArgs false
set_option linter.unusedVariables false

set_option maxRecDepth 100000 in
set_option maxHeartbeats 1000000 in
theorem plus_any {a b c d l l' h' h : Nat} (w : World)
    (S1 : Hid (∀ W, Calls Tryz.prog 90 #[.float .f64 a, .float .f64 c] W fun e w' => e = .returned (.agg #[.float .f64 l, .float .f64 l']) ∧ Below W.heap.size W w'))
    (S2 : Hid (∀ W, Calls Tryz.prog 90 #[.float .f64 b, .float .f64 d] W fun e w' => e = .returned (.agg #[.float .f64 h', .float .f64 h]) ∧ Below W.heap.size W w')) :
    Calls Tryz.prog 59 #[.agg #[.float .f64 a, .float .f64 b], .agg #[.float .f64 c, .float .f64 d]] w fun e w' => e = .returned (.agg #[.float .f64 l, .float .f64 h]) ∧ Below w.heap.size w w' := by
  obtain ⟨q0, q1, q2, hs, hb3⟩ := heap3 w (.cells #[.float .f64 a, .float .f64 b] 98) (.cells #[.float .f64 c, .float .f64 d] 98) (.cells #[.float .f64 0, .float .f64 0] 98)
  have k0 := blkC q0 0 rfl
  have k1 := blkC q0 1 rfl
  have k2 := blkC q1 0 rfl
  have k3 := blkC q1 1 rfl
  go_enter Tryz.func59, Tryz.ntmps59
  go_wp2_with fail
  generalize ((w.alloc (.cells #[.float .f64 a, .float .f64 b] 98)).alloc (.cells #[.float .f64 c, .float .f64 d] 98)).alloc (.cells #[.float .f64 0, .float .f64 0] 98) = wx at *
  obtain ⟨g, hg⟩ : ∃ g, w.heap.size + 1 + 1 = g := ⟨_, rfl⟩
  have hwg : w.heap.size + 2 ≤ g := by omega
  replace q2 : wx.drew.heap[g]? = some (.cells #[.float .f64 0, .float .f64 0] 98 (0, 0)) := by rw [← hg]; exact q2
  simp only [hg]
  clear hg
  have hc : (w.heap.size < w.heap.size + 2 ∧ w.heap.size + 1 < w.heap.size + 2 ∧ w.heap.size + 2 ≤ wx.drew.heap.size) ∧ wx.drew.cell? ⟨w.heap.size, 0, none⟩ = some (.float .f64 a) ∧ wx.drew.cell? ⟨w.heap.size, 1, none⟩ = some (.float .f64 b) ∧ wx.drew.cell? ⟨w.heap.size + 1, 0, none⟩ = some (.float .f64 c) ∧ wx.drew.cell? ⟨w.heap.size + 1, 1, none⟩ = some (.float .f64 d) := ⟨⟨by omega, by omega, by show _ ≤ wx.heap.size; omega⟩, k0, k1, k2, k3⟩
  have hbd := hb3.drew
  have fl0 : ∀ w : World, (Instr.field 98 (.agg #[.float .f64 l, .float .f64 l']) 0).run Tryz.prog w = .ok (.float .f64 l) w := fun w => by kernel_rfl
  have fl1 : ∀ w : World, (Instr.field 98 (.agg #[.float .f64 h', .float .f64 h]) 1).run Tryz.prog w = .ok (.float .f64 h) w := fun w => by kernel_rfl
  clear q0 q1 k0 k1 k2 k3
  go_region_held3 (fun W => (w.heap.size < w.heap.size + 2 ∧ w.heap.size + 1 < w.heap.size + 2 ∧ w.heap.size + 2 ≤ W.heap.size) ∧ W.cell? ⟨w.heap.size, 0, none⟩ = some (.float .f64 a) ∧ W.cell? ⟨w.heap.size, 1, none⟩ = some (.float .f64 b) ∧ W.cell? ⟨w.heap.size + 1, 0, none⟩ = some (.float .f64 c) ∧ W.cell? ⟨w.heap.size + 1, 1, none⟩ = some (.float .f64 d))
    (first | assumption | (repeat (first | exact hc | exact hc1 | exact hc2 | refine s4_drew ?_ | refine s4_set (by omega) ?_)))
    (first
      | (go_at_call 90; have _t := hb4; refine (S2.out _).mono ?_; rintro _ w2 ⟨rfl, hb5⟩; have hc2 := s4_keep hc1 hb5; have d2 := ((bel_trans hb4 hb5).block _ (Array.getElem?_eq_some_iff.1 q2).1).trans q2; have d3 := q_heap_set d2 0 (.float .f64 l); have d4 := q_heap_set d3 1 (.float .f64 h); have f0 := blkC d2 0 rfl; have z0 := blkF d2 0; have f1 := blkC d3 1 rfl; have z1 := blkF d3 1; have s0 : (store ⟨g, 0, none⟩ (.float .f64 l)).run Tryz.prog w2 = .ok () (w2.setCell ⟨g, 0, none⟩ (.float .f64 l)) := (by rw [run_store _ _ _ _ _ rfl, f0]; simp only [z0]; rfl); have s1 : (store ⟨g, 1, none⟩ (.float .f64 h)).run Tryz.prog (w2.setCell ⟨g, 0, none⟩ (.float .f64 l)) = .ok () ((w2.setCell ⟨g, 0, none⟩ (.float .f64 l)).setCell ⟨g, 1, none⟩ (.float .f64 h)) := (by rw [run_store _ _ _ _ _ rfl, f1]; simp only [z1]; rfl))
      | (go_at_call 90; refine (S1.out _).mono ?_; rintro _ w1 ⟨rfl, hb4⟩; have hc1 := s4_keep hc hb4))
  have e0 := blkC d4 0 rfl
  have e1 := blkC d4 1 rfl
  have hbe := ((bel_trans hbd (bel_trans hb4 hb5)).setCell (p := ⟨g, 0, none⟩) (show w.heap.size ≤ g by omega) (.float .f64 l)).setCell (p := ⟨g, 1, none⟩) (show w.heap.size ≤ g by omega) (.float .f64 h)
  clear d2 d3 d4 f0 f1 z0 z1 s0 s1 hc hc1 hc2
  generalize (w2.setCell ⟨g, 0, none⟩ (.float .f64 l)).setCell ⟨g, 1, none⟩ (.float .f64 h) = wy at *
  go_wp2
  refine bodyPost_ret (v := .agg #[.float .f64 l, .float .f64 h]) (by simp [results, Tryz.results59, go_sem, e0, e1]) rfl ⟨rfl, hbe⟩
end Go.Proofs.YtcpjdgfnblkfpaaGreatDoor
