/-
  Parts of the proof, one behind another.
-/
import Derived.Test.YtmpioejllfedoaaGreatDoorPart15
import Derived.Test.YtmpioejllfedoaaGreatDoorPart16
import Derived.Test.YtmpioejllfedoaaGreatDoorPart14
import Derived.Test.YtmpioejllfedoaaGreatDoorPart12
import Derived.Deep.RegionHeld3
/-
  plumblaw8's alive: span.Add and Sign at constants.
-/
namespace Go.Proofs.YtmpioejllfedoaaGreatDoor
open Go Go.RowKit Go.Proofs.YtmpioejllfedoaaGreatDoor.M
set_option linter.unusedSimpArgs false
set_option linter.unusedVariables false

theorem abs1 (W : World) : Calls Tryz.prog 80 #[.float .f64 4607182418800017408] W fun e w' => e = .returned (.float .f64 4607182418800017408) ∧ w' = W := by
  have := mathAbs (b := 4607182418800017408) (by unfold rng; omega) W
  rw [show wd 4607182418800017408 = 4607182418800017408 by decide, show rg 4607182418800017408 = 4607182418800017408 by decide, show wd 4607182418800017408 = 4607182418800017408 by decide] at this
  exact this
theorem abs2 (W : World) : Calls Tryz.prog 80 #[.float .f64 4611686018427387904] W fun e w' => e = .returned (.float .f64 4611686018427387904) ∧ w' = W := by
  have := mathAbs (b := 4611686018427387904) (by unfold rng; omega) W
  rw [show wd 4611686018427387904 = 4611686018427387904 by decide, show rg 4611686018427387904 = 4611686018427387904 by decide, show wd 4611686018427387904 = 4611686018427387904 by decide] at this
  exact this
set_option maxRecDepth 100000 in
theorem sum11 (w : World) :
    Calls Tryz.prog 65 #[.float .f64 4607182418800017408, .float .f64 4607182418800017408] w fun e w' => e = .returned (.agg #[.float .f64 4611686018427387904, .float .f64 4611686018427387904]) ∧ w' = (w.alloc (.cells #[.float .f64 4611686018427387904, .float .f64 4611686018427387904] 61)).alloc (.cells #[.float .f64 4611686018427387904, .float .f64 4611686018427387904] 61) := by
  have hst : ∀ (p : Addr) (n : Nat) (m : Mode) (w : World), (store p (.float .f64 n) m).run Tryz.prog w = stored Tryz.prog w p (.float .f64 n) m := fun p n m w => run_store _ w p _ m rfl
  have o : FloatKind.f64.format.order 4607182418800017408 4607182418800017408 = some .eq := by decide +kernel
  have h1 : ∀ w : World, (binOp .add 59 (.float .f64 4607182418800017408) (.float .f64 4607182418800017408)).run Tryz.prog w = .ok (.float .f64 4611686018427387904) w := fun w => by kernel_rfl
  have h2 : ∀ w : World, (binOp .sub 59 (.float .f64 4611686018427387904) (.float .f64 4607182418800017408)).run Tryz.prog w = .ok (.float .f64 4607182418800017408) w := fun w => by kernel_rfl
  have h3 : ∀ w : World, (binOp .sub 59 (.float .f64 4607182418800017408) (.float .f64 4607182418800017408)).run Tryz.prog w = .ok (.float .f64 0) w := fun w => by kernel_rfl
  have hg := hl_last (w.alloc (.cells #[.float .f64 4611686018427387904, .float .f64 4611686018427387904] 61)) (.cells #[.float .f64 4611686018427387904, .float .f64 4611686018427387904] 61) rfl
  have hg0 : ((w.alloc (.cells #[.float .f64 4611686018427387904, .float .f64 4611686018427387904] 61)).alloc (.cells #[.float .f64 4611686018427387904, .float .f64 4611686018427387904] 61)).heap[w.heap.size]? = some (.cells #[.float .f64 4611686018427387904, .float .f64 4611686018427387904] 61 (0, 0)) := heap_a2 w _ _
  have e0 := blkC hg0 0 rfl
  have e1 := blkC hg0 1 rfl
  go_enter Tryz.func65, Tryz.ntmps65
  go_wp2_with (first | (go_at_call 80; refine (abs1 _).mono ?_; rintro _ _ ⟨rfl, rfl⟩)  | (go_at_call 81; refine (besideZ _ _).mono ?_; rintro _ _ ⟨rfl, rfl⟩))
  refine bodyPost_ret (v := .agg #[.float .f64 4611686018427387904, .float .f64 4611686018427387904]) (by simp [results, Tryz.results65, go_sem, e0, e1]) rfl ⟨rfl, rfl⟩
set_option maxRecDepth 100000 in
theorem sum12 (w : World) :
    Calls Tryz.prog 65 #[.float .f64 4607182418800017408, .float .f64 4611686018427387904] w fun e w' => e = .returned (.agg #[.float .f64 4613937818241073152, .float .f64 4613937818241073152]) ∧ w' = (w.alloc (.cells #[.float .f64 4613937818241073152, .float .f64 4613937818241073152] 61)).alloc (.cells #[.float .f64 4613937818241073152, .float .f64 4613937818241073152] 61) := by
  have hst : ∀ (p : Addr) (n : Nat) (m : Mode) (w : World), (store p (.float .f64 n) m).run Tryz.prog w = stored Tryz.prog w p (.float .f64 n) m := fun p n m w => run_store _ w p _ m rfl
  have o : FloatKind.f64.format.order 4607182418800017408 4611686018427387904 = some .lt := by decide +kernel
  have h1 : ∀ w : World, (binOp .add 59 (.float .f64 4611686018427387904) (.float .f64 4607182418800017408)).run Tryz.prog w = .ok (.float .f64 4613937818241073152) w := fun w => by kernel_rfl
  have h2 : ∀ w : World, (binOp .sub 59 (.float .f64 4613937818241073152) (.float .f64 4611686018427387904)).run Tryz.prog w = .ok (.float .f64 4607182418800017408) w := fun w => by kernel_rfl
  have h3 : ∀ w : World, (binOp .sub 59 (.float .f64 4607182418800017408) (.float .f64 4607182418800017408)).run Tryz.prog w = .ok (.float .f64 0) w := fun w => by kernel_rfl
  have hg := hl_last (w.alloc (.cells #[.float .f64 4613937818241073152, .float .f64 4613937818241073152] 61)) (.cells #[.float .f64 4613937818241073152, .float .f64 4613937818241073152] 61) rfl
  have hg0 : ((w.alloc (.cells #[.float .f64 4613937818241073152, .float .f64 4613937818241073152] 61)).alloc (.cells #[.float .f64 4613937818241073152, .float .f64 4613937818241073152] 61)).heap[w.heap.size]? = some (.cells #[.float .f64 4613937818241073152, .float .f64 4613937818241073152] 61 (0, 0)) := heap_a2 w _ _
  have e0 := blkC hg0 0 rfl
  have e1 := blkC hg0 1 rfl
  go_enter Tryz.func65, Tryz.ntmps65
  go_wp2_with (first | (go_at_call 80; refine (abs1 _).mono ?_; rintro _ _ ⟨rfl, rfl⟩) | (go_at_call 80; refine (abs2 _).mono ?_; rintro _ _ ⟨rfl, rfl⟩)  | (go_at_call 81; refine (besideZ _ _).mono ?_; rintro _ _ ⟨rfl, rfl⟩))
  refine bodyPost_ret (v := .agg #[.float .f64 4613937818241073152, .float .f64 4613937818241073152]) (by simp [results, Tryz.results65, go_sem, e0, e1]) rfl ⟨rfl, rfl⟩
set_option maxRecDepth 100000 in
set_option maxHeartbeats 1000000 in
theorem plusC (w : World) :
    Calls Tryz.prog 35 #[.agg #[.float .f64 4607182418800017408, .float .f64 4607182418800017408], .agg #[.float .f64 4607182418800017408, .float .f64 4611686018427387904]] w fun e w' => e = .returned (.agg #[.float .f64 4611686018427387904, .float .f64 4613937818241073152]) ∧ Below w.heap.size w w' := by
  have hst : ∀ (p : Addr) (n : Nat) (m : Mode) (w : World), (store p (.float .f64 n) m).run Tryz.prog w = stored Tryz.prog w p (.float .f64 n) m := fun p n m w => run_store _ w p _ m rfl
  obtain ⟨q0, q1, q2, hs, hb3⟩ := heap3 w (.cells #[.float .f64 4607182418800017408, .float .f64 4607182418800017408] 61) (.cells #[.float .f64 4607182418800017408, .float .f64 4611686018427387904] 61) (.cells #[.float .f64 0, .float .f64 0] 61)
  have k0 := blkC q0 0 rfl
  have k1 := blkC q0 1 rfl
  have k2 := blkC q1 0 rfl
  have k3 := blkC q1 1 rfl
  have S1 : Hid (∀ W, Calls Tryz.prog 65 #[.float .f64 4607182418800017408, .float .f64 4607182418800017408] W fun e w' => e = .returned (.agg #[.float .f64 4611686018427387904, .float .f64 4611686018427387904]) ∧ Below W.heap.size W w') := fun W => (sum11 W).mono fun _ _ ⟨h1, h2⟩ => ⟨h1, by rw [h2]; exact bel_alloc2 W _ _⟩
  have S2 : Hid (∀ W, Calls Tryz.prog 65 #[.float .f64 4607182418800017408, .float .f64 4611686018427387904] W fun e w' => e = .returned (.agg #[.float .f64 4613937818241073152, .float .f64 4613937818241073152]) ∧ Below W.heap.size W w') := fun W => (sum12 W).mono fun _ _ ⟨h1, h2⟩ => ⟨h1, by rw [h2]; exact bel_alloc2 W _ _⟩
  go_enter Tryz.func35, Tryz.ntmps35
  go_wp2_with fail
  generalize ((w.alloc (.cells #[.float .f64 4607182418800017408, .float .f64 4607182418800017408] 61)).alloc (.cells #[.float .f64 4607182418800017408, .float .f64 4611686018427387904] 61)).alloc (.cells #[.float .f64 0, .float .f64 0] 61) = wx at *
  obtain ⟨g, hg⟩ : ∃ g, w.heap.size + 1 + 1 = g := ⟨_, rfl⟩
  have hwg : w.heap.size + 2 ≤ g := by omega
  replace q2 : wx.drew.heap[g]? = some (.cells #[.float .f64 0, .float .f64 0] 61 (0, 0)) := by rw [← hg]; exact q2
  simp only [hg]
  clear hg hst
  have hc : (w.heap.size < w.heap.size + 2 ∧ w.heap.size + 1 < w.heap.size + 2 ∧ w.heap.size + 2 ≤ wx.drew.heap.size) ∧ wx.drew.cell? ⟨w.heap.size, 0, none⟩ = some (.float .f64 4607182418800017408) ∧ wx.drew.cell? ⟨w.heap.size, 1, none⟩ = some (.float .f64 4607182418800017408) ∧ wx.drew.cell? ⟨w.heap.size + 1, 0, none⟩ = some (.float .f64 4607182418800017408) ∧ wx.drew.cell? ⟨w.heap.size + 1, 1, none⟩ = some (.float .f64 4611686018427387904) := ⟨⟨by omega, by omega, by show _ ≤ wx.heap.size; omega⟩, k0, k1, k2, k3⟩
  have hbd := hb3.drew
  have fl0 : ∀ w : World, (Instr.field 61 (.agg #[.float .f64 4611686018427387904, .float .f64 4611686018427387904]) 0).run Tryz.prog w = .ok (.float .f64 4611686018427387904) w := fun w => by kernel_rfl
  have fl1 : ∀ w : World, (Instr.field 61 (.agg #[.float .f64 4613937818241073152, .float .f64 4613937818241073152]) 1).run Tryz.prog w = .ok (.float .f64 4613937818241073152) w := fun w => by kernel_rfl
  clear q0 q1 k0 k1 k2 k3
  go_region_held3 (fun W => (w.heap.size < w.heap.size + 2 ∧ w.heap.size + 1 < w.heap.size + 2 ∧ w.heap.size + 2 ≤ W.heap.size) ∧ W.cell? ⟨w.heap.size, 0, none⟩ = some (.float .f64 4607182418800017408) ∧ W.cell? ⟨w.heap.size, 1, none⟩ = some (.float .f64 4607182418800017408) ∧ W.cell? ⟨w.heap.size + 1, 0, none⟩ = some (.float .f64 4607182418800017408) ∧ W.cell? ⟨w.heap.size + 1, 1, none⟩ = some (.float .f64 4611686018427387904))
    (first | assumption | (repeat (first | exact hc | exact hc1 | exact hc2 | refine s4_drew ?_ | refine s4_set (by omega) ?_)))
    (first
      | (go_at_call 65; have _t := hb4; refine (S2.out _).mono ?_; rintro _ w2 ⟨rfl, hb5⟩; have hc2 := s4_keep hc1 hb5; have d2 := ((bel_trans hb4 hb5).block _ (Array.getElem?_eq_some_iff.1 q2).1).trans q2; have d3 := q_heap_set d2 0 (.float .f64 4611686018427387904); have d4 := q_heap_set d3 1 (.float .f64 4613937818241073152); have f0 := blkC d2 0 rfl; have z0 := blkF d2 0; have f1 := blkC d3 1 rfl; have z1 := blkF d3 1; have s0 : (store ⟨g, 0, none⟩ (.float .f64 4611686018427387904)).run Tryz.prog w2 = .ok () (w2.setCell ⟨g, 0, none⟩ (.float .f64 4611686018427387904)) := (by rw [run_store _ _ _ _ _ rfl, f0]; simp only [z0]; rfl); have s1 : (store ⟨g, 1, none⟩ (.float .f64 4613937818241073152)).run Tryz.prog (w2.setCell ⟨g, 0, none⟩ (.float .f64 4611686018427387904)) = .ok () ((w2.setCell ⟨g, 0, none⟩ (.float .f64 4611686018427387904)).setCell ⟨g, 1, none⟩ (.float .f64 4613937818241073152)) := (by rw [run_store _ _ _ _ _ rfl, f1]; simp only [z1]; rfl))
      | (go_at_call 65; refine (S1.out _).mono ?_; rintro _ w1 ⟨rfl, hb4⟩; have hc1 := s4_keep hc hb4))
  have e0 := blkC d4 0 rfl
  have e1 := blkC d4 1 rfl
  have hbe := ((bel_trans hbd (bel_trans hb4 hb5)).setCell (p := ⟨g, 0, none⟩) (show w.heap.size ≤ g by omega) (.float .f64 4611686018427387904)).setCell (p := ⟨g, 1, none⟩) (show w.heap.size ≤ g by omega) (.float .f64 4613937818241073152)
  clear d2 d3 d4 f0 f1 z0 z1 s0 s1 hc hc1 hc2
  generalize (w2.setCell ⟨g, 0, none⟩ (.float .f64 4611686018427387904)).setCell ⟨g, 1, none⟩ (.float .f64 4613937818241073152) = wy at *
  go_wp2
  refine bodyPost_ret (v := .agg #[.float .f64 4611686018427387904, .float .f64 4613937818241073152]) (by simp [results, Tryz.results35, go_sem, e0, e1]) rfl ⟨rfl, hbe⟩
set_option maxRecDepth 100000 in
theorem addC (w : World) (L : Lays w) :
    Calls Tryz.prog 11 #[.agg #[.int .i64 4607182418800017408, .int .i64 4607182418800017408], .agg #[.int .i64 4607182418800017408, .int .i64 4611686018427387904]] w fun e w' => e = .returned (.tuple #[.agg #[.int .i64 4611686018427387904, .int .i64 4613937818241073152], .int .i64 0]) ∧ Below w.heap.size w w' := by
  have w1 : wd 4607182418800017408 = 4607182418800017408 := by decide
  have w2 : wd 4611686018427387904 = 4611686018427387904 := by decide
  have w3 : wd 4613937818241073152 = 4613937818241073152 := by decide
  have r1 : rng 4607182418800017408 := by unfold rng; omega
  have r2 : rng 4611686018427387904 := by unfold rng; omega
  have r3 : rng 4613937818241073152 := by unfold rng; omega
  have hE : ∀ (cap : Array Value) (w : World), (callFunc 35 cap).run Tryz.prog w = .ok (.enter 35 cap) w := by
    intro cap w
    simp [go_sem]
  have CJ : Hid (∀ W, Lays W → Calls Tryz.prog 34 #[.agg #[.int .i64 4607182418800017408, .int .i64 4607182418800017408], .agg #[.int .i64 4607182418800017408, .int .i64 4611686018427387904], .func (.func 35) #[] #[]] W fun e w' => e = .returned (.tuple #[.agg #[.int .i64 4611686018427387904, .int .i64 4613937818241073152], .int .i64 0]) ∧ Below W.heap.size W w') := fun W LW => by
    have := ofTwo_any (x := 4611686018427387904) (y := 4613937818241073152) _ r1 r1 r1 r2 W LW hE (fun _ _ => ⟨⟨r2, by decide⟩, ⟨r3, by decide⟩, fun W' _ => by
      unfold ivl
      rw [w1, w2, w3]
      exact plusC W'⟩)
    rw [show vld 4607182418800017408 4607182418800017408 = true by decide, show vld 4607182418800017408 4611686018427387904 = true by decide, show canon 4611686018427387904 = 4611686018427387904 by decide, show canon 4613937818241073152 = 4613937818241073152 by decide] at this
    exact this
  obtain ⟨q0, q1, q2, hs, hb3⟩ := heap3 w (.cells #[.int .i64 4607182418800017408, .int .i64 4607182418800017408] 23) (.cells #[.int .i64 4607182418800017408, .int .i64 4611686018427387904] 23) (.cells #[.int .i64 0, .int .i64 0] 23)
  have L2 := L.below' hb3
  clear w1 w2 w3 r1 r2 r3
  go_enter Tryz.func11, Tryz.ntmps11
  go_wp2_with fail
  generalize ((w.alloc (.cells #[.int .i64 4607182418800017408, .int .i64 4607182418800017408] 23)).alloc (.cells #[.int .i64 4607182418800017408, .int .i64 4611686018427387904] 23)).alloc (.cells #[.int .i64 0, .int .i64 0] 23) = wx at *
  refine (CJ.out _ L2).mono ?_
  rintro _ w1 ⟨rfl, hb4⟩
  have d2 := (hb4.block _ (Array.getElem?_eq_some_iff.1 q2).1).trans q2
  have d3 := q_heap_set d2 0 (.int .i64 4611686018427387904)
  have d4 := q_heap_set d3 1 (.int .i64 4613937818241073152)
  have f0 := blkC d2 0 rfl
  have z0 := blkF d2 0
  have f1 := blkC d3 1 rfl
  have z1 := blkF d3 1
  have e0 := blkC d4 0 rfl
  have e1 := blkC d4 1 rfl
  have hbe := ((bel_trans hb3 hb4).setCell (p := ⟨w.heap.size + 1 + 1, 0, none⟩) (show w.heap.size ≤ w.heap.size + 1 + 1 by omega) (.int .i64 4611686018427387904)).setCell (p := ⟨w.heap.size + 1 + 1, 1, none⟩) (show w.heap.size ≤ w.heap.size + 1 + 1 by omega) (.int .i64 4613937818241073152)
  clear d2 d3 d4 q0 q1 q2
  go_wp2
  refine bodyPost_ret (v := .tuple #[.agg #[.int .i64 4611686018427387904, .int .i64 4613937818241073152], .int .i64 0]) (by simp [results, Tryz.results11, go_sem, e0, e1]) rfl ⟨rfl, hbe⟩
set_option maxRecDepth 100000 in
theorem signC (w : World) :
    Calls Tryz.prog 18 #[.agg #[.int .i64 4611686018427387904, .int .i64 4613937818241073152]] w fun e w' => e = .returned (.tuple #[.int .i64 1, .bool true, .int .i64 0]) ∧ Below w.heap.size w w' := by
  have hst : ∀ (p : Addr) (n : Nat) (m : Mode) (w : World), (store p (.float .f64 n) m).run Tryz.prog w = stored Tryz.prog w p (.float .f64 n) m := fun p n m w => run_store _ w p _ m rfl
  have w2 : wd 4611686018427387904 = 4611686018427387904 := by decide
  have w3 : wd 4613937818241073152 = 4613937818241073152 := by decide
  have r2 : rng 4611686018427387904 := by unfold rng; omega
  have r3 : rng 4613937818241073152 := by unfold rng; omega
  have o : FloatKind.f64.format.order 4611686018427387904 0 = some .gt := by decide +kernel
  have R1 : Hid (∀ W, Calls Tryz.prog 38 #[.agg #[.int .i64 4611686018427387904, .int .i64 4613937818241073152]] W fun e w' => e = .returned (.agg #[.float .f64 4611686018427387904, .float .f64 4613937818241073152]) ∧ Below W.heap.size W w') := fun W => by
    have := spanRead 4611686018427387904 4613937818241073152 W
    unfold spn ivl at this
    rw [w2, w3] at this
    exact this
  have V1 : Hid (∀ W, Calls Tryz.prog 39 #[.agg #[.float .f64 4611686018427387904, .float .f64 4613937818241073152]] W fun e w' => e = .returned (.bool true) ∧ Below W.heap.size W w') := fun W => by
    have := ivlValid r2 r3 W
    unfold ivl at this
    rw [w2, w3, show vld 4611686018427387904 4613937818241073152 = true by decide] at this
    exact this
  have hb := bel_alloc w (.cells #[.int .i64 4611686018427387904, .int .i64 4613937818241073152] 23)
  go_enter Tryz.func18, Tryz.ntmps18
  go_wp2_with fail
  generalize w.alloc (.cells #[.int .i64 4611686018427387904, .int .i64 4613937818241073152] 23) = wx at *
  refine (R1.out _).mono ?_
  rintro _ w1 ⟨rfl, hb1⟩
  have hba := bel_alloc w1 (.cells #[.float .f64 4611686018427387904, .float .f64 4613937818241073152] 61)
  have hg := hl_last w1 (.cells #[.float .f64 4611686018427387904, .float .f64 4613937818241073152] 61) rfl
  go_wp2_with fail
  generalize w1.alloc (.cells #[.float .f64 4611686018427387904, .float .f64 4613937818241073152] 61) = w2 at *
  refine (V1.out _).mono ?_
  rintro _ w3 ⟨rfl, hb2⟩
  have hg3 := (hb2.block _ (Array.getElem?_eq_some_iff.1 hg).1).trans hg
  have c0 := blkC hg3 0 rfl
  have c1 := blkC hg3 1 rfl
  go_wp2
  refine bodyPost_ret (v := .tuple #[.int .i64 1, .bool true, .int .i64 0]) (by simp [results, Tryz.results18, go_sem]) rfl ⟨rfl, bel_trans hb (bel_trans hb1 (bel_trans hba hb2))⟩
end Go.Proofs.YtmpioejllfedoaaGreatDoor

/-
  Package span: Sign on any interval, by its contract.
-/
namespace Go.Proofs.YtmpioejllfedoaaGreatDoor
open Go Go.RowKit Go.Proofs.YtmpioejllfedoaaGreatDoor.M
set_option linter.unusedSimpArgs false
set_option linter.unusedVariables false

def sgV (a b : Int) : Int := if vld a b then (if 0 < key a then 1 else if key b < 0 then -1 else 0) else 0
def sgK (a b : Int) : Bool := vld a b && (decide (0 < key a) || (decide (key b < 0) || (decide (key a = 0) && decide (key b = 0))))
theorem ord0 {a : Int} (ha : nn a) : (0 < key a → FloatKind.f64.format.order (wd a) 0 = some .gt) ∧ (key a = 0 → FloatKind.f64.format.order (wd a) 0 = some .eq) ∧ (key a < 0 → FloatKind.f64.format.order (wd a) 0 = some .lt) := by
  have w0 : wd 0 = 0 := by decide
  have k0 : key 0 = 0 := by decide
  refine ⟨fun g => ?_, fun g => ?_, fun g => ?_⟩
  · have := q_gt ha.1 nn0.1.1 ha.2 nn0.1.2 (by rw [k0]; exact g); rw [w0] at this; exact this
  · have := q_eq ha.1 nn0.1.1 ha.2 nn0.1.2 (by rw [k0]; exact g); rw [w0] at this; exact this
  · have := q_lt ha.1 nn0.1.1 ha.2 nn0.1.2 (by rw [k0]; exact g); rw [w0] at this; exact this
set_option maxRecDepth 100000 in
set_option maxHeartbeats 2000000 in
theorem sign_core {a b : Int} (A B : Nat) (v kn : Bool) (n : Int) (er : Int) (w : World)
    (R1 : Hid (∀ W, Calls Tryz.prog 38 #[.agg #[.int .i64 a, .int .i64 b]] W fun e w' => e = .returned (.agg #[.float .f64 A, .float .f64 B]) ∧ Below W.heap.size W w'))
    (V1 : Hid (∀ W, Calls Tryz.prog 39 #[.agg #[.float .f64 A, .float .f64 B]] W fun e w' => e = .returned (.bool v) ∧ Below W.heap.size W w'))
    (O : (v = false ∧ n = 0 ∧ kn = false ∧ er = 1) ∨ (v = true ∧ er = 0 ∧ ((FloatKind.f64.format.order A 0 = some .gt ∧ n = 1 ∧ kn = true) ∨ ((FloatKind.f64.format.order A 0 = some .lt ∨ FloatKind.f64.format.order A 0 = some .eq) ∧ FloatKind.f64.format.order B 0 = some .lt ∧ n = -1 ∧ kn = true) ∨ (FloatKind.f64.format.order A 0 = some .lt ∧ (FloatKind.f64.format.order B 0 = some .gt ∨ FloatKind.f64.format.order B 0 = some .eq) ∧ n = 0 ∧ kn = false) ∨ (FloatKind.f64.format.order A 0 = some .eq ∧ FloatKind.f64.format.order B 0 = some .gt ∧ n = 0 ∧ kn = false) ∨ (FloatKind.f64.format.order A 0 = some .eq ∧ FloatKind.f64.format.order B 0 = some .eq ∧ n = 0 ∧ kn = true)))) :
    Calls Tryz.prog 18 #[.agg #[.int .i64 a, .int .i64 b]] w fun e w' => e = .returned (.tuple #[.int .i64 n, .bool kn, .int .i64 er]) ∧ Below w.heap.size w w' := by
  have hst : ∀ (p : Addr) (n : Nat) (m : Mode) (w : World), (store p (.float .f64 n) m).run Tryz.prog w = stored Tryz.prog w p (.float .f64 n) m := fun p n m w => run_store _ w p _ m rfl
  have QX : ∀ (x : Nat) W, (Op.equalIn 9999 59 (.float .f64 x) (.float .f64 0)).run Tryz.prog W = .ok (FloatKind.f64.format.order x 0 == some .eq) W := fun x W => by rw [run_eqF W 9998 59 _ x 0 Tryz.underlying59]
  have hb := bel_alloc w (.cells #[.int .i64 a, .int .i64 b] 23)
  rcases O with ⟨rfl, rfl, rfl, rfl⟩ | ⟨rfl, rfl, O⟩
  · go_enter Tryz.func18, Tryz.ntmps18
    go_wp2_with fail
    generalize w.alloc (.cells #[.int .i64 a, .int .i64 b] 23) = wx at *
    refine (R1.out _).mono ?_
    rintro _ w1 ⟨rfl, hb1⟩
    have hba := bel_alloc w1 (.cells #[.float .f64 A, .float .f64 B] 61)
    have hg := hl_last w1 (.cells #[.float .f64 A, .float .f64 B] 61) rfl
    go_wp2_with fail
    generalize w1.alloc (.cells #[.float .f64 A, .float .f64 B] 61) = w2 at *
    refine (V1.out _).mono ?_
    rintro _ w3 ⟨rfl, hb2⟩
    go_wp2
    refine bodyPost_ret (v := .tuple #[.int .i64 0, .bool false, .int .i64 1]) (by simp [results, Tryz.results18, go_sem]) rfl ⟨rfl, bel_trans hb (bel_trans hb1 (bel_trans hba hb2))⟩
  · rcases O with ⟨o1, rfl, rfl⟩ | ⟨o1 | o1, o2, rfl, rfl⟩ | ⟨o1, o2 | o2, rfl, rfl⟩ | ⟨o1, o2, rfl, rfl⟩ | ⟨o1, o2, rfl, rfl⟩
    all_goals
      go_enter Tryz.func18, Tryz.ntmps18
      go_wp2_with fail
      generalize w.alloc (.cells #[.int .i64 a, .int .i64 b] 23) = wx at *
      refine (R1.out _).mono ?_
      rintro _ w1 ⟨rfl, hb1⟩
      have hba := bel_alloc w1 (.cells #[.float .f64 A, .float .f64 B] 61)
      have hg := hl_last w1 (.cells #[.float .f64 A, .float .f64 B] 61) rfl
      go_wp2_with fail
      generalize w1.alloc (.cells #[.float .f64 A, .float .f64 B] 61) = w2 at *
      refine (V1.out _).mono ?_
      rintro _ w3 ⟨rfl, hb2⟩
      have hg3 := (hb2.block _ (Array.getElem?_eq_some_iff.1 hg).1).trans hg
      have c0 : w3.cell? ⟨w1.heap.size, 0, none⟩ = some (.float .f64 A) := blkC hg3 0 rfl
      have c1 : w3.cell? ⟨w1.heap.size, 1, none⟩ = some (.float .f64 B) := blkC hg3 1 rfl
      have kd : w3.drew.cell? ⟨w1.heap.size, 0, none⟩ = some (.float .f64 A) ∧ w3.drew.cell? ⟨w1.heap.size, 1, none⟩ = some (.float .f64 B) := ⟨c0, c1⟩
    · go_wp2
      refine bodyPost_ret (v := .tuple #[.int .i64 1, .bool true, .int .i64 0]) (by simp [results, Tryz.results18, go_sem]) rfl ⟨rfl, bel_trans hb (bel_trans hb1 (bel_trans hba hb2))⟩
    iterate 2
      · go_wp2
        refine bodyPost_ret (v := .tuple #[.int .i64 (-1), .bool true, .int .i64 0]) (by simp [results, Tryz.results18, go_sem]) rfl ⟨rfl, bel_trans hb (bel_trans hb1 (bel_trans hba hb2))⟩
    all_goals
      have QA := fun W => QX A W
      have QB := fun W => QX B W
      rw [o1] at QA
      rw [o2] at QB
      clear QX
      go_wp2_with fail
      go_region_held3 (fun W => W.cell? ⟨w1.heap.size, 0, none⟩ = some (.float .f64 A) ∧ W.cell? ⟨w1.heap.size, 1, none⟩ = some (.float .f64 B)) (first | assumption | exact kd) (fail)
      go_wp2
    iterate 3
      · exact bodyPost_ret (v := .tuple #[.int .i64 0, .bool false, .int .i64 0]) (by simp [results, Tryz.results18, go_sem]) rfl ⟨rfl, (bel_trans hb (bel_trans hb1 (bel_trans hba hb2))).drew⟩
    · exact bodyPost_ret (v := .tuple #[.int .i64 0, .bool true, .int .i64 0]) (by simp [results, Tryz.results18, go_sem]) rfl ⟨rfl, (bel_trans hb (bel_trans hb1 (bel_trans hba hb2))).drew⟩
theorem spanSignE {a b : Int} (ha : rng a) (hb : rng b) (w : World) :
    Calls Tryz.prog 18 #[spn a b] w fun e w' => e = .returned (.tuple #[.int .i64 (sgV a b), .bool (sgK a b), .int .i64 (errA (vld a b))]) ∧ Below w.heap.size w w' := by
  refine sign_core (wd a) (wd b) (vld a b) (sgK a b) (sgV a b) (errA (vld a b)) w (fun W => spanRead a b W) (fun W => ivlValid ha hb W) ?_
  cases hv : vld a b
  · left
    unfold sgV sgK errA
    rw [hv]
    simp
  · right
    obtain ⟨va, vb, h1, h2, h3⟩ := vld_iff.1 hv
    obtain ⟨a1, a2, a3⟩ := ord0 ⟨ha, va⟩
    obtain ⟨b1, b2, b3⟩ := ord0 ⟨hb, vb⟩
    refine ⟨rfl, rfl, ?_⟩
    unfold sgV sgK
    rw [hv]
    simp only [if_true, Bool.true_and]
    by_cases p1 : 0 < key a
    · left
      exact ⟨a1 p1, if_pos p1, by simp [p1]⟩
    · right
      have p1' : key a < 0 ∨ key a = 0 := by omega
      by_cases p2 : key b < 0
      · left
        exact ⟨p1'.imp a3 a2, b3 p2, by rw [if_neg p1, if_pos p2], by simp [p2]⟩
      · right
        have q0 : decide (0 < key a) = false := decide_eq_false p1
        have q1 : decide (key b < 0) = false := decide_eq_false p2
        rw [if_neg p1, if_neg p2, q0, q1]
        simp only [Bool.false_or]
        rcases p1' with p3 | p3
        · left
          refine ⟨a3 p3, ?_, by first | rfl | trivial, by rw [decide_eq_false (by omega)]; rfl⟩
          rcases (show 0 < key b ∨ key b = 0 by omega) with q | q
          · exact .inl (b1 q)
          · exact .inr (b2 q)
        · right
          rcases (show 0 < key b ∨ key b = 0 by omega) with q | q
          · left
            exact ⟨a2 p3, b1 q, by first | rfl | trivial, by rw [decide_eq_false (show ¬ key b = 0 by omega)]; simp⟩
          · right
            exact ⟨a2 p3, b2 q, by first | rfl | trivial, by rw [decide_eq_true p3, decide_eq_true q]; rfl⟩
end Go.Proofs.YtmpioejllfedoaaGreatDoor

/-
  Package span: plus, by its contract, over what sum tells.
-/
namespace Go.Proofs.YtmpioejllfedoaaGreatDoor
open Go Go.RowKit Go.Proofs.YtmpioejllfedoaaGreatDoor.M
set_option linter.unusedSimpArgs false
set_option linter.unusedVariables false

set_option maxRecDepth 100000 in
set_option maxHeartbeats 1000000 in
theorem plus_any {a b c d l l' h' h : Nat} (w : World)
    (S1 : Hid (∀ W, Calls Tryz.prog 65 #[.float .f64 a, .float .f64 c] W fun e w' => e = .returned (.agg #[.float .f64 l, .float .f64 l']) ∧ Below W.heap.size W w'))
    (S2 : Hid (∀ W, Calls Tryz.prog 65 #[.float .f64 b, .float .f64 d] W fun e w' => e = .returned (.agg #[.float .f64 h', .float .f64 h]) ∧ Below W.heap.size W w')) :
    Calls Tryz.prog 35 #[.agg #[.float .f64 a, .float .f64 b], .agg #[.float .f64 c, .float .f64 d]] w fun e w' => e = .returned (.agg #[.float .f64 l, .float .f64 h]) ∧ Below w.heap.size w w' := by
  obtain ⟨q0, q1, q2, hs, hb3⟩ := heap3 w (.cells #[.float .f64 a, .float .f64 b] 61) (.cells #[.float .f64 c, .float .f64 d] 61) (.cells #[.float .f64 0, .float .f64 0] 61)
  have k0 := blkC q0 0 rfl
  have k1 := blkC q0 1 rfl
  have k2 := blkC q1 0 rfl
  have k3 := blkC q1 1 rfl
  go_enter Tryz.func35, Tryz.ntmps35
  go_wp2_with fail
  generalize ((w.alloc (.cells #[.float .f64 a, .float .f64 b] 61)).alloc (.cells #[.float .f64 c, .float .f64 d] 61)).alloc (.cells #[.float .f64 0, .float .f64 0] 61) = wx at *
  obtain ⟨g, hg⟩ : ∃ g, w.heap.size + 1 + 1 = g := ⟨_, rfl⟩
  have hwg : w.heap.size + 2 ≤ g := by omega
  replace q2 : wx.drew.heap[g]? = some (.cells #[.float .f64 0, .float .f64 0] 61 (0, 0)) := by rw [← hg]; exact q2
  simp only [hg]
  clear hg
  have hc : (w.heap.size < w.heap.size + 2 ∧ w.heap.size + 1 < w.heap.size + 2 ∧ w.heap.size + 2 ≤ wx.drew.heap.size) ∧ wx.drew.cell? ⟨w.heap.size, 0, none⟩ = some (.float .f64 a) ∧ wx.drew.cell? ⟨w.heap.size, 1, none⟩ = some (.float .f64 b) ∧ wx.drew.cell? ⟨w.heap.size + 1, 0, none⟩ = some (.float .f64 c) ∧ wx.drew.cell? ⟨w.heap.size + 1, 1, none⟩ = some (.float .f64 d) := ⟨⟨by omega, by omega, by show _ ≤ wx.heap.size; omega⟩, k0, k1, k2, k3⟩
  have hbd := hb3.drew
  have fl0 : ∀ w : World, (Instr.field 61 (.agg #[.float .f64 l, .float .f64 l']) 0).run Tryz.prog w = .ok (.float .f64 l) w := fun w => by kernel_rfl
  have fl1 : ∀ w : World, (Instr.field 61 (.agg #[.float .f64 h', .float .f64 h]) 1).run Tryz.prog w = .ok (.float .f64 h) w := fun w => by kernel_rfl
  clear q0 q1 k0 k1 k2 k3
  go_region_held3 (fun W => (w.heap.size < w.heap.size + 2 ∧ w.heap.size + 1 < w.heap.size + 2 ∧ w.heap.size + 2 ≤ W.heap.size) ∧ W.cell? ⟨w.heap.size, 0, none⟩ = some (.float .f64 a) ∧ W.cell? ⟨w.heap.size, 1, none⟩ = some (.float .f64 b) ∧ W.cell? ⟨w.heap.size + 1, 0, none⟩ = some (.float .f64 c) ∧ W.cell? ⟨w.heap.size + 1, 1, none⟩ = some (.float .f64 d))
    (first | assumption | (repeat (first | exact hc | exact hc1 | exact hc2 | refine s4_drew ?_ | refine s4_set (by omega) ?_)))
    (first
      | (go_at_call 65; have _t := hb4; refine (S2.out _).mono ?_; rintro _ w2 ⟨rfl, hb5⟩; have hc2 := s4_keep hc1 hb5; have d2 := ((bel_trans hb4 hb5).block _ (Array.getElem?_eq_some_iff.1 q2).1).trans q2; have d3 := q_heap_set d2 0 (.float .f64 l); have d4 := q_heap_set d3 1 (.float .f64 h); have f0 := blkC d2 0 rfl; have z0 := blkF d2 0; have f1 := blkC d3 1 rfl; have z1 := blkF d3 1; have s0 : (store ⟨g, 0, none⟩ (.float .f64 l)).run Tryz.prog w2 = .ok () (w2.setCell ⟨g, 0, none⟩ (.float .f64 l)) := (by rw [run_store _ _ _ _ _ rfl, f0]; simp only [z0]; rfl); have s1 : (store ⟨g, 1, none⟩ (.float .f64 h)).run Tryz.prog (w2.setCell ⟨g, 0, none⟩ (.float .f64 l)) = .ok () ((w2.setCell ⟨g, 0, none⟩ (.float .f64 l)).setCell ⟨g, 1, none⟩ (.float .f64 h)) := (by rw [run_store _ _ _ _ _ rfl, f1]; simp only [z1]; rfl))
      | (go_at_call 65; refine (S1.out _).mono ?_; rintro _ w1 ⟨rfl, hb4⟩; have hc1 := s4_keep hc hb4))
  have e0 := blkC d4 0 rfl
  have e1 := blkC d4 1 rfl
  have hbe := ((bel_trans hbd (bel_trans hb4 hb5)).setCell (p := ⟨g, 0, none⟩) (show w.heap.size ≤ g by omega) (.float .f64 l)).setCell (p := ⟨g, 1, none⟩) (show w.heap.size ≤ g by omega) (.float .f64 h)
  clear d2 d3 d4 f0 f1 z0 z1 s0 s1 hc hc1 hc2
  generalize (w2.setCell ⟨g, 0, none⟩ (.float .f64 l)).setCell ⟨g, 1, none⟩ (.float .f64 h) = wy at *
  go_wp2
  refine bodyPost_ret (v := .agg #[.float .f64 l, .float .f64 h]) (by simp [results, Tryz.results35, go_sem, e0, e1]) rfl ⟨rfl, hbe⟩
end Go.Proofs.YtmpioejllfedoaaGreatDoor

/-
  Package span: squared, by its contract.
-/
namespace Go.Proofs.YtmpioejllfedoaaGreatDoor
open Go Go.RowKit Go.Proofs.YtmpioejllfedoaaGreatDoor.M
set_option linter.unusedSimpArgs false
set_option linter.unusedVariables false

theorem set2 {w0 w : World} {g : Nat} (h : Below w0.heap.size w0 w) (hg : w0.heap.size ≤ g) (a b : Value) : Below w0.heap.size w0 ((w.setCell ⟨g, 0, none⟩ a).setCell ⟨g, 1, none⟩ b) := (h.setCell (p := ⟨g, 0, none⟩) hg a).setCell (p := ⟨g, 1, none⟩) hg b
set_option maxRecDepth 100000 in
set_option maxHeartbeats 4000000 in
theorem squared_any {a b l h l2 h2 m x : Nat} (w : World) (H : Hold4 w)
    (S0 : Hid (∀ W, Hold4 W → Calls Tryz.prog 66 #[.float .f64 a, .float .f64 a] W fun e w' => e = .returned (.agg #[.float .f64 l, .float .f64 h]) ∧ Below W.heap.size W w'))
    (S1 : Hid (∀ W, Hold4 W → Calls Tryz.prog 66 #[.float .f64 b, .float .f64 b] W fun e w' => e = .returned (.agg #[.float .f64 l2, .float .f64 h2]) ∧ Below W.heap.size W w'))
    (J : Hid (∀ W, Calls Tryz.prog 43 #[.agg #[.float .f64 l, .float .f64 h], .agg #[.float .f64 l2, .float .f64 h2]] W fun e w' => e = .returned (.agg #[.float .f64 m, .float .f64 x]) ∧ Below W.heap.size W w'))
    (u : Nat) (O : (FloatKind.f64.format.order a 0 = some .gt ∧ u = m) ∨ ((FloatKind.f64.format.order a 0 = some .lt ∨ FloatKind.f64.format.order a 0 = some .eq) ∧ FloatKind.f64.format.order b 0 = some .lt ∧ u = m) ∨ ((FloatKind.f64.format.order a 0 = some .lt ∨ FloatKind.f64.format.order a 0 = some .eq) ∧ (FloatKind.f64.format.order b 0 = some .gt ∨ FloatKind.f64.format.order b 0 = some .eq) ∧ u = 0)) :
    Calls Tryz.prog 41 #[.agg #[.float .f64 a, .float .f64 b]] w fun e w' => e = .returned (.agg #[.float .f64 u, .float .f64 x]) ∧ Below w.heap.size w w' := by
  have hst : ∀ (p : Addr) (x : Nat) (m : Mode) (w : World), (store p (.float .f64 x) m).run Tryz.prog w = stored Tryz.prog w p (.float .f64 x) m := fun p x m w => run_store _ w p _ m rfl
  have hb2 := bel_alloc2 w (.cells #[.float .f64 a, .float .f64 b] 61) (.cells #[.float .f64 0, .float .f64 0] 61)
  have q0 := heap_a2 w (.cells #[.float .f64 a, .float .f64 b] 61) (.cells #[.float .f64 0, .float .f64 0] 61)
  have q1 := heap_b2 w (.cells #[.float .f64 a, .float .f64 b] 61) (.cells #[.float .f64 0, .float .f64 0] 61)
  go_enter Tryz.func41, Tryz.ntmps41
  go_wp2_with fail
  generalize ((w.alloc (.cells #[.float .f64 a, .float .f64 b] 61)).alloc (.cells #[.float .f64 0, .float .f64 0] 61)) = xw at q0 q1 hb2 ⊢
  have KK : ∀ W, Below xw.heap.size xw W → W.cell? ⟨w.heap.size, 0, none⟩ = some (.float .f64 a) ∧ W.cell? ⟨w.heap.size, 1, none⟩ = some (.float .f64 b) := fun W hb => ⟨blkC (blk_up hb q0) 0 rfl, blkC (blk_up hb q0) 1 rfl⟩
  rename_i Q0 K1 hK1
  have HN : ∀ (gA : Nat) (X : World) (t : Array Value), #[t.getD 0 undef, .pointer (some ⟨w.heap.size, 0, none⟩), .pointer (some ⟨w.heap.size + 1, 0, none⟩), .pointer (some ⟨gA, 0, none⟩), t.getD 4 undef, t.getD 5 undef, t.getD 6 undef, t.getD 7 undef, t.getD 8 undef, t.getD 9 undef, t.getD 10 undef, t.getD 11 undef, t.getD 12 undef, t.getD 13 undef, t.getD 14 undef, t.getD 15 undef, t.getD 16 undef, t.getD 17 undef, t.getD 18 undef, t.getD 19 undef, t.getD 20 undef, t.getD 21 undef, t.getD 22 undef, t.getD 23 undef, t.getD 24 undef] = t → X.heap[gA]? = some (.cells #[.float .f64 m, .float .f64 x] 61 (0, 0)) → Below xw.heap.size xw X → xw.heap.size ≤ gA → Exit.then K1 Q0 Exit.normal { tmps := t, defers := [] } X := by
    intro gA X t ht n_k hX hgA
    obtain ⟨t', hu⟩ : ∃ t' : Nat → Value, t = #[t' 0, .pointer (some ⟨w.heap.size, 0, none⟩), .pointer (some ⟨w.heap.size + 1, 0, none⟩), .pointer (some ⟨gA, 0, none⟩), t' 4, t' 5, t' 6, t' 7, t' 8, t' 9, t' 10, t' 11, t' 12, t' 13, t' 14, t' 15, t' 16, t' 17, t' 18, t' 19, t' 20, t' 21, t' 22, t' 23, t' 24] := ⟨fun k => t.getD k undef, ht.symm⟩
    clear ht
    subst hu
    clear S0 S1 J
    have A0 := blk_up hX q0
    have i0 := blkC A0 0 rfl
    have i1 := blkC A0 1 rfl
    have n0 := blkC n_k 0 rfl
    have n1 := blkC n_k 1 rfl
    have m0 := blkF n_k 0
    have r_k := blk_up hX q1
    have hne : gA ≠ w.heap.size + 1 := by
      have := (Array.getElem?_eq_some_iff.1 q1).1
      omega
    have N1 := q_heap_set n_k 0 (.float .f64 0)
    have n2 := blkC N1 0 rfl
    have n3 := blkC N1 1 rfl
    have R1 : (X.setCell ⟨gA, 0, none⟩ (.float .f64 0)).heap[w.heap.size + 1]? = some (.cells #[.float .f64 0, .float .f64 0] 61 (0, 0)) := by
      rw [heap_setCell_other _ ⟨gA, _, none⟩ (w.heap.size + 1) _ (Ne.symm hne)]
      exact r_k
    have hBX := bel_trans hb2 hX
    have hgw : w.heap.size ≤ gA := Nat.le_trans hb2.size hgA
    have hBX1 := hBX.setCell (p := ⟨gA, 0, none⟩) hgw (.float .f64 0)
    clear KK q0 q1 N1 A0
    rcases O with ⟨o, rfl⟩ | ⟨o | o, o2, rfl⟩ | ⟨o | o, o2 | o2, rfl⟩
    · have d3 := q_heap_set r_k 0 (.float .f64 u)
      have d4 := q_heap_set d3 1 (.float .f64 x)
      have f0 := blkC r_k 0 rfl
      have z0 := blkF r_k 0
      have f1 := blkC d3 1 rfl
      have z1 := blkF d3 1
      have e0 := blkC d4 0 rfl
      have e1 := blkC d4 1 rfl
      have hbe := (hBX.setCell (p := ⟨w.heap.size + 1, 0, none⟩) (Nat.le_succ _) (.float .f64 u)).setCell (p := ⟨w.heap.size + 1, 1, none⟩) (Nat.le_succ _) (.float .f64 x)
      clear d3 d4
      go_wp2
      refine bodyPost_ret (v := .agg #[.float .f64 u, .float .f64 x]) (by simp [results, Tryz.results41, go_sem, e0, e1]) rfl ⟨rfl, hbe⟩
    · have d3 := q_heap_set r_k 0 (.float .f64 u)
      have d4 := q_heap_set d3 1 (.float .f64 x)
      have f0 := blkC r_k 0 rfl
      have z0 := blkF r_k 0
      have f1 := blkC d3 1 rfl
      have z1 := blkF d3 1
      have e0 := blkC d4 0 rfl
      have e1 := blkC d4 1 rfl
      have hbe := (hBX.setCell (p := ⟨w.heap.size + 1, 0, none⟩) (Nat.le_succ _) (.float .f64 u)).setCell (p := ⟨w.heap.size + 1, 1, none⟩) (Nat.le_succ _) (.float .f64 x)
      clear d3 d4
      go_wp2
      refine bodyPost_ret (v := .agg #[.float .f64 u, .float .f64 x]) (by simp [results, Tryz.results41, go_sem, e0, e1]) rfl ⟨rfl, hbe⟩
    · have d3 := q_heap_set r_k 0 (.float .f64 u)
      have d4 := q_heap_set d3 1 (.float .f64 x)
      have f0 := blkC r_k 0 rfl
      have z0 := blkF r_k 0
      have f1 := blkC d3 1 rfl
      have z1 := blkF d3 1
      have e0 := blkC d4 0 rfl
      have e1 := blkC d4 1 rfl
      have hbe := (hBX.setCell (p := ⟨w.heap.size + 1, 0, none⟩) (Nat.le_succ _) (.float .f64 u)).setCell (p := ⟨w.heap.size + 1, 1, none⟩) (Nat.le_succ _) (.float .f64 x)
      clear d3 d4
      go_wp2
      refine bodyPost_ret (v := .agg #[.float .f64 u, .float .f64 x]) (by simp [results, Tryz.results41, go_sem, e0, e1]) rfl ⟨rfl, hbe⟩
    · have d3 := q_heap_set R1 0 (.float .f64 0)
      have d4 := q_heap_set d3 1 (.float .f64 x)
      have f0 := blkC R1 0 rfl
      have z0 := blkF R1 0
      have f1 := blkC d3 1 rfl
      have z1 := blkF d3 1
      have e0 := blkC d4 0 rfl
      have e1 := blkC d4 1 rfl
      have hbe := (hBX1.setCell (p := ⟨w.heap.size + 1, 0, none⟩) (Nat.le_succ _) (.float .f64 0)).setCell (p := ⟨w.heap.size + 1, 1, none⟩) (Nat.le_succ _) (.float .f64 x)
      clear d3 d4
      go_wp2
      refine bodyPost_ret (v := .agg #[.float .f64 0, .float .f64 x]) (by simp [results, Tryz.results41, go_sem, e0, e1]) rfl ⟨rfl, hbe⟩
    · have d3 := q_heap_set R1 0 (.float .f64 0)
      have d4 := q_heap_set d3 1 (.float .f64 x)
      have f0 := blkC R1 0 rfl
      have z0 := blkF R1 0
      have f1 := blkC d3 1 rfl
      have z1 := blkF d3 1
      have e0 := blkC d4 0 rfl
      have e1 := blkC d4 1 rfl
      have hbe := (hBX1.setCell (p := ⟨w.heap.size + 1, 0, none⟩) (Nat.le_succ _) (.float .f64 0)).setCell (p := ⟨w.heap.size + 1, 1, none⟩) (Nat.le_succ _) (.float .f64 x)
      clear d3 d4
      go_wp2
      refine bodyPost_ret (v := .agg #[.float .f64 0, .float .f64 x]) (by simp [results, Tryz.results41, go_sem, e0, e1]) rfl ⟨rfl, hbe⟩
    · have d3 := q_heap_set R1 0 (.float .f64 0)
      have d4 := q_heap_set d3 1 (.float .f64 x)
      have f0 := blkC R1 0 rfl
      have z0 := blkF R1 0
      have f1 := blkC d3 1 rfl
      have z1 := blkF d3 1
      have e0 := blkC d4 0 rfl
      have e1 := blkC d4 1 rfl
      have hbe := (hBX1.setCell (p := ⟨w.heap.size + 1, 0, none⟩) (Nat.le_succ _) (.float .f64 0)).setCell (p := ⟨w.heap.size + 1, 1, none⟩) (Nat.le_succ _) (.float .f64 x)
      clear d3 d4
      go_wp2
      refine bodyPost_ret (v := .agg #[.float .f64 0, .float .f64 x]) (by simp [results, Tryz.results41, go_sem, e0, e1]) rfl ⟨rfl, hbe⟩
    · have d3 := q_heap_set R1 0 (.float .f64 0)
      have d4 := q_heap_set d3 1 (.float .f64 x)
      have f0 := blkC R1 0 rfl
      have z0 := blkF R1 0
      have f1 := blkC d3 1 rfl
      have z1 := blkF d3 1
      have e0 := blkC d4 0 rfl
      have e1 := blkC d4 1 rfl
      have hbe := (hBX1.setCell (p := ⟨w.heap.size + 1, 0, none⟩) (Nat.le_succ _) (.float .f64 0)).setCell (p := ⟨w.heap.size + 1, 1, none⟩) (Nat.le_succ _) (.float .f64 x)
      clear d3 d4
      go_wp2
      refine bodyPost_ret (v := .agg #[.float .f64 0, .float .f64 x]) (by simp [results, Tryz.results41, go_sem, e0, e1]) rfl ⟨rfl, hbe⟩
  have hxr := bel_refl xw
  have hx0 := (bel_refl xw).drew
  go_region_held3 (fun W => W.cell? ⟨w.heap.size, 0, none⟩ = some (.float .f64 a) ∧ W.cell? ⟨w.heap.size, 1, none⟩ = some (.float .f64 b))
    (first | assumption | exact KK _ (hx0) | exact KK _ ((al1 hxr _).drew) | exact KK _ (al1 hx0 _) | exact KK _ (hw1) | exact KK _ (al1 hw1 _) | exact KK _ (hw2) | exact KK _ (al1 hw2 _) | exact KK _ (hw3) | exact KK _ (al1 hw3 _) | exact KK _ (set2 hw3 (by first | exact Nat.le_refl _ | exact hw1.size | exact hw2.size | omega) _ _) | fail)
    (first
      | (go_at_call 43; refine (J.out _).mono ?_; rintro _ y3 ⟨rfl, hb3'⟩; have hw3 : Below xw.heap.size xw y3 := bel_trans (by first | exact hw2 | exact al1 hw2 _) hb3'; first | (have qz : y3.heap[y2.heap.size]? = some (.cells #[.float .f64 0, .float .f64 0] 61 (0, 0)) := blk_up hb3' (heap_a1 y2 (.cells #[.float .f64 0, .float .f64 0] 61)); have cz0 := blkC qz 0 rfl; have zz0 := blkF qz 0; have cz1 := blkC qz 1 rfl; have zz1 := blkF qz 1) | (have qz : y3.heap[y1.heap.size]? = some (.cells #[.float .f64 0, .float .f64 0] 61 (0, 0)) := blk_up hb3' (blk_up hb2' (heap_a1 y1 (.cells #[.float .f64 0, .float .f64 0] 61))); have cz0 := blkC qz 0 rfl; have zz0 := blkF qz 0; have cz1 := blkC qz 1 rfl; have zz1 := blkF qz 1) | (have qz : y3.heap[xw.heap.size]? = some (.cells #[.float .f64 0, .float .f64 0] 61 (0, 0)) := blk_up hb3' (blk_up hb2' (blk_up hb1' (heap_a1 xw (.cells #[.float .f64 0, .float .f64 0] 61)))); have cz0 := blkC qz 0 rfl; have zz0 := blkF qz 0; have cz1 := blkC qz 1 rfl; have zz1 := blkF qz 1) | skip)
      | (go_at_call 66; have _t := T1; refine (S1.out _ (H.keeps (bel_trans hb2 (by first | exact hw1 | exact al1 hw1 _)))).mono ?_; rintro _ y2 ⟨rfl, hb2'⟩; have hw2 : Below xw.heap.size xw y2 := bel_trans (by first | exact hw1 | exact al1 hw1 _) hb2'; have T2 : True := trivial)
      | (go_at_call 66; refine (S0.out _ (H.keeps (bel_trans hb2 (by first | exact hx0 | exact (al1 hxr _).drew | exact al1 hx0 _)))).mono ?_; rintro _ y1 ⟨rfl, hb1'⟩; have hw1 : Below xw.heap.size xw y1 := bel_trans (by first | exact hx0 | exact (al1 hxr _).drew | exact al1 hx0 _) hb1'; have T1 : True := trivial))
  · exact HN y3.heap.size _ _ (by kernel_rfl) (heap_a1 _ _) (al1 hw3 _) hw3.size
  · exact HN (y2.heap.size) _ _ (by kernel_rfl) (q_heap_set (q_heap_set qz 0 _) 1 _) (set2 hw3 (hw2.size) _ _) (hw2.size)
  · exact HN (y1.heap.size) _ _ (by kernel_rfl) (q_heap_set (q_heap_set qz 0 _) 1 _) (set2 hw3 (hw1.size) _ _) (hw1.size)
  · exact HN (xw.heap.size) _ _ (by kernel_rfl) (q_heap_set (q_heap_set qz 0 _) 1 _) (set2 hw3 (Nat.le_refl _) _ _) (Nat.le_refl _)
end Go.Proofs.YtmpioejllfedoaaGreatDoor

/-
  Package span: Add and Square of single floats, by their contracts.
-/
namespace Go.Proofs.YtmpioejllfedoaaGreatDoor
open Go Go.RowKit Go.Proofs.YtmpioejllfedoaaGreatDoor.M
set_option linter.unusedSimpArgs false
set_option linter.unusedVariables false

theorem nn_of {p : Int} (h : rng p) (hr : rg p ≤ 9218868437227405312) : nn p := ⟨h, fun e => by have := (cls_rg h).1.1 e; omega⟩
theorem nn_nextS {p : Int} (h : nn p) : nn (next p) := by
  have h1 := nn_rg h
  have h2 := h.1
  unfold rng at h2
  unfold next
  rw [if_neg h.2]
  unfold rg at h1
  split
  · exact h
  · split
    · exact nn_of (by unfold rng; omega) (by decide)
    · split
      · rename_i h4 h5 h6
        rw [if_pos h6] at h1
        exact nn_of (by unfold rng; omega) (by unfold rg; split <;> omega)
      · rename_i h4 h5 h6
        rw [if_neg h6] at h1
        exact nn_of (by unfold rng; omega) (by unfold rg; split <;> omega)
theorem nn_prevS {p : Int} (h : nn p) : nn (prev p) := by
  unfold prev
  exact (nn_neg (nn_nextS (nn_neg h).1)).1
theorem be_nn {n l : Int} (h : nn n) : nn (beLo n l) ∧ nn (beHi n l) := by
  unfold beLo beHi
  refine ⟨?_, ?_⟩
  · split
    · exact nn_prevS h
    · exact h
  · split
    · exact h
    · split
      · exact nn_nextS h
      · exact h
end Go.Proofs.YtmpioejllfedoaaGreatDoor

/-
  Package span: turned and minus, by their contracts.
-/
namespace Go.Proofs.YtmpioejllfedoaaGreatDoor
open Go Go.RowKit Go.Proofs.YtmpioejllfedoaaGreatDoor.M
set_option linter.unusedSimpArgs false
set_option linter.unusedVariables false

set_option maxRecDepth 100000 in
theorem ivlTurned {a b : Int} (ha : nn a) (hb : nn b) (w : World) :
    Calls Tryz.prog 42 #[ivl a b] w fun e w' => e = .returned (ivl (neg b) (neg a)) ∧ Below w.heap.size w w' := by
  unfold ivl
  have RM := fun W => run_negF (P := Tryz.prog) hb W
  have RX := fun W => run_negF (P := Tryz.prog) ha W
  generalize wd (neg b) = X at *
  generalize wd (neg a) = Y at *
  generalize wd a = A at *
  generalize wd b = B at *
  have hb2 := bel_alloc2 w (.cells #[.float .f64 A, .float .f64 B] 61) (.cells #[.float .f64 0, .float .f64 0] 61)
  have q0 := heap_a2 w (.cells #[.float .f64 A, .float .f64 B] 61) (.cells #[.float .f64 0, .float .f64 0] 61)
  have q1 := heap_b2 w (.cells #[.float .f64 A, .float .f64 B] 61) (.cells #[.float .f64 0, .float .f64 0] 61)
  have k0 := blkC q0 0 rfl
  have k1 := blkC q0 1 rfl
  go_enter Tryz.func42, Tryz.ntmps42
  go_wp2_with fail
  clear q0 k0 k1 RM RX
  generalize (w.alloc (.cells #[.float .f64 A, .float .f64 B] 61)).alloc (.cells #[.float .f64 0, .float .f64 0] 61) = wx at *
  obtain ⟨g, hg⟩ : ∃ g, w.heap.size + 1 = g := ⟨_, rfl⟩
  have hwg : w.heap.size ≤ g := by omega
  rw [hg] at q1
  simp only [hg]
  clear hg
  have d2 := q_heap_set q1 0 (.float .f64 X)
  have d3 := q_heap_set d2 1 (.float .f64 Y)
  have f0 := blkC q1 0 rfl
  have z0 := blkF q1 0
  have f1 := blkC d2 1 rfl
  have z1 := blkF d2 1
  have hbe := (hb2.setCell (p := ⟨g, 0, none⟩) hwg (.float .f64 X)).setCell (p := ⟨g, 1, none⟩) hwg (.float .f64 Y)
  have s0 : (store ⟨g, 0, none⟩ (.float .f64 X)).run Tryz.prog wx = .ok () (wx.setCell ⟨g, 0, none⟩ (.float .f64 X)) := by rw [run_store _ _ _ _ _ rfl, f0]; simp only [z0]; rfl
  have s1 : (store ⟨g, 1, none⟩ (.float .f64 Y)).run Tryz.prog (wx.setCell ⟨g, 0, none⟩ (.float .f64 X)) = .ok () ((wx.setCell ⟨g, 0, none⟩ (.float .f64 X)).setCell ⟨g, 1, none⟩ (.float .f64 Y)) := by rw [run_store _ _ _ _ _ rfl, f1]; simp only [z1]; rfl
  have e0 := blkC d3 0 rfl
  have e1 := blkC d3 1 rfl
  clear f0 z0 f1 z1 d2 d3 q1
  simp only [s0, s1, Result.andThen]
  go_wp2
  refine bodyPost_ret (v := .agg #[.float .f64 X, .float .f64 Y]) (by simp [results, Tryz.results42, go_sem, e0, e1]) rfl ⟨rfl, hbe⟩
set_option maxRecDepth 100000 in
set_option maxHeartbeats 1000000 in
theorem minus_any {a b c d t u l h : Nat} (w : World)
    (S1 : Hid (∀ W, Calls Tryz.prog 42 #[.agg #[.float .f64 c, .float .f64 d]] W fun e w' => e = .returned (.agg #[.float .f64 t, .float .f64 u]) ∧ Below W.heap.size W w'))
    (S2 : Hid (∀ W, Calls Tryz.prog 35 #[.agg #[.float .f64 a, .float .f64 b], .agg #[.float .f64 t, .float .f64 u]] W fun e w' => e = .returned (.agg #[.float .f64 l, .float .f64 h]) ∧ Below W.heap.size W w')) :
    Calls Tryz.prog 36 #[.agg #[.float .f64 a, .float .f64 b], .agg #[.float .f64 c, .float .f64 d]] w fun e w' => e = .returned (.agg #[.float .f64 l, .float .f64 h]) ∧ Below w.heap.size w w' := by
  obtain ⟨q0, q1, q2, hs, hb3⟩ := heap3 w (.cells #[.float .f64 a, .float .f64 b] 61) (.cells #[.float .f64 c, .float .f64 d] 61) (.cells #[.float .f64 0, .float .f64 0] 61)
  have k0 := blkC q0 0 rfl
  have k1 := blkC q0 1 rfl
  have k2 := blkC q1 0 rfl
  have k3 := blkC q1 1 rfl
  go_enter Tryz.func36, Tryz.ntmps36
  go_wp2_with fail
  generalize ((w.alloc (.cells #[.float .f64 a, .float .f64 b] 61)).alloc (.cells #[.float .f64 c, .float .f64 d] 61)).alloc (.cells #[.float .f64 0, .float .f64 0] 61) = wx at *
  obtain ⟨g, hg⟩ : ∃ g, w.heap.size + 1 + 1 = g := ⟨_, rfl⟩
  have hwg : w.heap.size + 2 ≤ g := by omega
  replace q2 : wx.drew.heap[g]? = some (.cells #[.float .f64 0, .float .f64 0] 61 (0, 0)) := by rw [← hg]; exact q2
  simp only [hg]
  clear hg
  have hc : (w.heap.size < w.heap.size + 2 ∧ w.heap.size + 1 < w.heap.size + 2 ∧ w.heap.size + 2 ≤ wx.drew.heap.size) ∧ wx.drew.cell? ⟨w.heap.size, 0, none⟩ = some (.float .f64 a) ∧ wx.drew.cell? ⟨w.heap.size, 1, none⟩ = some (.float .f64 b) ∧ wx.drew.cell? ⟨w.heap.size + 1, 0, none⟩ = some (.float .f64 c) ∧ wx.drew.cell? ⟨w.heap.size + 1, 1, none⟩ = some (.float .f64 d) := ⟨⟨by omega, by omega, by show _ ≤ wx.heap.size; omega⟩, k0, k1, k2, k3⟩
  have hbd := hb3.drew
  clear q0 q1 k0 k1 k2 k3
  go_region_held3 (fun W => (w.heap.size < w.heap.size + 2 ∧ w.heap.size + 1 < w.heap.size + 2 ∧ w.heap.size + 2 ≤ W.heap.size) ∧ W.cell? ⟨w.heap.size, 0, none⟩ = some (.float .f64 a) ∧ W.cell? ⟨w.heap.size, 1, none⟩ = some (.float .f64 b) ∧ W.cell? ⟨w.heap.size + 1, 0, none⟩ = some (.float .f64 c) ∧ W.cell? ⟨w.heap.size + 1, 1, none⟩ = some (.float .f64 d))
    (first | assumption | (repeat (first | exact hc | exact hc1 | exact hc2 | refine s4_drew ?_ | refine s4_set (by omega) ?_)))
    (first
      | (go_at_call 35; have _t := hb4; refine (S2.out _).mono ?_; rintro _ w2 ⟨rfl, hb5⟩; have hc2 := s4_keep hc1 hb5; have d2 := ((bel_trans hb4 hb5).block _ (Array.getElem?_eq_some_iff.1 q2).1).trans q2; have d3 := q_heap_set d2 0 (.float .f64 l); have d4 := q_heap_set d3 1 (.float .f64 h); have f0 := blkC d2 0 rfl; have z0 := blkF d2 0; have f1 := blkC d3 1 rfl; have z1 := blkF d3 1; have s0 : (store ⟨g, 0, none⟩ (.float .f64 l)).run Tryz.prog w2 = .ok () (w2.setCell ⟨g, 0, none⟩ (.float .f64 l)) := (by rw [run_store _ _ _ _ _ rfl, f0]; simp only [z0]; rfl); have s1 : (store ⟨g, 1, none⟩ (.float .f64 h)).run Tryz.prog (w2.setCell ⟨g, 0, none⟩ (.float .f64 l)) = .ok () ((w2.setCell ⟨g, 0, none⟩ (.float .f64 l)).setCell ⟨g, 1, none⟩ (.float .f64 h)) := (by rw [run_store _ _ _ _ _ rfl, f1]; simp only [z1]; rfl))
      | (go_at_call 42; refine (S1.out _).mono ?_; rintro _ w1 ⟨rfl, hb4⟩; have hc1 := s4_keep hc hb4))
  have e0 := blkC d4 0 rfl
  have e1 := blkC d4 1 rfl
  have hbe := ((bel_trans hbd (bel_trans hb4 hb5)).setCell (p := ⟨g, 0, none⟩) (show w.heap.size ≤ g by omega) (.float .f64 l)).setCell (p := ⟨g, 1, none⟩) (show w.heap.size ≤ g by omega) (.float .f64 h)
  clear d2 d3 d4 f0 f1 z0 z1 s0 s1 hc hc1 hc2
  generalize (w2.setCell ⟨g, 0, none⟩ (.float .f64 l)).setCell ⟨g, 1, none⟩ (.float .f64 h) = wy at *
  go_wp2
  refine bodyPost_ret (v := .agg #[.float .f64 l, .float .f64 h]) (by simp [results, Tryz.results36, go_sem, e0, e1]) rfl ⟨rfl, hbe⟩
end Go.Proofs.YtmpioejllfedoaaGreatDoor

/-
  Package span: Square of a single float, by its contract.
-/
namespace Go.Proofs.YtmpioejllfedoaaGreatDoor
open Go Go.RowKit Go.Proofs.YtmpioejllfedoaaGreatDoor.M
set_option linter.unusedSimpArgs false
set_option linter.unusedVariables false

end Go.Proofs.YtmpioejllfedoaaGreatDoor
