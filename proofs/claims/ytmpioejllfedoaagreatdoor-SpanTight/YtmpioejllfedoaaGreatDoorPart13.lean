/-
  Parts of the proof, one behind another.
-/
import Derived.Test.YtmpioejllfedoaaGreatDoorPart12
import Derived.Test.YtmpioejllfedoaaGreatDoorPart7
import Derived.Test.YtmpioejllfedoaaGreatDoorPart9
import Derived.Test.YtmpioejllfedoaaGreatDoorPart6
import Derived.Test.YtmpioejllfedoaaGreatDoorPart8
import Derived.Laws.MakeOwn
import Derived.Maps.AppendAt
import Derived.Laws.AppendOwnNone
/-
  plumblaw8's alive: span.Add and Sign at constants.
-/
namespace Go.Proofs.YtmpioejllfedoaaGreatDoor
open Go Go.RowKit Go.Proofs.YtmpioejllfedoaaGreatDoor.M
set_option linter.unusedSimpArgs false
set_option linter.unusedVariables false

theorem abs1 (W : World) : Calls Tryz.prog 80 #[.float .f64 4607182418800017408] W fun e w' => e = .returned (.float .f64 4607182418800017408) ∧ w' = W := by
  have := mathAbs (b := 4607182418800017408) (by unfold rng; omega) W
  rw [show wd 4607182418800017408 = 4607182418800017408 by decide, show rg 4607182418800017408 = 4607182418800017408 by decide, show wd 4607182418800017408 = 4607182418800017408 by decide] at this
  exact this
theorem abs2 (W : World) : Calls Tryz.prog 80 #[.float .f64 4611686018427387904] W fun e w' => e = .returned (.float .f64 4611686018427387904) ∧ w' = W := by
  have := mathAbs (b := 4611686018427387904) (by unfold rng; omega) W
  rw [show wd 4611686018427387904 = 4611686018427387904 by decide, show rg 4611686018427387904 = 4611686018427387904 by decide, show wd 4611686018427387904 = 4611686018427387904 by decide] at this
  exact this
set_option maxRecDepth 100000 in
theorem sum11 (w : World) :
    Calls Tryz.prog 65 #[.float .f64 4607182418800017408, .float .f64 4607182418800017408] w fun e w' => e = .returned (.agg #[.float .f64 4611686018427387904, .float .f64 4611686018427387904]) ∧ w' = (w.alloc (.cells #[.float .f64 4611686018427387904, .float .f64 4611686018427387904] 61)).alloc (.cells #[.float .f64 4611686018427387904, .float .f64 4611686018427387904] 61) := by
  have hst : ∀ (p : Addr) (n : Nat) (m : Mode) (w : World), (store p (.float .f64 n) m).run Tryz.prog w = stored Tryz.prog w p (.float .f64 n) m := fun p n m w => run_store _ w p _ m rfl
  have o : FloatKind.f64.format.order 4607182418800017408 4607182418800017408 = some .eq := by decide +kernel
  have h1 : ∀ w : World, (binOp .add 59 (.float .f64 4607182418800017408) (.float .f64 4607182418800017408)).run Tryz.prog w = .ok (.float .f64 4611686018427387904) w := fun w => by kernel_rfl
  have h2 : ∀ w : World, (binOp .sub 59 (.float .f64 4611686018427387904) (.float .f64 4607182418800017408)).run Tryz.prog w = .ok (.float .f64 4607182418800017408) w := fun w => by kernel_rfl
  have h3 : ∀ w : World, (binOp .sub 59 (.float .f64 4607182418800017408) (.float .f64 4607182418800017408)).run Tryz.prog w = .ok (.float .f64 0) w := fun w => by kernel_rfl
  have hg := hl_last (w.alloc (.cells #[.float .f64 4611686018427387904, .float .f64 4611686018427387904] 61)) (.cells #[.float .f64 4611686018427387904, .float .f64 4611686018427387904] 61) rfl
  have hg0 : ((w.alloc (.cells #[.float .f64 4611686018427387904, .float .f64 4611686018427387904] 61)).alloc (.cells #[.float .f64 4611686018427387904, .float .f64 4611686018427387904] 61)).heap[w.heap.size]? = some (.cells #[.float .f64 4611686018427387904, .float .f64 4611686018427387904] 61 (0, 0)) := heap_a2 w _ _
  have e0 := blkC hg0 0 rfl
  have e1 := blkC hg0 1 rfl
  go_enter Tryz.func65, Tryz.ntmps65
  go_wp2_with (first | (go_at_call 80; refine (abs1 _).mono ?_; rintro _ _ ⟨rfl, rfl⟩)  | (go_at_call 81; refine (besideZ _ _).mono ?_; rintro _ _ ⟨rfl, rfl⟩))
  refine bodyPost_ret (v := .agg #[.float .f64 4611686018427387904, .float .f64 4611686018427387904]) (by simp [results, Tryz.results65, go_sem, e0, e1]) rfl ⟨rfl, rfl⟩
set_option maxRecDepth 100000 in
theorem sum12 (w : World) :
    Calls Tryz.prog 65 #[.float .f64 4607182418800017408, .float .f64 4611686018427387904] w fun e w' => e = .returned (.agg #[.float .f64 4613937818241073152, .float .f64 4613937818241073152]) ∧ w' = (w.alloc (.cells #[.float .f64 4613937818241073152, .float .f64 4613937818241073152] 61)).alloc (.cells #[.float .f64 4613937818241073152, .float .f64 4613937818241073152] 61) := by
  have hst : ∀ (p : Addr) (n : Nat) (m : Mode) (w : World), (store p (.float .f64 n) m).run Tryz.prog w = stored Tryz.prog w p (.float .f64 n) m := fun p n m w => run_store _ w p _ m rfl
  have o : FloatKind.f64.format.order 4607182418800017408 4611686018427387904 = some .lt := by decide +kernel
  have h1 : ∀ w : World, (binOp .add 59 (.float .f64 4611686018427387904) (.float .f64 4607182418800017408)).run Tryz.prog w = .ok (.float .f64 4613937818241073152) w := fun w => by kernel_rfl
  have h2 : ∀ w : World, (binOp .sub 59 (.float .f64 4613937818241073152) (.float .f64 4611686018427387904)).run Tryz.prog w = .ok (.float .f64 4607182418800017408) w := fun w => by kernel_rfl
  have h3 : ∀ w : World, (binOp .sub 59 (.float .f64 4607182418800017408) (.float .f64 4607182418800017408)).run Tryz.prog w = .ok (.float .f64 0) w := fun w => by kernel_rfl
  have hg := hl_last (w.alloc (.cells #[.float .f64 4613937818241073152, .float .f64 4613937818241073152] 61)) (.cells #[.float .f64 4613937818241073152, .float .f64 4613937818241073152] 61) rfl
  have hg0 : ((w.alloc (.cells #[.float .f64 4613937818241073152, .float .f64 4613937818241073152] 61)).alloc (.cells #[.float .f64 4613937818241073152, .float .f64 4613937818241073152] 61)).heap[w.heap.size]? = some (.cells #[.float .f64 4613937818241073152, .float .f64 4613937818241073152] 61 (0, 0)) := heap_a2 w _ _
  have e0 := blkC hg0 0 rfl
  have e1 := blkC hg0 1 rfl
  go_enter Tryz.func65, Tryz.ntmps65
  go_wp2_with (first | (go_at_call 80; refine (abs1 _).mono ?_; rintro _ _ ⟨rfl, rfl⟩) | (go_at_call 80; refine (abs2 _).mono ?_; rintro _ _ ⟨rfl, rfl⟩)  | (go_at_call 81; refine (besideZ _ _).mono ?_; rintro _ _ ⟨rfl, rfl⟩))
  refine bodyPost_ret (v := .agg #[.float .f64 4613937818241073152, .float .f64 4613937818241073152]) (by simp [results, Tryz.results65, go_sem, e0, e1]) rfl ⟨rfl, rfl⟩
set_option maxRecDepth 100000 in
set_option maxHeartbeats 1000000 in
theorem plusC (w : World) :
    Calls Tryz.prog 35 #[.agg #[.float .f64 4607182418800017408, .float .f64 4607182418800017408], .agg #[.float .f64 4607182418800017408, .float .f64 4611686018427387904]] w fun e w' => e = .returned (.agg #[.float .f64 4611686018427387904, .float .f64 4613937818241073152]) ∧ Below w.heap.size w w' := by
  have hst : ∀ (p : Addr) (n : Nat) (m : Mode) (w : World), (store p (.float .f64 n) m).run Tryz.prog w = stored Tryz.prog w p (.float .f64 n) m := fun p n m w => run_store _ w p _ m rfl
  obtain ⟨q0, q1, q2, hs, hb3⟩ := heap3 w (.cells #[.float .f64 4607182418800017408, .float .f64 4607182418800017408] 61) (.cells #[.float .f64 4607182418800017408, .float .f64 4611686018427387904] 61) (.cells #[.float .f64 0, .float .f64 0] 61)
  have k0 := blkC q0 0 rfl
  have k1 := blkC q0 1 rfl
  have k2 := blkC q1 0 rfl
  have k3 := blkC q1 1 rfl
  have S1 : Hid (∀ W, Calls Tryz.prog 65 #[.float .f64 4607182418800017408, .float .f64 4607182418800017408] W fun e w' => e = .returned (.agg #[.float .f64 4611686018427387904, .float .f64 4611686018427387904]) ∧ Below W.heap.size W w') := fun W => (sum11 W).mono fun _ _ ⟨h1, h2⟩ => ⟨h1, by rw [h2]; exact bel_alloc2 W _ _⟩
  have S2 : Hid (∀ W, Calls Tryz.prog 65 #[.float .f64 4607182418800017408, .float .f64 4611686018427387904] W fun e w' => e = .returned (.agg #[.float .f64 4613937818241073152, .float .f64 4613937818241073152]) ∧ Below W.heap.size W w') := fun W => (sum12 W).mono fun _ _ ⟨h1, h2⟩ => ⟨h1, by rw [h2]; exact bel_alloc2 W _ _⟩
  go_enter Tryz.func35, Tryz.ntmps35
  go_wp2_with fail
  generalize ((w.alloc (.cells #[.float .f64 4607182418800017408, .float .f64 4607182418800017408] 61)).alloc (.cells #[.float .f64 4607182418800017408, .float .f64 4611686018427387904] 61)).alloc (.cells #[.float .f64 0, .float .f64 0] 61) = wx at *
  obtain ⟨g, hg⟩ : ∃ g, w.heap.size + 1 + 1 = g := ⟨_, rfl⟩
  have hwg : w.heap.size + 2 ≤ g := by omega
  replace q2 : wx.drew.heap[g]? = some (.cells #[.float .f64 0, .float .f64 0] 61 (0, 0)) := by rw [← hg]; exact q2
  simp only [hg]
  clear hg hst
  have hc : (w.heap.size < w.heap.size + 2 ∧ w.heap.size + 1 < w.heap.size + 2 ∧ w.heap.size + 2 ≤ wx.drew.heap.size) ∧ wx.drew.cell? ⟨w.heap.size, 0, none⟩ = some (.float .f64 4607182418800017408) ∧ wx.drew.cell? ⟨w.heap.size, 1, none⟩ = some (.float .f64 4607182418800017408) ∧ wx.drew.cell? ⟨w.heap.size + 1, 0, none⟩ = some (.float .f64 4607182418800017408) ∧ wx.drew.cell? ⟨w.heap.size + 1, 1, none⟩ = some (.float .f64 4611686018427387904) := ⟨⟨by omega, by omega, by show _ ≤ wx.heap.size; omega⟩, k0, k1, k2, k3⟩
  have hbd := hb3.drew
  have fl0 : ∀ w : World, (Instr.field 61 (.agg #[.float .f64 4611686018427387904, .float .f64 4611686018427387904]) 0).run Tryz.prog w = .ok (.float .f64 4611686018427387904) w := fun w => by kernel_rfl
  have fl1 : ∀ w : World, (Instr.field 61 (.agg #[.float .f64 4613937818241073152, .float .f64 4613937818241073152]) 1).run Tryz.prog w = .ok (.float .f64 4613937818241073152) w := fun w => by kernel_rfl
  clear q0 q1 k0 k1 k2 k3
  go_region_held3 (fun W => (w.heap.size < w.heap.size + 2 ∧ w.heap.size + 1 < w.heap.size + 2 ∧ w.heap.size + 2 ≤ W.heap.size) ∧ W.cell? ⟨w.heap.size, 0, none⟩ = some (.float .f64 4607182418800017408) ∧ W.cell? ⟨w.heap.size, 1, none⟩ = some (.float .f64 4607182418800017408) ∧ W.cell? ⟨w.heap.size + 1, 0, none⟩ = some (.float .f64 4607182418800017408) ∧ W.cell? ⟨w.heap.size + 1, 1, none⟩ = some (.float .f64 4611686018427387904))
    (first | assumption | (repeat (first | exact hc | exact hc1 | exact hc2 | refine s4_drew ?_ | refine s4_set (by omega) ?_)))
    (first
      | (go_at_call 65; have _t := hb4; refine (S2.out _).mono ?_; rintro _ w2 ⟨rfl, hb5⟩; have hc2 := s4_keep hc1 hb5; have d2 := ((bel_trans hb4 hb5).block _ (Array.getElem?_eq_some_iff.1 q2).1).trans q2; have d3 := q_heap_set d2 0 (.float .f64 4611686018427387904); have d4 := q_heap_set d3 1 (.float .f64 4613937818241073152); have f0 := blkC d2 0 rfl; have z0 := blkF d2 0; have f1 := blkC d3 1 rfl; have z1 := blkF d3 1; have s0 : (store ⟨g, 0, none⟩ (.float .f64 4611686018427387904)).run Tryz.prog w2 = .ok () (w2.setCell ⟨g, 0, none⟩ (.float .f64 4611686018427387904)) := (by rw [run_store _ _ _ _ _ rfl, f0]; simp only [z0]; rfl); have s1 : (store ⟨g, 1, none⟩ (.float .f64 4613937818241073152)).run Tryz.prog (w2.setCell ⟨g, 0, none⟩ (.float .f64 4611686018427387904)) = .ok () ((w2.setCell ⟨g, 0, none⟩ (.float .f64 4611686018427387904)).setCell ⟨g, 1, none⟩ (.float .f64 4613937818241073152)) := (by rw [run_store _ _ _ _ _ rfl, f1]; simp only [z1]; rfl))
      | (go_at_call 65; refine (S1.out _).mono ?_; rintro _ w1 ⟨rfl, hb4⟩; have hc1 := s4_keep hc hb4))
  have e0 := blkC d4 0 rfl
  have e1 := blkC d4 1 rfl
  have hbe := ((bel_trans hbd (bel_trans hb4 hb5)).setCell (p := ⟨g, 0, none⟩) (show w.heap.size ≤ g by omega) (.float .f64 4611686018427387904)).setCell (p := ⟨g, 1, none⟩) (show w.heap.size ≤ g by omega) (.float .f64 4613937818241073152)
  clear d2 d3 d4 f0 f1 z0 z1 s0 s1 hc hc1 hc2
  generalize (w2.setCell ⟨g, 0, none⟩ (.float .f64 4611686018427387904)).setCell ⟨g, 1, none⟩ (.float .f64 4613937818241073152) = wy at *
  go_wp2
  refine bodyPost_ret (v := .agg #[.float .f64 4611686018427387904, .float .f64 4613937818241073152]) (by simp [results, Tryz.results35, go_sem, e0, e1]) rfl ⟨rfl, hbe⟩
set_option maxRecDepth 100000 in
theorem addC (w : World) (L : Lays w) :
    Calls Tryz.prog 11 #[.agg #[.int .i64 4607182418800017408, .int .i64 4607182418800017408], .agg #[.int .i64 4607182418800017408, .int .i64 4611686018427387904]] w fun e w' => e = .returned (.tuple #[.agg #[.int .i64 4611686018427387904, .int .i64 4613937818241073152], .int .i64 0]) ∧ Below w.heap.size w w' := by
  have w1 : wd 4607182418800017408 = 4607182418800017408 := by decide
  have w2 : wd 4611686018427387904 = 4611686018427387904 := by decide
  have w3 : wd 4613937818241073152 = 4613937818241073152 := by decide
  have r1 : rng 4607182418800017408 := by unfold rng; omega
  have r2 : rng 4611686018427387904 := by unfold rng; omega
  have r3 : rng 4613937818241073152 := by unfold rng; omega
  have hE : ∀ (cap : Array Value) (w : World), (callFunc 35 cap).run Tryz.prog w = .ok (.enter 35 cap) w := by
    intro cap w
    simp [go_sem]
  have CJ : Hid (∀ W, Lays W → Calls Tryz.prog 34 #[.agg #[.int .i64 4607182418800017408, .int .i64 4607182418800017408], .agg #[.int .i64 4607182418800017408, .int .i64 4611686018427387904], .func (.func 35) #[] #[]] W fun e w' => e = .returned (.tuple #[.agg #[.int .i64 4611686018427387904, .int .i64 4613937818241073152], .int .i64 0]) ∧ Below W.heap.size W w') := fun W LW => by
    have := ofTwo_any (x := 4611686018427387904) (y := 4613937818241073152) _ r1 r1 r1 r2 W LW hE (fun _ _ => ⟨⟨r2, by decide⟩, ⟨r3, by decide⟩, fun W' _ => by
      unfold ivl
      rw [w1, w2, w3]
      exact plusC W'⟩)
    rw [show vld 4607182418800017408 4607182418800017408 = true by decide, show vld 4607182418800017408 4611686018427387904 = true by decide, show canon 4611686018427387904 = 4611686018427387904 by decide, show canon 4613937818241073152 = 4613937818241073152 by decide] at this
    exact this
  obtain ⟨q0, q1, q2, hs, hb3⟩ := heap3 w (.cells #[.int .i64 4607182418800017408, .int .i64 4607182418800017408] 23) (.cells #[.int .i64 4607182418800017408, .int .i64 4611686018427387904] 23) (.cells #[.int .i64 0, .int .i64 0] 23)
  have L2 := L.below' hb3
  clear w1 w2 w3 r1 r2 r3
  go_enter Tryz.func11, Tryz.ntmps11
  go_wp2_with fail
  generalize ((w.alloc (.cells #[.int .i64 4607182418800017408, .int .i64 4607182418800017408] 23)).alloc (.cells #[.int .i64 4607182418800017408, .int .i64 4611686018427387904] 23)).alloc (.cells #[.int .i64 0, .int .i64 0] 23) = wx at *
  refine (CJ.out _ L2).mono ?_
  rintro _ w1 ⟨rfl, hb4⟩
  have d2 := (hb4.block _ (Array.getElem?_eq_some_iff.1 q2).1).trans q2
  have d3 := q_heap_set d2 0 (.int .i64 4611686018427387904)
  have d4 := q_heap_set d3 1 (.int .i64 4613937818241073152)
  have f0 := blkC d2 0 rfl
  have z0 := blkF d2 0
  have f1 := blkC d3 1 rfl
  have z1 := blkF d3 1
  have e0 := blkC d4 0 rfl
  have e1 := blkC d4 1 rfl
  have hbe := ((bel_trans hb3 hb4).setCell (p := ⟨w.heap.size + 1 + 1, 0, none⟩) (show w.heap.size ≤ w.heap.size + 1 + 1 by omega) (.int .i64 4611686018427387904)).setCell (p := ⟨w.heap.size + 1 + 1, 1, none⟩) (show w.heap.size ≤ w.heap.size + 1 + 1 by omega) (.int .i64 4613937818241073152)
  clear d2 d3 d4 q0 q1 q2
  go_wp2
  refine bodyPost_ret (v := .tuple #[.agg #[.int .i64 4611686018427387904, .int .i64 4613937818241073152], .int .i64 0]) (by simp [results, Tryz.results11, go_sem, e0, e1]) rfl ⟨rfl, hbe⟩
set_option maxRecDepth 100000 in
theorem signC (w : World) :
    Calls Tryz.prog 18 #[.agg #[.int .i64 4611686018427387904, .int .i64 4613937818241073152]] w fun e w' => e = .returned (.tuple #[.int .i64 1, .bool true, .int .i64 0]) ∧ Below w.heap.size w w' := by
  have hst : ∀ (p : Addr) (n : Nat) (m : Mode) (w : World), (store p (.float .f64 n) m).run Tryz.prog w = stored Tryz.prog w p (.float .f64 n) m := fun p n m w => run_store _ w p _ m rfl
  have w2 : wd 4611686018427387904 = 4611686018427387904 := by decide
  have w3 : wd 4613937818241073152 = 4613937818241073152 := by decide
  have r2 : rng 4611686018427387904 := by unfold rng; omega
  have r3 : rng 4613937818241073152 := by unfold rng; omega
  have o : FloatKind.f64.format.order 4611686018427387904 0 = some .gt := by decide +kernel
  have R1 : Hid (∀ W, Calls Tryz.prog 38 #[.agg #[.int .i64 4611686018427387904, .int .i64 4613937818241073152]] W fun e w' => e = .returned (.agg #[.float .f64 4611686018427387904, .float .f64 4613937818241073152]) ∧ Below W.heap.size W w') := fun W => by
    have := spanRead 4611686018427387904 4613937818241073152 W
    unfold spn ivl at this
    rw [w2, w3] at this
    exact this
  have V1 : Hid (∀ W, Calls Tryz.prog 39 #[.agg #[.float .f64 4611686018427387904, .float .f64 4613937818241073152]] W fun e w' => e = .returned (.bool true) ∧ Below W.heap.size W w') := fun W => by
    have := ivlValid r2 r3 W
    unfold ivl at this
    rw [w2, w3, show vld 4611686018427387904 4613937818241073152 = true by decide] at this
    exact this
  have hb := bel_alloc w (.cells #[.int .i64 4611686018427387904, .int .i64 4613937818241073152] 23)
  go_enter Tryz.func18, Tryz.ntmps18
  go_wp2_with fail
  generalize w.alloc (.cells #[.int .i64 4611686018427387904, .int .i64 4613937818241073152] 23) = wx at *
  refine (R1.out _).mono ?_
  rintro _ w1 ⟨rfl, hb1⟩
  have hba := bel_alloc w1 (.cells #[.float .f64 4611686018427387904, .float .f64 4613937818241073152] 61)
  have hg := hl_last w1 (.cells #[.float .f64 4611686018427387904, .float .f64 4613937818241073152] 61) rfl
  go_wp2_with fail
  generalize w1.alloc (.cells #[.float .f64 4611686018427387904, .float .f64 4613937818241073152] 61) = w2 at *
  refine (V1.out _).mono ?_
  rintro _ w3 ⟨rfl, hb2⟩
  have hg3 := (hb2.block _ (Array.getElem?_eq_some_iff.1 hg).1).trans hg
  have c0 := blkC hg3 0 rfl
  have c1 := blkC hg3 1 rfl
  go_wp2
  refine bodyPost_ret (v := .tuple #[.int .i64 1, .bool true, .int .i64 0]) (by simp [results, Tryz.results18, go_sem]) rfl ⟨rfl, bel_trans hb (bel_trans hb1 (bel_trans hba hb2))⟩
end Go.Proofs.YtmpioejllfedoaaGreatDoor

/-
  plumblaw8's alive: it answers true; what the laws want of laid variables.
-/
namespace Go.Proofs.YtmpioejllfedoaaGreatDoor
open Go Go.RowKit Go.Proofs.YtmpioejllfedoaaGreatDoor.M
set_option linter.unusedSimpArgs false
set_option linter.unusedVariables false

set_option maxRecDepth 100000 in
theorem alive8 (w : World) (L : Lays w) : Calls Tryz.prog 6 #[] w fun e w' => e = .returned (.bool true) ∧ Below w.heap.size w w' := by
  have CA : Hid (∀ W, Lays W → Calls Tryz.prog 11 #[.agg #[.int .i64 4607182418800017408, .int .i64 4607182418800017408], .agg #[.int .i64 4607182418800017408, .int .i64 4611686018427387904]] W fun e w' => e = .returned (.tuple #[.agg #[.int .i64 4611686018427387904, .int .i64 4613937818241073152], .int .i64 0]) ∧ Below W.heap.size W w') := fun W LW => addC W LW
  have CS : Hid (∀ W, Calls Tryz.prog 18 #[.agg #[.int .i64 4611686018427387904, .int .i64 4613937818241073152]] W fun e w' => e = .returned (.tuple #[.int .i64 1, .bool true, .int .i64 0]) ∧ Below W.heap.size W w') := fun W => signC W
  go_enter Tryz.func6, Tryz.ntmps6
  go_wp2_with fail
  refine (CA.out _ L).mono ?_
  rintro _ w1 ⟨rfl, hb1⟩
  have hba := bel_alloc w1 (.cells #[.int .i64 4611686018427387904, .int .i64 4613937818241073152] 23)
  have hg := hl_last w1 (.cells #[.int .i64 4611686018427387904, .int .i64 4613937818241073152] 23) rfl
  go_wp2_with fail
  generalize w1.alloc (.cells #[.int .i64 4611686018427387904, .int .i64 4613937818241073152] 23) = w2 at *
  refine (CS.out _).mono ?_
  rintro _ w3 ⟨rfl, hb2⟩
  have hg3 := (hb2.block _ (Array.getElem?_eq_some_iff.1 hg).1).trans hg
  have c0 := blkC hg3 0 rfl
  have c1 := blkC hg3 1 rfl
  go_wp2
  go_ret
  exact ⟨rfl, bel_trans hb1 (bel_trans hba hb2)⟩
end Go.Proofs.YtmpioejllfedoaaGreatDoor

/-
  Package round: root, by its contract.
-/
namespace Go.Proofs.YtmpioejllfedoaaGreatDoor
open Go Go.RowKit Go.Proofs.YtmpioejllfedoaaGreatDoor.M
set_option linter.unusedSimpArgs false
set_option linter.unusedVariables false

end Go.Proofs.YtmpioejllfedoaaGreatDoor

/-
  Package round: Root, by its contract; and on numbers told by their worth.
-/
namespace Go.Proofs.YtmpioejllfedoaaGreatDoor
open Go Go.RowKit Go.Proofs.YtmpioejllfedoaaGreatDoor.M
set_option linter.unusedSimpArgs false
set_option linter.unusedVariables false

theorem canon_B {b : Int} {w : World} (H : Hold4 w) : Calls Tryz.prog 49 #[.int .i64 b] w fun e w' => e = .returned (.int .i64 (canon b)) ∧ Below w.heap.size w w' := by
  refine (bitsCanon b w H.env.lays).mono ?_
  rintro e w' ⟨h, g⟩
  exact ⟨h, g.be⟩
end Go.Proofs.YtmpioejllfedoaaGreatDoor

/-
  Where lists lie that were answered, and what is kept besides.
-/
namespace Go.Proofs.YtmpioejllfedoaaGreatDoor
open Go Go.RowKit Go.Proofs.YtmpioejllfedoaaGreatDoor.M
set_option linter.unusedSimpArgs false
set_option linter.unusedVariables false

/-- Where a value lies: in a block from x on, below y. -/
def Lies (v : Value) (x y : Nat) : Prop := ∀ g, v.ownBlock = some g → x ≤ g ∧ g < y
end Go.Proofs.YtmpioejllfedoaaGreatDoor

/-
  Package plumbref3: Valid, Neg, Sign, by contracts.
-/
namespace Go.Proofs.YtmpioejllfedoaaGreatDoor
open Go Go.RowKit Go.Proofs.YtmpioejllfedoaaGreatDoor.M
set_option linter.unusedSimpArgs false
set_option linter.unusedVariables false

end Go.Proofs.YtmpioejllfedoaaGreatDoor

/-
  Package plumbref3: Neg, Answer, Make, Scale, by contracts.
-/
namespace Go.Proofs.YtmpioejllfedoaaGreatDoor
open Go Go.RowKit Go.Proofs.YtmpioejllfedoaaGreatDoor.M
set_option linter.unusedSimpArgs false
set_option linter.unusedVariables false

end Go.Proofs.YtmpioejllfedoaaGreatDoor

/-
  Package plumbref3: Make, Scale, by contracts.
-/
namespace Go.Proofs.YtmpioejllfedoaaGreatDoor
open Go Go.RowKit Go.Proofs.YtmpioejllfedoaaGreatDoor.M
set_option linter.unusedSimpArgs false
set_option linter.unusedVariables false

/-- The document's own answer: a number, or ErrLong. -/
def RFit (w w' : World) (V : Int) (v : Value) (er : Int) : Prop := DFit w w' V v er
theorem RFit.shape {w w' : World} {V er : Int} {v : Value} (h : RFit w w' V v er) : ∃ ng so sn sc e, v = .agg #[.bool ng, .slice so sn sc, .int .i64 e] := by
  exact DFit.shape h
end Go.Proofs.YtmpioejllfedoaaGreatDoor

/-
  plumblaw3.is: an answer of a number and an error, as the document says, by its contract; a number that is lent.
-/
namespace Go.Proofs.YtmpioejllfedoaaGreatDoor
open Go Go.RowKit Go.Proofs.YtmpioejllfedoaaGreatDoor.M
set_option linter.unusedSimpArgs false
set_option linter.unusedVariables false

/-- A number that was answered, its list from B on. -/
def DAn (B : Nat) (w : World) (V : Int) (v : Value) : Prop := ∃ ng s m e, v = .agg #[.bool ng, s, .int .i64 e] ∧ Dy V ng m e ∧ An B w s m
/-- A number or ErrLong. -/
def DFitA (B : Nat) (w : World) (V : Int) (v : Value) (er : Int) : Prop := (Dok V ∧ er = 0 ∧ DAn B w V v) ∨ (¬ Dok V ∧ er = 2 ∧ v = zeroV)
theorem DAns.dan {w w' : World} {V : Int} {v : Value} (h : DAns w w' V v) : DAn w.heap.size w' V v := by
  obtain ⟨ng, s, m, e, h1, h2, h3⟩ := h
  exact ⟨ng, s, m, e, h1, h2, h3.an⟩
theorem An.wr {B : Nat} {w w' : World} {v : Value} {V : Int} {g : Nat} (h : An B w v V) (hw : Wr g w w') (hg : g < B) : An B w' v V := by
  obtain ⟨t, d, h1, h2⟩ := h
  exact ⟨t, d, h1.of_block fun g' hg' => hw.block g' (h1.ge hg').2 (by have := (h1.ge hg').1; omega), h2⟩
theorem DAn.wr {B : Nat} {w w' : World} {v : Value} {V : Int} {g : Nat} (h : DAn B w V v) (hw : Wr g w w') (hg : g < B) : DAn B w' V v := by
  obtain ⟨ng, s, m, e, h1, h2, h3⟩ := h
  exact ⟨ng, s, m, e, h1, h2, h3.wr hw hg⟩
theorem DAn.keeps {B : Nat} {w w' : World} {v : Value} {V : Int} (h : DAn B w V v) (k : Below w.heap.size w w') : DAn B w' V v := by
  obtain ⟨ng, s, m, e, h1, h2, h3⟩ := h
  exact ⟨ng, s, m, e, h1, h2, h3.keeps k⟩
theorem DAn.lower {B B' : Nat} {w : World} {v : Value} {V : Int} (h : DAn B w V v) (hB : B' ≤ B) : DAn B' w V v := by
  obtain ⟨ng, s, m, e, h1, h2, h3⟩ := h
  exact ⟨ng, s, m, e, h1, h2, h3.lower hB⟩
theorem DAn.num {B : Nat} {w : World} {v : Value} {V : Int} (h : DAn B w V v) : DNum w v V := by
  obtain ⟨ng, s, m, e, h1, h2, h3⟩ := h
  exact ⟨ng, s, m, e, h1, h2, h3.num⟩
theorem DFitA.wr {B : Nat} {w w' : World} {v : Value} {V er : Int} {g : Nat} (h : DFitA B w V v er) (hw : Wr g w w') (hg : g < B) : DFitA B w' V v er := by
  rcases h with ⟨h1, h2, h3⟩ | h
  · exact .inl ⟨h1, h2, h3.wr hw hg⟩
  · exact .inr h
theorem DFitA.keeps {B : Nat} {w w' : World} {v : Value} {V er : Int} (h : DFitA B w V v er) (k : Below w.heap.size w w') : DFitA B w' V v er := by
  rcases h with ⟨h1, h2, h3⟩ | h
  · exact .inl ⟨h1, h2, h3.keeps k⟩
  · exact .inr h
theorem DFitA.lower {B B' : Nat} {w : World} {v : Value} {V er : Int} (h : DFitA B w V v er) (hB : B' ≤ B) : DFitA B' w V v er := by
  rcases h with ⟨h1, h2, h3⟩ | h
  · exact .inl ⟨h1, h2, h3.lower hB⟩
  · exact .inr h
theorem DFitA.shape {B : Nat} {w : World} {v : Value} {V er : Int} (h : DFitA B w V v er) : ∃ ng so sn sc e, v = .agg #[.bool ng, .slice so sn sc, .int .i64 e] := by
  rcases h with ⟨_, _, ng, s, m, e, h1, _, h3⟩ | ⟨_, _, rfl⟩
  · obtain ⟨so, sn, sc, rfl⟩ := h3.shape
    exact ⟨_, _, _, _, _, h1⟩
  · exact ⟨_, _, _, _, _, rfl⟩
theorem DFitA.ge {B : Nat} {w : World} {ng : Bool} {so : Option Addr} {sn sc : Nat} {e V er : Int} (h : DFitA B w V (.agg #[.bool ng, .slice so sn sc, .int .i64 e]) er) : Lies (.slice so sn sc) B w.heap.size := by
  intro g hg
  rcases h with ⟨_, _, ng', s, m, e', h1, _, h3⟩ | ⟨_, _, h1⟩
  · simp only [Value.agg.injEq, Array.mk.injEq, List.cons.injEq, Value.bool.injEq, Value.int.injEq, and_true, true_and] at h1
    obtain ⟨_, h1, _⟩ := h1
    rw [← h1] at h3
    exact h3.ge hg
  · simp only [zeroV, Value.agg.injEq, Array.mk.injEq, List.cons.injEq, Value.bool.injEq, Value.int.injEq, Value.slice.injEq, and_true, true_and] at h1
    obtain ⟨_, ⟨rfl, _, _⟩, _⟩ := h1
    simp [Value.ownBlock] at hg
theorem DAn.parts {B : Nat} {w : World} {ng : Bool} {so : Option Addr} {sn sc : Nat} {e V : Int} (h : DAn B w V (.agg #[.bool ng, .slice so sn sc, .int .i64 e])) : ∃ m, Dy V ng m e ∧ An B w (.slice so sn sc) m := by
  obtain ⟨ng', s, m, e', h1, h2, h3⟩ := h
  simp only [Value.agg.injEq, Array.mk.injEq, List.cons.injEq, Value.bool.injEq, Value.int.injEq, and_true, true_and] at h1
  obtain ⟨rfl, rfl, rfl⟩ := h1
  exact ⟨m, h2, h3⟩
end Go.Proofs.YtmpioejllfedoaaGreatDoor

/-
  Package dyadic: products, Dot, by contracts.
-/
namespace Go.Proofs.YtmpioejllfedoaaGreatDoor
open Go Go.RowKit Go.Proofs.YtmpioejllfedoaaGreatDoor.M
set_option linter.unusedSimpArgs false
set_option linter.unusedVariables false

/-- A block of N numbers that is the call's own; the first k are those of q. -/
def BlkN (w : World) (g N k : Nat) (q : Nat → NumR) : Prop :=
  ∃ cur : Array Value, w.heap[g]? = some (.cells cur 26 (0, 0)) ∧ cur.size = N * 3 ∧ ∀ i, i < k → (cur[i * 3]? = some (.bool (q i).ng) ∧ cur[i * 3 + 1]? = some (.slice (q i).ao (q i).n (q i).cap) ∧ cur[i * 3 + 2]? = some (.int .i64 (q i).e)) ∧ Row w (q i).ao (q i).n (q i).cap (q i).d
theorem info_num : ∃ i, Tryz.prog.info? 26 = some i ∧ i.zero = some (.agg #[.bool false, .slice none 0 0, .int .i64 0]) ∧ i.size = 3 ∧ i.bytes = 40 := by
  have h : (Tryz.prog.info? 26).map (fun i => (i.zero, i.size, i.bytes)) = some (some (.agg #[.bool false, .slice none 0 0, .int .i64 0]), 3, 40) := by kernel_rfl
  obtain ⟨i, hi, hzz⟩ := Option.map_eq_some_iff.1 h
  simp only [Prod.mk.injEq] at hzz
  exact ⟨i, hi, hzz⟩
theorem make_nums (n : Nat) (hn : n ≤ 100000) (w : World) :
    (Instr.makeSlice 75 (.int .i64 (n : Int)) (.int .i64 (n : Int))).run Tryz.prog w = .ok (.slice (some ⟨w.heap.size, 0, none⟩) n n) (w.alloc (.cells (madeCells #[.bool false, .slice none 0 0, .int .i64 0] (n * 3)) 26)) := by
  obtain ⟨i, hi, hz, hs, hb⟩ := info_num
  have := run_make (P := Tryz.prog) w 75 26 i _ Tryz.underlying75 hi hz .i64 .i64 n n (by omega) (Int.le_refl _) (by rw [hb]; omega) (by omega)
  simp only [Int.toNat_natCast, hs] at this
  exact this
def updN (q : Nat → NumR) (k : Nat) (x : NumR) : Nat → NumR := fun j => if j = k then x else q j
theorem updN_same (q : Nat → NumR) (k : Nat) (x : NumR) : updN q k x k = x := by simp [updN]
theorem updN_other (q : Nat → NumR) {k j : Nat} (x : NumR) (h : j ≠ k) : updN q k x j = q j := by simp [updN, h]
theorem wr3 (W : World) (g o0 o1 o2 : Nat) (x y z : Value) : Wr g W (((W.setCell ⟨g, o0, none⟩ x).setCell ⟨g, o1, none⟩ y).setCell ⟨g, o2, none⟩ z) := (((Wr.refl g W).setCell o0 x).setCell o1 y).setCell o2 z
theorem Row.wrN {w w' : World} {g : Nat} {ao : Option Addr} {n cap : Nat} {d : Nat → Int} (h : Row w ao n cap d) (hw : Wr g w w') {cur : Array Value} {z : Nat × Nat} (hg : w.heap[g]? = some (.cells cur 26 z)) (ht : ∀ b off, ao = some ⟨b, off, none⟩ → 0 < n → b ≠ g) : Row w' ao n cap d :=
  ⟨h.le, h.max, h.nl, fun hn => by
    obtain ⟨b, off, rfl, hlt, hc⟩ := h.spot hn
    exact ⟨b, off, rfl, Nat.lt_of_lt_of_le hlt hw.size, fun i hi => (hw.cell (p := ⟨b, off + i, none⟩) hlt (ht b off rfl hn)).trans (hc i hi)⟩⟩
theorem Ans.open {w w' : World} {V : Int} {so : Option Addr} {sn sc : Nat} (h : Ans w w' V (.slice so sn sc)) : ∃ d, Row w' so sn sc d ∧ Nrm d sn ∧ val d sn = V ∧ ∀ b off, so = some ⟨b, off, none⟩ → w.heap.size ≤ b := by
  obtain ⟨t, d, hO, hN, hV, _⟩ := h
  have hge := own_ge hO
  obtain ⟨so', sc', e, hR⟩ := hO.row
  simp only [Value.slice.injEq] at e
  obtain ⟨rfl, rfl, rfl⟩ := e
  exact ⟨d, hR, hN, hV, fun b off hb => hge b (by rw [hb]; rfl)⟩
theorem bel_set3' {w0 w : World} {g o0 o1 o2 : Nat} (h : Below w0.heap.size w0 w) (hg : w0.heap.size ≤ g) (x y z : Value) : Below w0.heap.size w0 (((w.setCell ⟨g, o0, none⟩ x).setCell ⟨g, o1, none⟩ y).setCell ⟨g, o2, none⟩ z) := ((h.setCell (p := ⟨g, o0, none⟩) hg x).setCell (p := ⟨g, o1, none⟩) hg y).setCell (p := ⟨g, o2, none⟩) hg z
theorem set3_get {cur : Array Value} {k : Nat} {x y z : Value} (h : k * 3 + 2 < cur.size) (i : Nat) :
    let c := ((cur.setIfInBounds (k * 3) x).setIfInBounds (k * 3 + 1) y).setIfInBounds (k * 3 + 2) z
    (i = k → c[i * 3]? = some x ∧ c[i * 3 + 1]? = some y ∧ c[i * 3 + 2]? = some z) ∧ (i ≠ k → c[i * 3]? = cur[i * 3]? ∧ c[i * 3 + 1]? = cur[i * 3 + 1]? ∧ c[i * 3 + 2]? = cur[i * 3 + 2]?) := by
  intro c
  refine ⟨fun e => ?_, fun e => ?_⟩
  · subst e
    refine ⟨?_, ?_, ?_⟩
    · show (((cur.setIfInBounds (i * 3) x).setIfInBounds (i * 3 + 1) y).setIfInBounds (i * 3 + 2) z)[i * 3]? = some x
      rw [Array.getElem?_setIfInBounds_ne (by omega), Array.getElem?_setIfInBounds_ne (by omega), Array.getElem?_setIfInBounds_self_of_lt (by omega)]
    · show (((cur.setIfInBounds (i * 3) x).setIfInBounds (i * 3 + 1) y).setIfInBounds (i * 3 + 2) z)[i * 3 + 1]? = some y
      rw [Array.getElem?_setIfInBounds_ne (by omega), Array.getElem?_setIfInBounds_self_of_lt (by simp; omega)]
    · show (((cur.setIfInBounds (i * 3) x).setIfInBounds (i * 3 + 1) y).setIfInBounds (i * 3 + 2) z)[i * 3 + 2]? = some z
      rw [Array.getElem?_setIfInBounds_self_of_lt (by simp; omega)]
  · refine ⟨?_, ?_, ?_⟩
    all_goals
      show (((cur.setIfInBounds (k * 3) x).setIfInBounds (k * 3 + 1) y).setIfInBounds (k * 3 + 2) z)[_]? = _
      rw [Array.getElem?_setIfInBounds_ne (by omega), Array.getElem?_setIfInBounds_ne (by omega), Array.getElem?_setIfInBounds_ne (by omega)]
theorem BlkN.step {wr w3 : World} {g N k : Nat} {q : Nat → NumR} (h : BlkN wr g N k q) (hb : Below wr.heap.size wr w3) (x : NumR) (hx : Row w3 x.ao x.n x.cap x.d) (hk : k < N) (hg : ∀ i b' off, i < k → (q i).ao = some ⟨b', off, none⟩ → 0 < (q i).n → g < b') (hg2 : ∀ b' off, x.ao = some ⟨b', off, none⟩ → 0 < x.n → g < b') :
    BlkN (((w3.setCell ⟨g, k * 3, none⟩ (.bool x.ng)).setCell ⟨g, k * 3 + 1, none⟩ (.slice x.ao x.n x.cap)).setCell ⟨g, k * 3 + 2, none⟩ (.int .i64 x.e)) g N (k + 1) (updN q k x) := by
  obtain ⟨cur, hcur, hsz, hc⟩ := h
  have q0 := (hb.block g (Array.getElem?_eq_some_iff.1 hcur).1).trans hcur
  have q1 := heap_set (heap_set (heap_set q0 (k * 3) (.bool x.ng)) (k * 3 + 1) (.slice x.ao x.n x.cap)) (k * 3 + 2) (.int .i64 x.e)
  have hw := wr3 w3 g (k * 3) (k * 3 + 1) (k * 3 + 2) (.bool x.ng) (.slice x.ao x.n x.cap) (.int .i64 x.e)
  refine ⟨_, q1, by simp [hsz], fun i hi => ?_⟩
  have hs := set3_get (cur := cur) (k := k) (x := .bool x.ng) (y := .slice x.ao x.n x.cap) (z := .int .i64 x.e) (by omega) i
  by_cases e : i = k
  · subst e
    rw [updN_same]
    exact ⟨hs.1 rfl, hx.wrN hw q0 fun b' off he hn => by have := hg2 b' off he hn; omega⟩
  · rw [updN_other q x e]
    obtain ⟨s0, s1, s2⟩ := hs.2 e
    obtain ⟨⟨c0, c1, c2⟩, hR⟩ := hc i (by omega)
    refine ⟨⟨s0.trans c0, s1.trans c1, s2.trans c2⟩, (hR.keeps hb).wrN hw q0 fun b' off he hn => ?_⟩
    have := hg i b' off (by omega) he hn
    omega
theorem BlkN.nums {w : World} {g N : Nat} {q : Nat → NumR} (h : BlkN w g N N q) (hN : N ≤ 100000) : Nums w (some ⟨g, 0, none⟩) N N q := by
  obtain ⟨cur, hcur, hsz, hc⟩ := h
  refine ⟨Nat.le_refl _, by omega, fun _ => ⟨g, 0, rfl, (Array.getElem?_eq_some_iff.1 hcur).1, fun i hi => ?_⟩⟩
  obtain ⟨⟨c0, c1, c2⟩, hR⟩ := hc i hi
  rw [Nat.zero_add]
  exact ⟨blkC hcur _ c0, blkC hcur _ c1, blkC hcur _ c2, hR⟩
end Go.Proofs.YtmpioejllfedoaaGreatDoor

/-
  Lists of numbers that are the call's own: what lies in them, append.
-/
namespace Go.Proofs.YtmpioejllfedoaaGreatDoor
open Go Go.RowKit Go.Proofs.YtmpioejllfedoaaGreatDoor.M
set_option linter.unusedSimpArgs false
set_option linter.unusedVariables false

/-- The cells of the first m. -/
def cells3 (f : Nat → Value) : Nat → List Value
  | 0 => []
  | m + 1 => cells3 f m ++ (f m).cells.toList
/-- A number's value in memory has three cells, each of them one. -/
def Three (v : Value) : Prop := ∃ ng so sn sc e, v = .agg #[.bool ng, .slice so sn sc, .int .i64 e]
theorem DAn.three {B : Nat} {w : World} {V : Int} {v : Value} (h : DAn B w V v) : Three v := by
  obtain ⟨ng, s, m, e, rfl, _, hA⟩ := h
  obtain ⟨so, sn, sc, rfl⟩ := hA.shape
  exact ⟨_, _, _, _, _, rfl⟩
theorem cells3_length {f : Nat → Value} : ∀ m, (∀ i, i < m → Three (f i)) → (cells3 f m).length = m * 3
  | 0, _ => rfl
  | m + 1, h => by
    obtain ⟨ng, so, sn, sc, e, he⟩ := h m (by omega)
    rw [cells3, List.length_append, cells3_length m fun i hi => h i (by omega), he]
    simp [Value.cells]
    omega
theorem cells3_at {f : Nat → Value} : ∀ m, (∀ i, i < m → Three (f i)) → ∀ i j, i < m → j < 3 → (cells3 f m)[i * 3 + j]? = (f i).cells[j]?
  | 0, _, i, j, hi, _ => by omega
  | m + 1, h, i, j, hi, hj => by
    have hl := cells3_length m fun i hi => h i (by omega)
    rw [cells3]
    by_cases e : i = m
    · subst e
      rw [List.getElem?_append_right (by omega), hl, show i * 3 + j - i * 3 = j by omega]
      simp
    · rw [List.getElem?_append_left (by omega)]
      exact cells3_at m (fun i hi => h i (by omega)) i j (by omega) hj
/-- A list of numbers that is the call's own. -/
def OutN (B : Nat) (w : World) (x : Value) (m : Nat) (f : Nat → Value) : Prop := w.ownsRow B 26 3 x m (cells3 f m)
theorem OutN.nil (B : Nat) (w : World) (f : Nat → Value) : OutN B w (.slice none 0 0) 0 f := ⟨rfl, .inl ⟨rfl, rfl⟩⟩
theorem OutN.of_block {B : Nat} {w w' : World} {x : Value} {m : Nat} {f : Nat → Value} (h : OutN B w x m f) (hb : ∀ g, x.ownBlock = some g → w'.heap[g]? = w.heap[g]?) : OutN B w' x m f := by
  refine ⟨h.1, ?_⟩
  rcases h.2 with hn | ⟨g, cap, cur, rfl, hbb, hg, rest⟩
  · exact .inl hn
  · exact .inr ⟨g, cap, cur, rfl, hbb, (hb g rfl).trans hg, rest⟩
theorem OutN.typed {B : Nat} {w : World} {x : Value} {m : Nat} {f : Nat → Value} (h : OutN B w x m f) {g : Nat} (hg : x.ownBlock = some g) : B ≤ g ∧ g < w.heap.size ∧ ∃ cur z, w.heap[g]? = some (.cells cur 26 z) := by
  rcases h.2 with ⟨rfl, _⟩ | ⟨g', cap, cur, rfl, hbb, hg', rest⟩
  · simp [Value.ownBlock] at hg
  · simp only [Value.ownBlock, Option.some.injEq] at hg; subst hg; exact ⟨hbb, (Array.getElem?_eq_some_iff.1 hg').1, cur, _, hg'⟩
theorem OutN.keeps {B : Nat} {w w' : World} {x : Value} {m : Nat} {f : Nat → Value} (h : OutN B w x m f) (hb : Below w.heap.size w w') : OutN B w' x m f := h.of_block fun g hg => hb.block g (h.typed hg).2.1
theorem OutN.shape {B : Nat} {w : World} {x : Value} {m : Nat} {f : Nat → Value} (h : OutN B w x m f) : ∃ xo xc, x = .slice xo m xc ∧ m ≤ xc ∧ (0 < m → ∃ g, xo = some ⟨g, 0, none⟩) := by
  rcases h.2 with ⟨rfl, rfl⟩ | ⟨g, cap, cur, rfl, hb, hg, hn, hm, _⟩
  · exact ⟨none, 0, rfl, Nat.le_refl _, fun h => by omega⟩
  · exact ⟨_, cap, rfl, hn, fun _ => ⟨g, rfl⟩⟩
theorem OutN.cell {B : Nat} {w : World} {xo : Option Addr} {m xc g : Nat} {f : Nat → Value} (h : OutN B w (.slice xo m xc) m f) (ht : ∀ i, i < m → Three (f i)) (hx : xo = some ⟨g, 0, none⟩) {i j : Nat} (hi : i < m) (hj : j < 3) : w.cell? ⟨g, i * 3 + j, none⟩ = (f i).cells[j]? := by
  rcases h.2 with ⟨_, rfl⟩ | ⟨g', cap, cur, e, hb, hg, hn, hm, hs, ht'⟩
  · omega
  · simp only [Value.slice.injEq] at e
    obtain ⟨rfl, _, rfl⟩ := e
    simp only [Option.some.injEq, Addr.mk.injEq] at hx
    obtain ⟨rfl, _⟩ := hx
    rw [cell_of_row w g' (i * 3 + j) cur _ _ hg, ← cells3_at m ht i j hi hj, ← ht', List.getElem?_take_of_lt (by omega)]
    simp
/-- Lists of numbers that are the call's own, each in a block of its own. -/
structure LS (B : Nat) (w : World) (N : Nat) (X : Nat → Value) (M : Nat → Nat) (F : Nat → Nat → Value) : Prop where
  own : ∀ j, j < N → OutN B w (X j) (M j) (F j)
  ne : ∀ i j, i < N → j < N → i ≠ j → ∀ g, (X i).ownBlock = some g → (X j).ownBlock ≠ some g
theorem LS.keeps {B : Nat} {w w' : World} {N : Nat} {X : Nat → Value} {M : Nat → Nat} {F : Nat → Nat → Value} (h : LS B w N X M F) (hb : Below w.heap.size w w') : LS B w' N X M F := ⟨fun j hj => (h.own j hj).keeps hb, h.ne⟩
theorem LS.put {B : Nat} {w w' : World} {N : Nat} {X : Nat → Value} {M : Nat → Nat} {F : Nat → Nat → Value} (h : LS B w N X M F) (j0 : Nat) {row : Option Nat} (hg : w.grownBy w' row) {v' : Value} {M' : Nat} {F' : Nat → Value} (hO : OutN B w' v' M' F') (h1 : ∀ j, j < N → j ≠ j0 → ∀ g, (X j).ownBlock = some g → row ≠ some g) (h2 : ∀ j, j < N → j ≠ j0 → ∀ g, (X j).ownBlock = some g → v'.ownBlock ≠ some g) :
    LS B w' N (updV X j0 v') (updV M j0 M') (updV F j0 F') := by
  refine ⟨fun j hj => ?_, fun i j hi hj hij g hgi => ?_⟩
  · by_cases e : j = j0
    · subst e; rw [updV_same, updV_same, updV_same]; exact hO
    · rw [updV_other _ _ e, updV_other _ _ e, updV_other _ _ e]
      exact (h.own j hj).of_block fun g hgx => hg.block g ((h.own j hj).typed hgx).2.1 fun e' => h1 j hj e g hgx e'.symm
  · by_cases e : i = j0
    · subst e
      rw [updV_same] at hgi
      rw [updV_other _ _ (Ne.symm hij)]
      exact fun hgj => h2 j hj (Ne.symm hij) g hgj hgi
    · rw [updV_other _ _ e] at hgi
      by_cases e2 : j = j0
      · subst e2
        rw [updV_same]
        exact h2 i hi e g hgi
      · rw [updV_other _ _ e2]
        exact h.ne i j hi hj hij g hgi
theorem LS.row {B : Nat} {w : World} {N : Nat} {X : Nat → Value} {M : Nat → Nat} {F : Nat → Nat → Value} (h : LS B w N X M F) {j : Nat} (hj : j < N) : ∀ g, (X j).ownBlock = some g → ∃ (cur : Array Value) (z : Nat × Nat), w.heap[g]? = some (Obj.cells cur 26 z) := fun g hg => (((h.own j hj).typed hg).2.2)
theorem LS.ge {B : Nat} {w : World} {N : Nat} {X : Nat → Value} {M : Nat → Nat} {F : Nat → Nat → Value} (h : LS B w N X M F) {j : Nat} (hj : j < N) : ∀ g, (X j).ownBlock = some g → B ≤ g := fun g hg => ((h.own j hj).typed hg).1
/-- As a list that is read. -/
theorem OutN.nums {B : Nat} {w : World} {xo : Option Addr} {m xc : Nat} {f : Nat → Value} {r : Nat → NumR} (h : OutN B w (.slice xo m xc) m f) (hm : m ≤ 100000) (hr : ∀ i, i < m → f i = (r i).v ∧ Row w (r i).ao (r i).n (r i).cap (r i).d) : ∃ c2, xc = c2 ∧ Nums w xo m xc r := by
  have ht : ∀ i, i < m → Three (f i) := fun i hi => ⟨_, _, _, _, _, (hr i hi).1⟩
  refine ⟨xc, rfl, ?_⟩
  obtain ⟨xo', xc', e, hle, hsp⟩ := h.shape
  simp only [Value.slice.injEq] at e
  obtain ⟨rfl, _, rfl⟩ := e
  refine ⟨hle, ?_, fun hm0 => ?_⟩
  · rcases h.2 with ⟨e, _⟩ | ⟨g, cap, cur, e, hb, hg, hn, hmx, hs, _⟩
    · simp only [Value.slice.injEq] at e; omega
    · simp only [Value.slice.injEq] at e
      obtain ⟨_, _, rfl⟩ := e
      unfold maxLen at hmx
      omega
  · obtain ⟨g, rfl⟩ := hsp hm0
    have hlt : g < w.heap.size := (h.typed (g := g) rfl).2.1
    refine ⟨g, 0, rfl, hlt, fun i hi => ?_⟩
    obtain ⟨h1, h2⟩ := hr i hi
    have c := fun j (hj : j < 3) => h.cell ht rfl hi (j := j) hj
    rw [h1] at c
    rw [Nat.zero_add]
    exact ⟨c 0 (by decide), c 1 (by decide), c 2 (by decide), h2⟩
end Go.Proofs.YtmpioejllfedoaaGreatDoor

/-
  Small laws on worlds that grow.
-/
namespace Go.Proofs.YtmpioejllfedoaaGreatDoor
open Go Go.RowKit Go.Proofs.YtmpioejllfedoaaGreatDoor.M
set_option linter.unusedSimpArgs false
set_option linter.unusedVariables false

theorem al1 {w W : World} (h : Below w.heap.size w W) (o : Obj) : Below w.heap.size w (W.alloc o) := h.alloc h.size o
theorem blk_up {w W : World} (h : Below w.heap.size w W) {g : Nat} {X : Obj} (k : w.heap[g]? = some X) : W.heap[g]? = some X := (h.block _ (Array.getElem?_eq_some_iff.1 k).1).trans k
end Go.Proofs.YtmpioejllfedoaaGreatDoor

/-
  plumblaw8's around, with no step to either side, and tight, by their contracts.
-/
namespace Go.Proofs.YtmpioejllfedoaaGreatDoor
open Go Go.RowKit Go.Proofs.YtmpioejllfedoaaGreatDoor.M
set_option linter.unusedSimpArgs false
set_option linter.unusedVariables false

theorem cell_dr (w : World) (p : Addr) : w.drew.cell? p = w.cell? p := rfl
set_option maxRecDepth 100000 in
set_option maxHeartbeats 1000000 in
theorem around_yes {b : Int} (hp : pok b = true) (w : World) (H : Hold4 w) :
    Calls Tryz.prog 5 #[.int .i64 b, .int .i64 0, .int .i64 0] w fun r w' => ∃ v, r = .returned (.tuple #[.agg #[.int .i64 b, .int .i64 b], v, .bool true]) ∧ DNum w' v (patV b) ∧ Three v ∧ Below w.heap.size w w' := by
  have CO : Hid (∀ W, Hold4 W → Calls Tryz.prog 21 #[.int .i64 b] W fun r w' => ∃ v, r = .returned (.tuple #[v, .int .i64 0]) ∧ DAns W w' (patV b) v) := fun W h => of_ok hp h
  have ha : bits BinOp.and IntKind.i64 0 7 = 0 := by decide +kernel
  have hb2 := bel_alloc2 w (.cells #[.int .i64 0, .int .i64 0] 23) (.cells #[.bool false, .slice none 0 0, .int .i64 0] 26)
  have q0 := heap_a2 w (.cells #[.int .i64 0, .int .i64 0] 23) (.cells #[.bool false, .slice none 0 0, .int .i64 0] 26)
  have q1 := heap_b2 w (.cells #[.int .i64 0, .int .i64 0] 23) (.cells #[.bool false, .slice none 0 0, .int .i64 0] 26)
  go_enter Tryz.func5, Tryz.ntmps5
  go_wp2_with fail
  generalize (w.alloc (.cells #[.int .i64 0, .int .i64 0] 23)).alloc (.cells #[.bool false, .slice none 0 0, .int .i64 0] 26) = x0 at hb2 q0 q1 ⊢
  refine (CO.out _ (H.keeps hb2)).mono ?_
  rintro _ w1 ⟨v, rfl, hD⟩
  obtain ⟨n_g, n_o, n_n, n_c, n_e, rfl⟩ := dans_shape hD
  have x_k := heap_a1 w1 (.cells #[.bool n_g, .slice n_o n_n n_c, .int .i64 n_e] 26)
  have hc1 := al1 hD.below (.cells #[.bool n_g, .slice n_o n_n n_c, .int .i64 n_e] 26)
  have D1 := hD.stays (bel_alloc w1 (.cells #[.bool n_g, .slice n_o n_n n_c, .int .i64 n_e] 26))
  go_wp2_with fail
  generalize w1.alloc (.cells #[.bool n_g, .slice n_o n_n n_c, .int .i64 n_e] 26) = x1 at x_k hc1 D1 ⊢
  go_loopw [13, 11] (fun iv lv wr => iv = .int .i64 0 ∧ lv = .int .i64 b ∧ wr = x1) (fun _ _ _ => 0)
  case atStart => exact ⟨rfl, rfl, rfl⟩
  case round =>
    obtain ⟨rfl, rfl, rfl⟩ := hrel
    go_wp2_with fail
    go_loopw [14, 12] (fun iv lv wq => iv = .int .i64 0 ∧ lv = .int .i64 b ∧ wq = wr) (fun _ _ _ => 0)
    case atStart => exact ⟨rfl, rfl, rfl⟩
    case round =>
      obtain ⟨rfl, rfl, hwq⟩ := hrel
      subst hwq
      have l0 := (Array.getElem?_eq_some_iff.1 q0).1
      have l1 := (Array.getElem?_eq_some_iff.1 q1).1
      have A0 := blk_up hc1 q0
      have A1 := blk_up hc1 q1
      have x0' := blkC x_k 0 rfl
      have x1' := blkC x_k 1 rfl
      have x2' := blkC x_k 2 rfl
      have a0 := blkC A0 0 rfl
      have a1 := blkC A0 1 rfl
      have a2 := blkF A0 0
      have a3 := blkF A0 1
      have b0 := blkC A1 0 rfl
      have b1 := blkC A1 1 rfl
      have b2 := blkC A1 2 rfl
      have b3 := blkF A1 0
      have b4 := blkF A1 1
      have b5 := blkF A1 2
      have hn1 : w.heap.size ≠ w1.heap.size := by have := hD.below.size; omega
      have hn2 : w.heap.size + 1 ≠ w1.heap.size := by have := hD.below.size; omega
      have k0 : wr.cell? ⟨w1.heap.size, 0, none⟩ = some (.bool n_g) ∧ wr.cell? ⟨w1.heap.size, 1, none⟩ = some (.slice n_o n_n n_c) ∧ wr.cell? ⟨w1.heap.size, 2, none⟩ = some (.int .i64 n_e) := ⟨x0', x1', x2'⟩
      have K0 : wr.drew.cell? ⟨w1.heap.size, 0, none⟩ = some (.bool n_g) ∧ wr.drew.cell? ⟨w1.heap.size, 1, none⟩ = some (.slice n_o n_n n_c) ∧ wr.drew.cell? ⟨w1.heap.size, 2, none⟩ = some (.int .i64 n_e) := k0
      have k1 : ((wr.setCell ⟨w.heap.size, 0, none⟩ (.int .i64 b)).setCell ⟨w.heap.size, 1, none⟩ (.int .i64 b)).cell? ⟨w1.heap.size, 0, none⟩ = some (.bool n_g) ∧ ((wr.setCell ⟨w.heap.size, 0, none⟩ (.int .i64 b)).setCell ⟨w.heap.size, 1, none⟩ (.int .i64 b)).cell? ⟨w1.heap.size, 1, none⟩ = some (.slice n_o n_n n_c) ∧ ((wr.setCell ⟨w.heap.size, 0, none⟩ (.int .i64 b)).setCell ⟨w.heap.size, 1, none⟩ (.int .i64 b)).cell? ⟨w1.heap.size, 2, none⟩ = some (.int .i64 n_e) := keep3R k0 (((Wr.refl w.heap.size wr).setCell 0 _).setCell 1 _) (Ne.symm hn1)
      have K1 : ((wr.setCell ⟨w.heap.size, 0, none⟩ (.int .i64 b)).setCell ⟨w.heap.size, 1, none⟩ (.int .i64 b)).drew.cell? ⟨w1.heap.size, 0, none⟩ = some (.bool n_g) ∧ ((wr.setCell ⟨w.heap.size, 0, none⟩ (.int .i64 b)).setCell ⟨w.heap.size, 1, none⟩ (.int .i64 b)).drew.cell? ⟨w1.heap.size, 1, none⟩ = some (.slice n_o n_n n_c) ∧ ((wr.setCell ⟨w.heap.size, 0, none⟩ (.int .i64 b)).setCell ⟨w.heap.size, 1, none⟩ (.int .i64 b)).drew.cell? ⟨w1.heap.size, 2, none⟩ = some (.int .i64 n_e) := ⟨(cell_dr _ _).trans k1.1, (cell_dr _ _).trans k1.2.1, (cell_dr _ _).trans k1.2.2⟩
      have k2 : (((((wr.setCell ⟨w.heap.size, 0, none⟩ (.int .i64 b)).setCell ⟨w.heap.size, 1, none⟩ (.int .i64 b)).setCell ⟨w.heap.size + 1, 0, none⟩ (.bool n_g)).setCell ⟨w.heap.size + 1, 1, none⟩ (.slice n_o n_n n_c)).setCell ⟨w.heap.size + 1, 2, none⟩ (.int .i64 n_e)).cell? ⟨w1.heap.size, 0, none⟩ = some (.bool n_g) ∧ (((((wr.setCell ⟨w.heap.size, 0, none⟩ (.int .i64 b)).setCell ⟨w.heap.size, 1, none⟩ (.int .i64 b)).setCell ⟨w.heap.size + 1, 0, none⟩ (.bool n_g)).setCell ⟨w.heap.size + 1, 1, none⟩ (.slice n_o n_n n_c)).setCell ⟨w.heap.size + 1, 2, none⟩ (.int .i64 n_e)).cell? ⟨w1.heap.size, 1, none⟩ = some (.slice n_o n_n n_c) ∧ (((((wr.setCell ⟨w.heap.size, 0, none⟩ (.int .i64 b)).setCell ⟨w.heap.size, 1, none⟩ (.int .i64 b)).setCell ⟨w.heap.size + 1, 0, none⟩ (.bool n_g)).setCell ⟨w.heap.size + 1, 1, none⟩ (.slice n_o n_n n_c)).setCell ⟨w.heap.size + 1, 2, none⟩ (.int .i64 n_e)).cell? ⟨w1.heap.size, 2, none⟩ = some (.int .i64 n_e) := keep3R k1 (wr3 _ _ _ _ _ _ _ _) (Ne.symm hn2)
      have K2 : (((((wr.setCell ⟨w.heap.size, 0, none⟩ (.int .i64 b)).setCell ⟨w.heap.size, 1, none⟩ (.int .i64 b)).setCell ⟨w.heap.size + 1, 0, none⟩ (.bool n_g)).setCell ⟨w.heap.size + 1, 1, none⟩ (.slice n_o n_n n_c)).setCell ⟨w.heap.size + 1, 2, none⟩ (.int .i64 n_e)).drew.cell? ⟨w1.heap.size, 0, none⟩ = some (.bool n_g) ∧ (((((wr.setCell ⟨w.heap.size, 0, none⟩ (.int .i64 b)).setCell ⟨w.heap.size, 1, none⟩ (.int .i64 b)).setCell ⟨w.heap.size + 1, 0, none⟩ (.bool n_g)).setCell ⟨w.heap.size + 1, 1, none⟩ (.slice n_o n_n n_c)).setCell ⟨w.heap.size + 1, 2, none⟩ (.int .i64 n_e)).drew.cell? ⟨w1.heap.size, 1, none⟩ = some (.slice n_o n_n n_c) ∧ (((((wr.setCell ⟨w.heap.size, 0, none⟩ (.int .i64 b)).setCell ⟨w.heap.size, 1, none⟩ (.int .i64 b)).setCell ⟨w.heap.size + 1, 0, none⟩ (.bool n_g)).setCell ⟨w.heap.size + 1, 1, none⟩ (.slice n_o n_n n_c)).setCell ⟨w.heap.size + 1, 2, none⟩ (.int .i64 n_e)).drew.cell? ⟨w1.heap.size, 2, none⟩ = some (.int .i64 n_e) := ⟨(cell_dr _ _).trans k2.1, (cell_dr _ _).trans k2.2.1, (cell_dr _ _).trans k2.2.2⟩
      go_wp2_with fail
      go_region_held3 (fun W => W.cell? ⟨w1.heap.size, 0, none⟩ = some (.bool n_g) ∧ W.cell? ⟨w1.heap.size, 1, none⟩ = some (.slice n_o n_n n_c) ∧ W.cell? ⟨w1.heap.size, 2, none⟩ = some (.int .i64 n_e))
        (first | with_reducible assumption | with_reducible exact K0 | with_reducible exact K1 | with_reducible exact K2 | fail)
        (fail)
      have S1 := q_heap_set (q_heap_set A0 0 (.int .i64 b)) 1 (.int .i64 b)
      have hx10 : w.heap.size ≠ w.heap.size + 1 := by omega
      have S2 : (((((wr.setCell ⟨w.heap.size, 0, none⟩ (.int .i64 b)).setCell ⟨w.heap.size, 1, none⟩ (.int .i64 b)).setCell ⟨w.heap.size + 1, 0, none⟩ (.bool n_g)).setCell ⟨w.heap.size + 1, 1, none⟩ (.slice n_o n_n n_c)).setCell ⟨w.heap.size + 1, 2, none⟩ (.int .i64 n_e)).heap[w.heap.size]? = some (.cells #[.int .i64 b, .int .i64 b] 23 (0, 0)) := by
        rw [heap_setCell_other _ ⟨w.heap.size + 1, _, none⟩ w.heap.size _ hx10, heap_setCell_other _ ⟨w.heap.size + 1, _, none⟩ w.heap.size _ hx10, heap_setCell_other _ ⟨w.heap.size + 1, _, none⟩ w.heap.size _ hx10]
        exact S1
      have T0 : ((wr.setCell ⟨w.heap.size, 0, none⟩ (.int .i64 b)).setCell ⟨w.heap.size, 1, none⟩ (.int .i64 b)).heap[w.heap.size + 1]? = some (.cells #[.bool false, .slice none 0 0, .int .i64 0] 26 (0, 0)) := by
        rw [heap_setCell_other _ ⟨w.heap.size, _, none⟩ (w.heap.size + 1) _ (Ne.symm hx10), heap_setCell_other _ ⟨w.heap.size, _, none⟩ (w.heap.size + 1) _ (Ne.symm hx10)]
        exact A1
      have T3 := q_heap_set (q_heap_set (q_heap_set T0 0 (.bool n_g)) 1 (.slice n_o n_n n_c)) 2 (.int .i64 n_e)
      have W1 : Wr w.heap.size wr ((wr.setCell ⟨w.heap.size, 0, none⟩ (.int .i64 b)).setCell ⟨w.heap.size, 1, none⟩ (.int .i64 b)) := ((Wr.refl w.heap.size wr).setCell 0 _).setCell 1 _
      have W2 : Wr (w.heap.size + 1) ((wr.setCell ⟨w.heap.size, 0, none⟩ (.int .i64 b)).setCell ⟨w.heap.size, 1, none⟩ (.int .i64 b)) (((((wr.setCell ⟨w.heap.size, 0, none⟩ (.int .i64 b)).setCell ⟨w.heap.size, 1, none⟩ (.int .i64 b)).setCell ⟨w.heap.size + 1, 0, none⟩ (.bool n_g)).setCell ⟨w.heap.size + 1, 1, none⟩ (.slice n_o n_n n_c)).setCell ⟨w.heap.size + 1, 2, none⟩ (.int .i64 n_e)) := wr3 _ _ _ _ _ _ _ _
      have DD := ((D1.dan.wr W1 l0).wr W2 l1)
      have hB := bel_trans hb2 hc1
      have hBe := bel_set3' (o0 := 0) (o1 := 1) (o2 := 2) ((hB.setCell (p := ⟨w.heap.size, 0, none⟩) (Nat.le_refl _) (.int .i64 b)).setCell (p := ⟨w.heap.size, 1, none⟩) (Nat.le_refl _) (.int .i64 b)) (Nat.le_succ _) (.bool n_g) (.slice n_o n_n n_c) (.int .i64 n_e)
      have e0 : ((((((wr.setCell ⟨w.heap.size, 0, none⟩ (.int .i64 b)).setCell ⟨w.heap.size, 1, none⟩ (.int .i64 b)).setCell ⟨w.heap.size + 1, 0, none⟩ (.bool n_g)).setCell ⟨w.heap.size + 1, 1, none⟩ (.slice n_o n_n n_c)).setCell ⟨w.heap.size + 1, 2, none⟩ (.int .i64 n_e)).drew).cell? ⟨w.heap.size, 0, none⟩ = some (.int .i64 b) := (cell_dr _ _).trans (blkC S2 0 rfl)
      have e1 : ((((((wr.setCell ⟨w.heap.size, 0, none⟩ (.int .i64 b)).setCell ⟨w.heap.size, 1, none⟩ (.int .i64 b)).setCell ⟨w.heap.size + 1, 0, none⟩ (.bool n_g)).setCell ⟨w.heap.size + 1, 1, none⟩ (.slice n_o n_n n_c)).setCell ⟨w.heap.size + 1, 2, none⟩ (.int .i64 n_e)).drew).cell? ⟨w.heap.size, 1, none⟩ = some (.int .i64 b) := (cell_dr _ _).trans (blkC S2 1 rfl)
      have e2 : ((((((wr.setCell ⟨w.heap.size, 0, none⟩ (.int .i64 b)).setCell ⟨w.heap.size, 1, none⟩ (.int .i64 b)).setCell ⟨w.heap.size + 1, 0, none⟩ (.bool n_g)).setCell ⟨w.heap.size + 1, 1, none⟩ (.slice n_o n_n n_c)).setCell ⟨w.heap.size + 1, 2, none⟩ (.int .i64 n_e)).drew).cell? ⟨w.heap.size + 1, 0, none⟩ = some (.bool n_g) := (cell_dr _ _).trans (blkC T3 0 rfl)
      have e3 : ((((((wr.setCell ⟨w.heap.size, 0, none⟩ (.int .i64 b)).setCell ⟨w.heap.size, 1, none⟩ (.int .i64 b)).setCell ⟨w.heap.size + 1, 0, none⟩ (.bool n_g)).setCell ⟨w.heap.size + 1, 1, none⟩ (.slice n_o n_n n_c)).setCell ⟨w.heap.size + 1, 2, none⟩ (.int .i64 n_e)).drew).cell? ⟨w.heap.size + 1, 1, none⟩ = some (.slice n_o n_n n_c) := (cell_dr _ _).trans (blkC T3 1 rfl)
      have e4 : ((((((wr.setCell ⟨w.heap.size, 0, none⟩ (.int .i64 b)).setCell ⟨w.heap.size, 1, none⟩ (.int .i64 b)).setCell ⟨w.heap.size + 1, 0, none⟩ (.bool n_g)).setCell ⟨w.heap.size + 1, 1, none⟩ (.slice n_o n_n n_c)).setCell ⟨w.heap.size + 1, 2, none⟩ (.int .i64 n_e)).drew).cell? ⟨w.heap.size + 1, 2, none⟩ = some (.int .i64 n_e) := (cell_dr _ _).trans (blkC T3 2 rfl)
      have DE : DNum ((((((wr.setCell ⟨w.heap.size, 0, none⟩ (.int .i64 b)).setCell ⟨w.heap.size, 1, none⟩ (.int .i64 b)).setCell ⟨w.heap.size + 1, 0, none⟩ (.bool n_g)).setCell ⟨w.heap.size + 1, 1, none⟩ (.slice n_o n_n n_c)).setCell ⟨w.heap.size + 1, 2, none⟩ (.int .i64 n_e)).drew) (.agg #[.bool n_g, .slice n_o n_n n_c, .int .i64 n_e]) (patV b) := DD.num.keeps (bel_refl _).drew
      have hBe' := hBe.drew
      clear S1 S2 T0 T3 W1 W2 DD hBe
      generalize (((((wr.setCell ⟨w.heap.size, 0, none⟩ (.int .i64 b)).setCell ⟨w.heap.size, 1, none⟩ (.int .i64 b)).setCell ⟨w.heap.size + 1, 0, none⟩ (.bool n_g)).setCell ⟨w.heap.size + 1, 1, none⟩ (.slice n_o n_n n_c)).setCell ⟨w.heap.size + 1, 2, none⟩ (.int .i64 n_e)).drew = Y at e0 e1 e2 e3 e4 DE hBe' ⊢
      go_wp2
      refine bodyPost_ret (v := .tuple #[.agg #[.int .i64 b, .int .i64 b], .agg #[.bool n_g, .slice n_o n_n n_c, .int .i64 n_e], .bool true]) (by simp [results, Tryz.results5, go_sem, e0, e1, e2, e3, e4]) rfl ⟨_, rfl, DE, ⟨_, _, _, _, _, rfl⟩, hBe'⟩
end Go.Proofs.YtmpioejllfedoaaGreatDoor
