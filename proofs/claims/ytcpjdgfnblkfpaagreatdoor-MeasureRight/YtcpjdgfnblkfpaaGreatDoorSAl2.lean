/-
  plumblaw8's alive: span.Add and Sign at constants.
-/
import Derived.Test.YtcpjdgfnblkfpaaGreatDoorSAl
namespace Go.Proofs.YtcpjdgfnblkfpaaGreatDoor
open Go Go.RowKit Go.Proofs.YtcpjdgfnblkfpaaGreatDoor.M
set_option linter.unusedSimpArgs false
set_option linter.unusedVariables false

theorem abs1 (W : World) : Calls Tryz.prog 14 #[.float .f64 4607182418800017408] W fun e w' => e = .returned (.float .f64 4607182418800017408) ∧ w' = W := by
  have := mathAbs (b := 4607182418800017408) (by unfold rng; omega) W
  rw [show wd 4607182418800017408 = 4607182418800017408 by decide, show rg 4607182418800017408 = 4607182418800017408 by decide, show wd 4607182418800017408 = 4607182418800017408 by decide] at this
  exact this
theorem abs2 (W : World) : Calls Tryz.prog 14 #[.float .f64 4611686018427387904] W fun e w' => e = .returned (.float .f64 4611686018427387904) ∧ w' = W := by
  have := mathAbs (b := 4611686018427387904) (by unfold rng; omega) W
  rw [show wd 4611686018427387904 = 4611686018427387904 by decide, show rg 4611686018427387904 = 4611686018427387904 by decide, show wd 4611686018427387904 = 4611686018427387904 by decide] at this
  exact this
set_option maxRecDepth 100000 in
theorem sum11 (w : World) :
    Calls Tryz.prog 90 #[.float .f64 4607182418800017408, .float .f64 4607182418800017408] w fun e w' => e = .returned (.agg #[.float .f64 4611686018427387904, .float .f64 4611686018427387904]) ∧ w' = (w.alloc (.cells #[.float .f64 4611686018427387904, .float .f64 4611686018427387904] 98)).alloc (.cells #[.float .f64 4611686018427387904, .float .f64 4611686018427387904] 98) := by
  have hst : ∀ (p : Addr) (n : Nat) (m : Mode) (w : World), (store p (.float .f64 n) m).run Tryz.prog w = stored Tryz.prog w p (.float .f64 n) m := fun p n m w => run_store _ w p _ m rfl
  have o : FloatKind.f64.format.order 4607182418800017408 4607182418800017408 = some .eq := by decide +kernel
  have h1 : ∀ w : World, (binOp .add 42 (.float .f64 4607182418800017408) (.float .f64 4607182418800017408)).run Tryz.prog w = .ok (.float .f64 4611686018427387904) w := fun w => by kernel_rfl
  have h2 : ∀ w : World, (binOp .sub 42 (.float .f64 4611686018427387904) (.float .f64 4607182418800017408)).run Tryz.prog w = .ok (.float .f64 4607182418800017408) w := fun w => by kernel_rfl
  have h3 : ∀ w : World, (binOp .sub 42 (.float .f64 4607182418800017408) (.float .f64 4607182418800017408)).run Tryz.prog w = .ok (.float .f64 0) w := fun w => by kernel_rfl
  have hg := hl_last (w.alloc (.cells #[.float .f64 4611686018427387904, .float .f64 4611686018427387904] 98)) (.cells #[.float .f64 4611686018427387904, .float .f64 4611686018427387904] 98) rfl
  have hg0 : ((w.alloc (.cells #[.float .f64 4611686018427387904, .float .f64 4611686018427387904] 98)).alloc (.cells #[.float .f64 4611686018427387904, .float .f64 4611686018427387904] 98)).heap[w.heap.size]? = some (.cells #[.float .f64 4611686018427387904, .float .f64 4611686018427387904] 98 (0, 0)) := heap_a2 w _ _
  have e0 := blkC hg0 0 rfl
  have e1 := blkC hg0 1 rfl
  go_enter Tryz.func90, Tryz.ntmps90
  go_wp2_with (first | (go_at_call 14; refine (abs1 _).mono ?_; rintro _ _ ⟨rfl, rfl⟩)  | (go_at_call 122; refine (besideZ _ _).mono ?_; rintro _ _ ⟨rfl, rfl⟩))
  refine bodyPost_ret (v := .agg #[.float .f64 4611686018427387904, .float .f64 4611686018427387904]) (by simp [results, Tryz.results90, go_sem, e0, e1]) rfl ⟨rfl, rfl⟩
set_option maxRecDepth 100000 in
theorem sum12 (w : World) :
    Calls Tryz.prog 90 #[.float .f64 4607182418800017408, .float .f64 4611686018427387904] w fun e w' => e = .returned (.agg #[.float .f64 4613937818241073152, .float .f64 4613937818241073152]) ∧ w' = (w.alloc (.cells #[.float .f64 4613937818241073152, .float .f64 4613937818241073152] 98)).alloc (.cells #[.float .f64 4613937818241073152, .float .f64 4613937818241073152] 98) := by
  have hst : ∀ (p : Addr) (n : Nat) (m : Mode) (w : World), (store p (.float .f64 n) m).run Tryz.prog w = stored Tryz.prog w p (.float .f64 n) m := fun p n m w => run_store _ w p _ m rfl
  have o : FloatKind.f64.format.order 4607182418800017408 4611686018427387904 = some .lt := by decide +kernel
  have h1 : ∀ w : World, (binOp .add 42 (.float .f64 4611686018427387904) (.float .f64 4607182418800017408)).run Tryz.prog w = .ok (.float .f64 4613937818241073152) w := fun w => by kernel_rfl
  have h2 : ∀ w : World, (binOp .sub 42 (.float .f64 4613937818241073152) (.float .f64 4611686018427387904)).run Tryz.prog w = .ok (.float .f64 4607182418800017408) w := fun w => by kernel_rfl
  have h3 : ∀ w : World, (binOp .sub 42 (.float .f64 4607182418800017408) (.float .f64 4607182418800017408)).run Tryz.prog w = .ok (.float .f64 0) w := fun w => by kernel_rfl
  have hg := hl_last (w.alloc (.cells #[.float .f64 4613937818241073152, .float .f64 4613937818241073152] 98)) (.cells #[.float .f64 4613937818241073152, .float .f64 4613937818241073152] 98) rfl
  have hg0 : ((w.alloc (.cells #[.float .f64 4613937818241073152, .float .f64 4613937818241073152] 98)).alloc (.cells #[.float .f64 4613937818241073152, .float .f64 4613937818241073152] 98)).heap[w.heap.size]? = some (.cells #[.float .f64 4613937818241073152, .float .f64 4613937818241073152] 98 (0, 0)) := heap_a2 w _ _
  have e0 := blkC hg0 0 rfl
  have e1 := blkC hg0 1 rfl
  go_enter Tryz.func90, Tryz.ntmps90
  go_wp2_with (first | (go_at_call 14; refine (abs1 _).mono ?_; rintro _ _ ⟨rfl, rfl⟩) | (go_at_call 14; refine (abs2 _).mono ?_; rintro _ _ ⟨rfl, rfl⟩)  | (go_at_call 122; refine (besideZ _ _).mono ?_; rintro _ _ ⟨rfl, rfl⟩))
  refine bodyPost_ret (v := .agg #[.float .f64 4613937818241073152, .float .f64 4613937818241073152]) (by simp [results, Tryz.results90, go_sem, e0, e1]) rfl ⟨rfl, rfl⟩
set_option maxRecDepth 100000 in
set_option maxHeartbeats 1000000 in
theorem plusC (w : World) :
    Calls Tryz.prog 59 #[.agg #[.float .f64 4607182418800017408, .float .f64 4607182418800017408], .agg #[.float .f64 4607182418800017408, .float .f64 4611686018427387904]] w fun e w' => e = .returned (.agg #[.float .f64 4611686018427387904, .float .f64 4613937818241073152]) ∧ Below w.heap.size w w' := by
  have hst : ∀ (p : Addr) (n : Nat) (m : Mode) (w : World), (store p (.float .f64 n) m).run Tryz.prog w = stored Tryz.prog w p (.float .f64 n) m := fun p n m w => run_store _ w p _ m rfl
  obtain ⟨q0, q1, q2, hs, hb3⟩ := heap3 w (.cells #[.float .f64 4607182418800017408, .float .f64 4607182418800017408] 98) (.cells #[.float .f64 4607182418800017408, .float .f64 4611686018427387904] 98) (.cells #[.float .f64 0, .float .f64 0] 98)
  have k0 := blkC q0 0 rfl
  have k1 := blkC q0 1 rfl
  have k2 := blkC q1 0 rfl
  have k3 := blkC q1 1 rfl
  have S1 : Hid (∀ W, Calls Tryz.prog 90 #[.float .f64 4607182418800017408, .float .f64 4607182418800017408] W fun e w' => e = .returned (.agg #[.float .f64 4611686018427387904, .float .f64 4611686018427387904]) ∧ Below W.heap.size W w') := fun W => (sum11 W).mono fun _ _ ⟨h1, h2⟩ => ⟨h1, by rw [h2]; exact bel_alloc2 W _ _⟩
  have S2 : Hid (∀ W, Calls Tryz.prog 90 #[.float .f64 4607182418800017408, .float .f64 4611686018427387904] W fun e w' => e = .returned (.agg #[.float .f64 4613937818241073152, .float .f64 4613937818241073152]) ∧ Below W.heap.size W w') := fun W => (sum12 W).mono fun _ _ ⟨h1, h2⟩ => ⟨h1, by rw [h2]; exact bel_alloc2 W _ _⟩
  go_enter Tryz.func59, Tryz.ntmps59
  go_wp2_with fail
  generalize ((w.alloc (.cells #[.float .f64 4607182418800017408, .float .f64 4607182418800017408] 98)).alloc (.cells #[.float .f64 4607182418800017408, .float .f64 4611686018427387904] 98)).alloc (.cells #[.float .f64 0, .float .f64 0] 98) = wx at *
  obtain ⟨g, hg⟩ : ∃ g, w.heap.size + 1 + 1 = g := ⟨_, rfl⟩
  have hwg : w.heap.size + 2 ≤ g := by omega
  replace q2 : wx.drew.heap[g]? = some (.cells #[.float .f64 0, .float .f64 0] 98 (0, 0)) := by rw [← hg]; exact q2
  simp only [hg]
  clear hg hst
  have hc : (w.heap.size < w.heap.size + 2 ∧ w.heap.size + 1 < w.heap.size + 2 ∧ w.heap.size + 2 ≤ wx.drew.heap.size) ∧ wx.drew.cell? ⟨w.heap.size, 0, none⟩ = some (.float .f64 4607182418800017408) ∧ wx.drew.cell? ⟨w.heap.size, 1, none⟩ = some (.float .f64 4607182418800017408) ∧ wx.drew.cell? ⟨w.heap.size + 1, 0, none⟩ = some (.float .f64 4607182418800017408) ∧ wx.drew.cell? ⟨w.heap.size + 1, 1, none⟩ = some (.float .f64 4611686018427387904) := ⟨⟨by omega, by omega, by show _ ≤ wx.heap.size; omega⟩, k0, k1, k2, k3⟩
  have hbd := hb3.drew
  have fl0 : ∀ w : World, (Instr.field 98 (.agg #[.float .f64 4611686018427387904, .float .f64 4611686018427387904]) 0).run Tryz.prog w = .ok (.float .f64 4611686018427387904) w := fun w => by kernel_rfl
  have fl1 : ∀ w : World, (Instr.field 98 (.agg #[.float .f64 4613937818241073152, .float .f64 4613937818241073152]) 1).run Tryz.prog w = .ok (.float .f64 4613937818241073152) w := fun w => by kernel_rfl
  clear q0 q1 k0 k1 k2 k3
  go_region_held3 (fun W => (w.heap.size < w.heap.size + 2 ∧ w.heap.size + 1 < w.heap.size + 2 ∧ w.heap.size + 2 ≤ W.heap.size) ∧ W.cell? ⟨w.heap.size, 0, none⟩ = some (.float .f64 4607182418800017408) ∧ W.cell? ⟨w.heap.size, 1, none⟩ = some (.float .f64 4607182418800017408) ∧ W.cell? ⟨w.heap.size + 1, 0, none⟩ = some (.float .f64 4607182418800017408) ∧ W.cell? ⟨w.heap.size + 1, 1, none⟩ = some (.float .f64 4611686018427387904))
    (first | assumption | (repeat (first | exact hc | exact hc1 | exact hc2 | refine s4_drew ?_ | refine s4_set (by omega) ?_)))
    (first
      | (go_at_call 90; have _t := hb4; refine (S2.out _).mono ?_; rintro _ w2 ⟨rfl, hb5⟩; have hc2 := s4_keep hc1 hb5; have d2 := ((bel_trans hb4 hb5).block _ (Array.getElem?_eq_some_iff.1 q2).1).trans q2; have d3 := q_heap_set d2 0 (.float .f64 4611686018427387904); have d4 := q_heap_set d3 1 (.float .f64 4613937818241073152); have f0 := blkC d2 0 rfl; have z0 := blkF d2 0; have f1 := blkC d3 1 rfl; have z1 := blkF d3 1; have s0 : (store ⟨g, 0, none⟩ (.float .f64 4611686018427387904)).run Tryz.prog w2 = .ok () (w2.setCell ⟨g, 0, none⟩ (.float .f64 4611686018427387904)) := (by rw [run_store _ _ _ _ _ rfl, f0]; simp only [z0]; rfl); have s1 : (store ⟨g, 1, none⟩ (.float .f64 4613937818241073152)).run Tryz.prog (w2.setCell ⟨g, 0, none⟩ (.float .f64 4611686018427387904)) = .ok () ((w2.setCell ⟨g, 0, none⟩ (.float .f64 4611686018427387904)).setCell ⟨g, 1, none⟩ (.float .f64 4613937818241073152)) := (by rw [run_store _ _ _ _ _ rfl, f1]; simp only [z1]; rfl))
      | (go_at_call 90; refine (S1.out _).mono ?_; rintro _ w1 ⟨rfl, hb4⟩; have hc1 := s4_keep hc hb4))
  have e0 := blkC d4 0 rfl
  have e1 := blkC d4 1 rfl
  have hbe := ((bel_trans hbd (bel_trans hb4 hb5)).setCell (p := ⟨g, 0, none⟩) (show w.heap.size ≤ g by omega) (.float .f64 4611686018427387904)).setCell (p := ⟨g, 1, none⟩) (show w.heap.size ≤ g by omega) (.float .f64 4613937818241073152)
  clear d2 d3 d4 f0 f1 z0 z1 s0 s1 hc hc1 hc2
  generalize (w2.setCell ⟨g, 0, none⟩ (.float .f64 4611686018427387904)).setCell ⟨g, 1, none⟩ (.float .f64 4613937818241073152) = wy at *
  go_wp2
  refine bodyPost_ret (v := .agg #[.float .f64 4611686018427387904, .float .f64 4613937818241073152]) (by simp [results, Tryz.results59, go_sem, e0, e1]) rfl ⟨rfl, hbe⟩
set_option maxRecDepth 100000 in
theorem addC (w : World) (L : Lays w) :
    Calls Tryz.prog 37 #[.agg #[.int .i64 4607182418800017408, .int .i64 4607182418800017408], .agg #[.int .i64 4607182418800017408, .int .i64 4611686018427387904]] w fun e w' => e = .returned (.tuple #[.agg #[.int .i64 4611686018427387904, .int .i64 4613937818241073152], .int .i64 0]) ∧ Below w.heap.size w w' := by
  have w1 : wd 4607182418800017408 = 4607182418800017408 := by decide
  have w2 : wd 4611686018427387904 = 4611686018427387904 := by decide
  have w3 : wd 4613937818241073152 = 4613937818241073152 := by decide
  have r1 : rng 4607182418800017408 := by unfold rng; omega
  have r2 : rng 4611686018427387904 := by unfold rng; omega
  have r3 : rng 4613937818241073152 := by unfold rng; omega
  have hE : ∀ (cap : Array Value) (w : World), (callFunc 59 cap).run Tryz.prog w = .ok (.enter 59 cap) w := by
    intro cap w
    simp [go_sem]
  have CJ : Hid (∀ W, Lays W → Calls Tryz.prog 58 #[.agg #[.int .i64 4607182418800017408, .int .i64 4607182418800017408], .agg #[.int .i64 4607182418800017408, .int .i64 4611686018427387904], .func (.func 59) #[] #[]] W fun e w' => e = .returned (.tuple #[.agg #[.int .i64 4611686018427387904, .int .i64 4613937818241073152], .int .i64 0]) ∧ Below W.heap.size W w') := fun W LW => by
    have := ofTwo_any (x := 4611686018427387904) (y := 4613937818241073152) _ r1 r1 r1 r2 W LW hE (fun _ _ => ⟨⟨r2, by decide⟩, ⟨r3, by decide⟩, fun W' _ => by
      unfold ivl
      rw [w1, w2, w3]
      exact plusC W'⟩)
    rw [show vld 4607182418800017408 4607182418800017408 = true by decide, show vld 4607182418800017408 4611686018427387904 = true by decide, show canon 4611686018427387904 = 4611686018427387904 by decide, show canon 4613937818241073152 = 4613937818241073152 by decide] at this
    exact this
  obtain ⟨q0, q1, q2, hs, hb3⟩ := heap3 w (.cells #[.int .i64 4607182418800017408, .int .i64 4607182418800017408] 55) (.cells #[.int .i64 4607182418800017408, .int .i64 4611686018427387904] 55) (.cells #[.int .i64 0, .int .i64 0] 55)
  have L2 := L.below' hb3
  clear w1 w2 w3 r1 r2 r3
  go_enter Tryz.func37, Tryz.ntmps37
  go_wp2_with fail
  generalize ((w.alloc (.cells #[.int .i64 4607182418800017408, .int .i64 4607182418800017408] 55)).alloc (.cells #[.int .i64 4607182418800017408, .int .i64 4611686018427387904] 55)).alloc (.cells #[.int .i64 0, .int .i64 0] 55) = wx at *
  refine (CJ.out _ L2).mono ?_
  rintro _ w1 ⟨rfl, hb4⟩
  have d2 := (hb4.block _ (Array.getElem?_eq_some_iff.1 q2).1).trans q2
  have d3 := q_heap_set d2 0 (.int .i64 4611686018427387904)
  have d4 := q_heap_set d3 1 (.int .i64 4613937818241073152)
  have f0 := blkC d2 0 rfl
  have z0 := blkF d2 0
  have f1 := blkC d3 1 rfl
  have z1 := blkF d3 1
  have e0 := blkC d4 0 rfl
  have e1 := blkC d4 1 rfl
  have hbe := ((bel_trans hb3 hb4).setCell (p := ⟨w.heap.size + 1 + 1, 0, none⟩) (show w.heap.size ≤ w.heap.size + 1 + 1 by omega) (.int .i64 4611686018427387904)).setCell (p := ⟨w.heap.size + 1 + 1, 1, none⟩) (show w.heap.size ≤ w.heap.size + 1 + 1 by omega) (.int .i64 4613937818241073152)
  clear d2 d3 d4 q0 q1 q2
  go_wp2
  refine bodyPost_ret (v := .tuple #[.agg #[.int .i64 4611686018427387904, .int .i64 4613937818241073152], .int .i64 0]) (by simp [results, Tryz.results37, go_sem, e0, e1]) rfl ⟨rfl, hbe⟩
set_option maxRecDepth 100000 in
theorem signC (w : World) :
    Calls Tryz.prog 75 #[.agg #[.int .i64 4611686018427387904, .int .i64 4613937818241073152]] w fun e w' => e = .returned (.tuple #[.int .i64 1, .bool true, .int .i64 0]) ∧ Below w.heap.size w w' := by
  have hst : ∀ (p : Addr) (n : Nat) (m : Mode) (w : World), (store p (.float .f64 n) m).run Tryz.prog w = stored Tryz.prog w p (.float .f64 n) m := fun p n m w => run_store _ w p _ m rfl
  have w2 : wd 4611686018427387904 = 4611686018427387904 := by decide
  have w3 : wd 4613937818241073152 = 4613937818241073152 := by decide
  have r2 : rng 4611686018427387904 := by unfold rng; omega
  have r3 : rng 4613937818241073152 := by unfold rng; omega
  have o : FloatKind.f64.format.order 4611686018427387904 0 = some .gt := by decide +kernel
  have R1 : Hid (∀ W, Calls Tryz.prog 88 #[.agg #[.int .i64 4611686018427387904, .int .i64 4613937818241073152]] W fun e w' => e = .returned (.agg #[.float .f64 4611686018427387904, .float .f64 4613937818241073152]) ∧ Below W.heap.size W w') := fun W => by
    have := spanRead 4611686018427387904 4613937818241073152 W
    unfold spn ivl at this
    rw [w2, w3] at this
    exact this
  have V1 : Hid (∀ W, Calls Tryz.prog 89 #[.agg #[.float .f64 4611686018427387904, .float .f64 4613937818241073152]] W fun e w' => e = .returned (.bool true) ∧ Below W.heap.size W w') := fun W => by
    have := ivlValid r2 r3 W
    unfold ivl at this
    rw [w2, w3, show vld 4611686018427387904 4613937818241073152 = true by decide] at this
    exact this
  have hb := bel_alloc w (.cells #[.int .i64 4611686018427387904, .int .i64 4613937818241073152] 55)
  go_enter Tryz.func75, Tryz.ntmps75
  go_wp2_with fail
  generalize w.alloc (.cells #[.int .i64 4611686018427387904, .int .i64 4613937818241073152] 55) = wx at *
  refine (R1.out _).mono ?_
  rintro _ w1 ⟨rfl, hb1⟩
  have hba := bel_alloc w1 (.cells #[.float .f64 4611686018427387904, .float .f64 4613937818241073152] 98)
  have hg := hl_last w1 (.cells #[.float .f64 4611686018427387904, .float .f64 4613937818241073152] 98) rfl
  go_wp2_with fail
  generalize w1.alloc (.cells #[.float .f64 4611686018427387904, .float .f64 4613937818241073152] 98) = w2 at *
  refine (V1.out _).mono ?_
  rintro _ w3 ⟨rfl, hb2⟩
  have hg3 := (hb2.block _ (Array.getElem?_eq_some_iff.1 hg).1).trans hg
  have c0 := blkC hg3 0 rfl
  have c1 := blkC hg3 1 rfl
  go_wp2
  refine bodyPost_ret (v := .tuple #[.int .i64 1, .bool true, .int .i64 0]) (by simp [results, Tryz.results75, go_sem]) rfl ⟨rfl, bel_trans hb (bel_trans hb1 (bel_trans hba hb2))⟩
end Go.Proofs.YtcpjdgfnblkfpaaGreatDoor
