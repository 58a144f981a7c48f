/-
  Parts of the proof, one behind another.
-/
import Derived.Test.YtmjdlcbiaglkeaaDoorPart10
import Derived.Test.YtmjdlcbiaglkeaaDoorPart1
import Derived.Test.YtmjdlcbiaglkeaaDoorPart2
/-
  Package span: Has, by its contract.
-/
namespace Go.Proofs.YtmjdlcbiaglkeaaDoor
open Go Go.RowKit Go.Proofs.YtmjdlcbiaglkeaaDoor.M
set_option linter.unusedSimpArgs false
set_option linter.unusedVariables false

/-- Is an interval within another one, by the ends' values? -/
def inI (a b c d : Int) : Bool := decide (key a ≤ key c ∧ key d ≤ key b)
theorem inI_eq {a b c d : Int} (ha : nn a) (hb : nn b) (hc : nn c) (hd : nn d) : (decide (key (minP a c) = key a) && decide (key (maxP b d) = key b)) = inI a b c d := by
  obtain ⟨_, h1, h2, h3⟩ := minP_nn ha hc
  obtain ⟨_, g1, g2, g3⟩ := maxP_nn hb hd
  unfold inI
  rw [Bool.eq_iff_iff]
  simp only [Bool.and_eq_true, decide_eq_true_eq]
  omega
theorem run_eqF {P : Program} (w : World) (d : Nat) (t : TypeId) (k : FloatKind) (a b : Nat) (h : P.underlying t = some (.float k)) : (Op.equalIn (d + 1) t (.float .f64 a) (.float .f64 b)).run P w = .ok (FloatKind.f64.format.order a b == some .eq) w := by
  simp [Op.equalIn, run_underlying h, Op.floatEq]
set_option maxRecDepth 100000 in
set_option maxHeartbeats 1000000 in
theorem spanHas {lo hi c d : Int} {xg : Bool} {xo : Option Addr} {xn xc : Nat} {xe : Int} (hl : rng lo) (hh : rng hi) (nc : nn c) (nd : nn d) (hv : vld lo hi = true) (w : World)
    (CA : Hid (∀ W, Below w.heap.size w W → Calls Tryd.prog 18 #[.agg #[.bool xg, .slice xo xn xc, .int .i64 xe]] W fun r w' => r = .returned (.tuple #[spn c d, .int .i64 0]) ∧ Below W.heap.size W w')) :
    Calls Tryd.prog 8 #[spn lo hi, .agg #[.bool xg, .slice xo xn xc, .int .i64 xe]] w fun e w' => e = .returned (.tuple #[.bool (inI lo hi c d), .int .i64 0]) ∧ Below w.heap.size w w' := by
  obtain ⟨va, vb, _, _, _⟩ := vld_iff.1 hv
  have nl : nn lo := ⟨hl, va⟩
  have nh : nn hi := ⟨hh, vb⟩
  obtain ⟨n1, _, _, _⟩ := minP_nn nl nc
  obtain ⟨n2, _, _, _⟩ := maxP_nn nh nd
  have hI := inI_eq nl nh nc nd
  have S1 := same_order n1.1 nl.1
  have S2 := same_order n2.1 nh.1
  have hs1 : same (minP lo c) lo = decide (key (minP lo c) = key lo) := by unfold same; simp [n1.2, nl.2]
  have hs2 : same (maxP hi d) hi = decide (key (maxP hi d) = key hi) := by unfold same; simp [n2.2, nh.2]
  rw [hs1] at S1
  rw [hs2] at S2
  have R1 : Hid (∀ W, Calls Tryd.prog 13 #[spn lo hi] W fun e w' => e = .returned (ivl lo hi) ∧ Below W.heap.size W w') := fun W => spanRead lo hi W
  have R2 : Hid (∀ W, Calls Tryd.prog 13 #[spn c d] W fun e w' => e = .returned (ivl c d) ∧ Below W.heap.size W w') := fun W => spanRead c d W
  have V1 : Hid (∀ W, Calls Tryd.prog 14 #[ivl lo hi] W fun e w' => e = .returned (.bool true) ∧ Below W.heap.size W w') := fun W => by rw [← hv]; exact ivlValid hl hh W
  have CJ : Hid (∀ W, Calls Tryd.prog 19 #[ivl lo hi, ivl c d] W fun e w' => e = .returned (ivl (minP lo c) (maxP hi d)) ∧ Below W.heap.size W w') := fun W => ivlJoined nl nh nc nd W
  rw [← hI]
  clear hI hs1 hs2 n1 n2 nl nh nc nd hl hh hv va vb
  unfold spn ivl at *
  generalize wd (minP lo c) = X at *
  generalize wd (maxP hi d) = Y at *
  generalize (decide (key (minP lo c) = key lo)) = B1 at *
  generalize (decide (key (maxP hi d) = key hi)) = B2 at *
  generalize wd lo = A at *
  generalize wd hi = B at *
  have hst : ∀ (p : Addr) (n : Nat) (m : Mode) (w : World), (store p (.float .f64 n) m).run Tryd.prog w = stored Tryd.prog w p (.float .f64 n) m := fun p n m w => run_store _ w p _ m rfl
  have hb2 := bel_alloc2 w (.cells #[.int .i64 lo, .int .i64 hi] 23) (.cells #[.bool xg, .slice xo xn xc, .int .i64 xe] 26)
  have p0 := heap_a2 w (.cells #[.int .i64 lo, .int .i64 hi] 23) (.cells #[.bool xg, .slice xo xn xc, .int .i64 xe] 26)
  have p1 := heap_b2 w (.cells #[.int .i64 lo, .int .i64 hi] 23) (.cells #[.bool xg, .slice xo xn xc, .int .i64 xe] 26)
  go_enter Tryd.func8, Tryd.ntmps8
  go_wp2_with fail
  generalize (w.alloc (.cells #[.int .i64 lo, .int .i64 hi] 23)).alloc (.cells #[.bool xg, .slice xo xn xc, .int .i64 xe] 26) = wx at *
  refine (R1.out _).mono ?_
  rintro _ w1 ⟨rfl, hb3⟩
  have p11 := (hb3.block _ (Array.getElem?_eq_some_iff.1 p1).1).trans p1
  have hbi := bel_alloc w1 (.cells #[.float .f64 A, .float .f64 B] 45)
  have gi : (w1.alloc (.cells #[.float .f64 A, .float .f64 B] 45)).heap[w1.heap.size]? = some (.cells #[.float .f64 A, .float .f64 B] 45 (0, 0)) := by show (w1.heap.push _)[w1.heap.size]? = _; simp
  go_wp2_with fail
  generalize w1.alloc (.cells #[.float .f64 A, .float .f64 B] 45) = w2 at *
  refine (V1.out _).mono ?_
  rintro _ w3 ⟨rfl, hb4⟩
  have gi3 := (hb4.block _ (Array.getElem?_eq_some_iff.1 gi).1).trans gi
  have p13 := ((bel_trans hbi hb4).block _ (Array.getElem?_eq_some_iff.1 p11).1).trans p11
  have c0 := blkC p13 0 rfl
  have c1 := blkC p13 1 rfl
  have c2 := blkC p13 2 rfl
  have hbw := bel_trans hb2 (bel_trans hb3 (bel_trans hbi hb4))
  go_wp2_with fail
  refine (CA.out _ hbw).mono ?_
  rintro _ w4 ⟨rfl, hb5⟩
  have gi4 := (hb5.block _ (Array.getElem?_eq_some_iff.1 gi3).1).trans gi3
  have hba := bel_alloc w4 (.cells #[.int .i64 c, .int .i64 d] 23)
  have ga : (w4.alloc (.cells #[.int .i64 c, .int .i64 d] 23)).heap[w4.heap.size]? = some (.cells #[.int .i64 c, .int .i64 d] 23 (0, 0)) := by show (w4.heap.push _)[w4.heap.size]? = _; simp
  have gi5 := (hba.block _ (Array.getElem?_eq_some_iff.1 gi4).1).trans gi4
  have i0 := blkC gi5 0 rfl
  have i1 := blkC gi5 1 rfl
  have a0 := blkC ga 0 rfl
  have a1 := blkC ga 1 rfl
  clear c0 c1 c2
  go_wp2_with fail
  generalize w4.alloc (.cells #[.int .i64 c, .int .i64 d] 23) = w5 at *
  have kk := And.intro i0 (And.intro i1 (And.intro a0 a1))
  have kd := Q4.keeps kk (bel_refl w5).drew
  have hbw5 := bel_trans hbw (bel_trans hb5 hba)
  clear hst R1 V1 CA i0 i1 a0 a1 kk gi gi3 gi4 gi5 ga p0 p1 p11 p13
  have QX : ∀ W, (Op.equalIn 9999 43 (.float .f64 X) (.float .f64 A)).run Tryd.prog W = .ok B1 W := fun W => by rw [run_eqF W 9998 43 _ X A Tryd.underlying43, S1]
  have QY : ∀ W, (Op.equalIn 9999 43 (.float .f64 Y) (.float .f64 B)).run Tryd.prog W = .ok B2 W := fun W => by rw [run_eqF W 9998 43 _ Y B Tryd.underlying43, S2]
  clear S1 S2
  cases B1 <;> cases B2
  all_goals
    go_region_held3 (fun W => W.cell? ⟨w1.heap.size, 0, none⟩ = some (.float .f64 A) ∧ W.cell? ⟨w1.heap.size, 1, none⟩ = some (.float .f64 B) ∧ W.cell? ⟨w4.heap.size, 0, none⟩ = some (.int .i64 c) ∧ W.cell? ⟨w4.heap.size, 1, none⟩ = some (.int .i64 d))
      (first | assumption | exact kd | exact kk1 | exact kk2)
      (first
        | (go_at_call 13; refine (R2.out _).mono ?_; rintro _ w6 ⟨rfl, hb6⟩; have kk1 := Q4.keeps kd hb6)
        | (go_at_call 19; refine (CJ.out _).mono ?_; rintro _ w7 ⟨rfl, hb7⟩; have kk2 := Q4.keeps kk1 hb7))
    go_wp2
  all_goals first
    | exact bodyPost_ret (v := .tuple #[.bool false, .int .i64 0]) (by simp [results, Tryd.results8, go_sem]) rfl ⟨rfl, bel_trans hbw5.drew (bel_trans hb6 hb7)⟩
    | exact bodyPost_ret (v := .tuple #[.bool true, .int .i64 0]) (by simp [results, Tryd.results8, go_sem]) rfl ⟨rfl, bel_trans hbw5.drew (bel_trans hb6 hb7)⟩
end Go.Proofs.YtmjdlcbiaglkeaaDoor

/-
  Package span: Join; plumblaw8's alive: it answers true.
-/
namespace Go.Proofs.YtmjdlcbiaglkeaaDoor
open Go Go.RowKit Go.Proofs.YtmjdlcbiaglkeaaDoor.M
set_option linter.unusedSimpArgs false
set_option linter.unusedVariables false

set_option maxRecDepth 100000 in
theorem spanJoin {a b c d : Int} (ha : rng a) (hb : rng b) (hc : rng c) (hd : rng d) (w : World) (L : Lays w) :
    Calls Tryd.prog 9 #[spn a b, spn c d] w fun e w' => e = .returned (.tuple #[twoV (vld a b && vld c d) (spn (canon (minP a c)) (canon (maxP b d))), .int .i64 (errA (vld a b && vld c d))]) ∧ Below w.heap.size w w' := by
  have hE : ∀ (cap : Array Value) (w : World), (callFunc 19 cap).run Tryd.prog w = .ok (.enter 19 cap) w := by
    intro cap w
    simp [go_sem]
  have CJ : Hid (∀ W, Lays W → Calls Tryd.prog 20 #[spn a b, spn c d, .func (.func 19) #[] #[]] W fun e w' => e = .returned (.tuple #[twoV (vld a b && vld c d) (spn (canon (minP a c)) (canon (maxP b d))), .int .i64 (errA (vld a b && vld c d))]) ∧ Below W.heap.size W w') := fun W LW =>
    ofTwo_any _ ha hb hc hd W LW hE (fun h1 h2 => by
      obtain ⟨va, vb, _, _, _⟩ := vld_iff.1 h1
      obtain ⟨vc, vd, _, _, _⟩ := vld_iff.1 h2
      exact ⟨(minP_nn ⟨ha, va⟩ ⟨hc, vc⟩).1, (maxP_nn ⟨hb, vb⟩ ⟨hd, vd⟩).1, fun W' _ => ivlJoined ⟨ha, va⟩ ⟨hb, vb⟩ ⟨hc, vc⟩ ⟨hd, vd⟩ W'⟩)
  have hx : ∃ X Y, twoV (vld a b && vld c d) (spn (canon (minP a c)) (canon (maxP b d))) = .agg #[.int .i64 X, .int .i64 Y] := by
    unfold twoV spn; split
    · exact ⟨_, _, rfl⟩
    · exact ⟨_, _, rfl⟩
  obtain ⟨X, Y, hXY⟩ := hx
  rw [hXY] at CJ ⊢
  clear hXY
  unfold spn at *
  generalize errA (vld a b && vld c d) = E at *
  obtain ⟨q0, q1, q2, hs, hb3⟩ := heap3 w (.cells #[.int .i64 a, .int .i64 b] 23) (.cells #[.int .i64 c, .int .i64 d] 23) (.cells #[.int .i64 0, .int .i64 0] 23)
  have L2 := L.below' hb3
  go_enter Tryd.func9, Tryd.ntmps9
  go_wp2_with fail
  generalize ((w.alloc (.cells #[.int .i64 a, .int .i64 b] 23)).alloc (.cells #[.int .i64 c, .int .i64 d] 23)).alloc (.cells #[.int .i64 0, .int .i64 0] 23) = wx at *
  refine (CJ.out _ L2).mono ?_
  rintro _ w1 ⟨rfl, hb4⟩
  have d2 := (hb4.block _ (Array.getElem?_eq_some_iff.1 q2).1).trans q2
  have d3 := q_heap_set d2 0 (.int .i64 X)
  have d4 := q_heap_set d3 1 (.int .i64 Y)
  have f0 := blkC d2 0 rfl
  have z0 := blkF d2 0
  have f1 := blkC d3 1 rfl
  have z1 := blkF d3 1
  have e0 := blkC d4 0 rfl
  have e1 := blkC d4 1 rfl
  have hbe := ((bel_trans hb3 hb4).setCell (p := ⟨w.heap.size + 1 + 1, 0, none⟩) (show w.heap.size ≤ w.heap.size + 1 + 1 by omega) (.int .i64 X)).setCell (p := ⟨w.heap.size + 1 + 1, 1, none⟩) (show w.heap.size ≤ w.heap.size + 1 + 1 by omega) (.int .i64 Y)
  clear d2 d3 d4 q0 q1 q2
  go_wp2
  refine bodyPost_ret (v := .tuple #[.agg #[.int .i64 X, .int .i64 Y], .int .i64 E]) (by simp [results, Tryd.results9, go_sem, e0, e1]) rfl ⟨rfl, hbe⟩
set_option maxRecDepth 100000 in
theorem besideZ (x : Nat) (w : World) :
    Calls Tryd.prog 47 #[.float .f64 x, .float .f64 0] w fun e w' => e = .returned (.agg #[.float .f64 x, .float .f64 x]) ∧ w' = w.alloc (.cells #[.float .f64 x, .float .f64 x] 45) := by
  have hst : ∀ (p : Addr) (n : Nat) (m : Mode) (w : World), (store p (.float .f64 n) m).run Tryd.prog w = stored Tryd.prog w p (.float .f64 n) m := fun p n m w => run_store _ w p _ m rfl
  have o : FloatKind.f64.format.order 0 0 = some .eq := by decide +kernel
  have hg : (w.alloc (.cells #[.float .f64 x, .float .f64 x] 45)).heap[w.heap.size]? = some (.cells #[.float .f64 x, .float .f64 x] 45 (0, 0)) := hl_last _ _ rfl
  have e0 := blkC hg 0 rfl
  have e1 := blkC hg 1 rfl
  go_enter Tryd.func47, Tryd.ntmps47
  go_wp2
  refine bodyPost_ret (v := .agg #[.float .f64 x, .float .f64 x]) (by simp [results, Tryd.results47, go_sem, e0, e1]) rfl ⟨rfl, rfl⟩
end Go.Proofs.YtmjdlcbiaglkeaaDoor

/-
  plumblaw8's alive: span.Add and Sign at constants.
-/
namespace Go.Proofs.YtmjdlcbiaglkeaaDoor
open Go Go.RowKit Go.Proofs.YtmjdlcbiaglkeaaDoor.M
set_option linter.unusedSimpArgs false
set_option linter.unusedVariables false

theorem abs1 (W : World) : Calls Tryd.prog 37 #[.float .f64 4607182418800017408] W fun e w' => e = .returned (.float .f64 4607182418800017408) ∧ w' = W := by
  have := mathAbs (b := 4607182418800017408) (by unfold rng; omega) W
  rw [show wd 4607182418800017408 = 4607182418800017408 by decide, show rg 4607182418800017408 = 4607182418800017408 by decide, show wd 4607182418800017408 = 4607182418800017408 by decide] at this
  exact this
theorem abs2 (W : World) : Calls Tryd.prog 37 #[.float .f64 4611686018427387904] W fun e w' => e = .returned (.float .f64 4611686018427387904) ∧ w' = W := by
  have := mathAbs (b := 4611686018427387904) (by unfold rng; omega) W
  rw [show wd 4611686018427387904 = 4611686018427387904 by decide, show rg 4611686018427387904 = 4611686018427387904 by decide, show wd 4611686018427387904 = 4611686018427387904 by decide] at this
  exact this
set_option maxRecDepth 100000 in
theorem sum11 (w : World) :
    Calls Tryd.prog 40 #[.float .f64 4607182418800017408, .float .f64 4607182418800017408] w fun e w' => e = .returned (.agg #[.float .f64 4611686018427387904, .float .f64 4611686018427387904]) ∧ w' = (w.alloc (.cells #[.float .f64 4611686018427387904, .float .f64 4611686018427387904] 45)).alloc (.cells #[.float .f64 4611686018427387904, .float .f64 4611686018427387904] 45) := by
  have hst : ∀ (p : Addr) (n : Nat) (m : Mode) (w : World), (store p (.float .f64 n) m).run Tryd.prog w = stored Tryd.prog w p (.float .f64 n) m := fun p n m w => run_store _ w p _ m rfl
  have o : FloatKind.f64.format.order 4607182418800017408 4607182418800017408 = some .eq := by decide +kernel
  have h1 : ∀ w : World, (binOp .add 43 (.float .f64 4607182418800017408) (.float .f64 4607182418800017408)).run Tryd.prog w = .ok (.float .f64 4611686018427387904) w := fun w => by kernel_rfl
  have h2 : ∀ w : World, (binOp .sub 43 (.float .f64 4611686018427387904) (.float .f64 4607182418800017408)).run Tryd.prog w = .ok (.float .f64 4607182418800017408) w := fun w => by kernel_rfl
  have h3 : ∀ w : World, (binOp .sub 43 (.float .f64 4607182418800017408) (.float .f64 4607182418800017408)).run Tryd.prog w = .ok (.float .f64 0) w := fun w => by kernel_rfl
  have hg := hl_last (w.alloc (.cells #[.float .f64 4611686018427387904, .float .f64 4611686018427387904] 45)) (.cells #[.float .f64 4611686018427387904, .float .f64 4611686018427387904] 45) rfl
  have hg0 : ((w.alloc (.cells #[.float .f64 4611686018427387904, .float .f64 4611686018427387904] 45)).alloc (.cells #[.float .f64 4611686018427387904, .float .f64 4611686018427387904] 45)).heap[w.heap.size]? = some (.cells #[.float .f64 4611686018427387904, .float .f64 4611686018427387904] 45 (0, 0)) := heap_a2 w _ _
  have e0 := blkC hg0 0 rfl
  have e1 := blkC hg0 1 rfl
  go_enter Tryd.func40, Tryd.ntmps40
  go_wp2_with (first | (go_at_call 37; refine (abs1 _).mono ?_; rintro _ _ ⟨rfl, rfl⟩)  | (go_at_call 47; refine (besideZ _ _).mono ?_; rintro _ _ ⟨rfl, rfl⟩))
  refine bodyPost_ret (v := .agg #[.float .f64 4611686018427387904, .float .f64 4611686018427387904]) (by simp [results, Tryd.results40, go_sem, e0, e1]) rfl ⟨rfl, rfl⟩
set_option maxRecDepth 100000 in
theorem sum12 (w : World) :
    Calls Tryd.prog 40 #[.float .f64 4607182418800017408, .float .f64 4611686018427387904] w fun e w' => e = .returned (.agg #[.float .f64 4613937818241073152, .float .f64 4613937818241073152]) ∧ w' = (w.alloc (.cells #[.float .f64 4613937818241073152, .float .f64 4613937818241073152] 45)).alloc (.cells #[.float .f64 4613937818241073152, .float .f64 4613937818241073152] 45) := by
  have hst : ∀ (p : Addr) (n : Nat) (m : Mode) (w : World), (store p (.float .f64 n) m).run Tryd.prog w = stored Tryd.prog w p (.float .f64 n) m := fun p n m w => run_store _ w p _ m rfl
  have o : FloatKind.f64.format.order 4607182418800017408 4611686018427387904 = some .lt := by decide +kernel
  have h1 : ∀ w : World, (binOp .add 43 (.float .f64 4611686018427387904) (.float .f64 4607182418800017408)).run Tryd.prog w = .ok (.float .f64 4613937818241073152) w := fun w => by kernel_rfl
  have h2 : ∀ w : World, (binOp .sub 43 (.float .f64 4613937818241073152) (.float .f64 4611686018427387904)).run Tryd.prog w = .ok (.float .f64 4607182418800017408) w := fun w => by kernel_rfl
  have h3 : ∀ w : World, (binOp .sub 43 (.float .f64 4607182418800017408) (.float .f64 4607182418800017408)).run Tryd.prog w = .ok (.float .f64 0) w := fun w => by kernel_rfl
  have hg := hl_last (w.alloc (.cells #[.float .f64 4613937818241073152, .float .f64 4613937818241073152] 45)) (.cells #[.float .f64 4613937818241073152, .float .f64 4613937818241073152] 45) rfl
  have hg0 : ((w.alloc (.cells #[.float .f64 4613937818241073152, .float .f64 4613937818241073152] 45)).alloc (.cells #[.float .f64 4613937818241073152, .float .f64 4613937818241073152] 45)).heap[w.heap.size]? = some (.cells #[.float .f64 4613937818241073152, .float .f64 4613937818241073152] 45 (0, 0)) := heap_a2 w _ _
  have e0 := blkC hg0 0 rfl
  have e1 := blkC hg0 1 rfl
  go_enter Tryd.func40, Tryd.ntmps40
  go_wp2_with (first | (go_at_call 37; refine (abs1 _).mono ?_; rintro _ _ ⟨rfl, rfl⟩) | (go_at_call 37; refine (abs2 _).mono ?_; rintro _ _ ⟨rfl, rfl⟩)  | (go_at_call 47; refine (besideZ _ _).mono ?_; rintro _ _ ⟨rfl, rfl⟩))
  refine bodyPost_ret (v := .agg #[.float .f64 4613937818241073152, .float .f64 4613937818241073152]) (by simp [results, Tryd.results40, go_sem, e0, e1]) rfl ⟨rfl, rfl⟩
set_option maxRecDepth 100000 in
set_option maxHeartbeats 1000000 in
theorem plusC (w : World) :
    Calls Tryd.prog 28 #[.agg #[.float .f64 4607182418800017408, .float .f64 4607182418800017408], .agg #[.float .f64 4607182418800017408, .float .f64 4611686018427387904]] w fun e w' => e = .returned (.agg #[.float .f64 4611686018427387904, .float .f64 4613937818241073152]) ∧ Below w.heap.size w w' := by
  have hst : ∀ (p : Addr) (n : Nat) (m : Mode) (w : World), (store p (.float .f64 n) m).run Tryd.prog w = stored Tryd.prog w p (.float .f64 n) m := fun p n m w => run_store _ w p _ m rfl
  obtain ⟨q0, q1, q2, hs, hb3⟩ := heap3 w (.cells #[.float .f64 4607182418800017408, .float .f64 4607182418800017408] 45) (.cells #[.float .f64 4607182418800017408, .float .f64 4611686018427387904] 45) (.cells #[.float .f64 0, .float .f64 0] 45)
  have k0 := blkC q0 0 rfl
  have k1 := blkC q0 1 rfl
  have k2 := blkC q1 0 rfl
  have k3 := blkC q1 1 rfl
  have S1 : Hid (∀ W, Calls Tryd.prog 40 #[.float .f64 4607182418800017408, .float .f64 4607182418800017408] W fun e w' => e = .returned (.agg #[.float .f64 4611686018427387904, .float .f64 4611686018427387904]) ∧ Below W.heap.size W w') := fun W => (sum11 W).mono fun _ _ ⟨h1, h2⟩ => ⟨h1, by rw [h2]; exact bel_alloc2 W _ _⟩
  have S2 : Hid (∀ W, Calls Tryd.prog 40 #[.float .f64 4607182418800017408, .float .f64 4611686018427387904] W fun e w' => e = .returned (.agg #[.float .f64 4613937818241073152, .float .f64 4613937818241073152]) ∧ Below W.heap.size W w') := fun W => (sum12 W).mono fun _ _ ⟨h1, h2⟩ => ⟨h1, by rw [h2]; exact bel_alloc2 W _ _⟩
  go_enter Tryd.func28, Tryd.ntmps28
  go_wp2_with fail
  generalize ((w.alloc (.cells #[.float .f64 4607182418800017408, .float .f64 4607182418800017408] 45)).alloc (.cells #[.float .f64 4607182418800017408, .float .f64 4611686018427387904] 45)).alloc (.cells #[.float .f64 0, .float .f64 0] 45) = wx at *
  obtain ⟨g, hg⟩ : ∃ g, w.heap.size + 1 + 1 = g := ⟨_, rfl⟩
  have hwg : w.heap.size + 2 ≤ g := by omega
  replace q2 : wx.drew.heap[g]? = some (.cells #[.float .f64 0, .float .f64 0] 45 (0, 0)) := by rw [← hg]; exact q2
  simp only [hg]
  clear hg hst
  have hc : (w.heap.size < w.heap.size + 2 ∧ w.heap.size + 1 < w.heap.size + 2 ∧ w.heap.size + 2 ≤ wx.drew.heap.size) ∧ wx.drew.cell? ⟨w.heap.size, 0, none⟩ = some (.float .f64 4607182418800017408) ∧ wx.drew.cell? ⟨w.heap.size, 1, none⟩ = some (.float .f64 4607182418800017408) ∧ wx.drew.cell? ⟨w.heap.size + 1, 0, none⟩ = some (.float .f64 4607182418800017408) ∧ wx.drew.cell? ⟨w.heap.size + 1, 1, none⟩ = some (.float .f64 4611686018427387904) := ⟨⟨by omega, by omega, by show _ ≤ wx.heap.size; omega⟩, k0, k1, k2, k3⟩
  have hbd := hb3.drew
  have fl0 : ∀ w : World, (Instr.field 45 (.agg #[.float .f64 4611686018427387904, .float .f64 4611686018427387904]) 0).run Tryd.prog w = .ok (.float .f64 4611686018427387904) w := fun w => by kernel_rfl
  have fl1 : ∀ w : World, (Instr.field 45 (.agg #[.float .f64 4613937818241073152, .float .f64 4613937818241073152]) 1).run Tryd.prog w = .ok (.float .f64 4613937818241073152) w := fun w => by kernel_rfl
  clear q0 q1 k0 k1 k2 k3
  go_region_held3 (fun W => (w.heap.size < w.heap.size + 2 ∧ w.heap.size + 1 < w.heap.size + 2 ∧ w.heap.size + 2 ≤ W.heap.size) ∧ W.cell? ⟨w.heap.size, 0, none⟩ = some (.float .f64 4607182418800017408) ∧ W.cell? ⟨w.heap.size, 1, none⟩ = some (.float .f64 4607182418800017408) ∧ W.cell? ⟨w.heap.size + 1, 0, none⟩ = some (.float .f64 4607182418800017408) ∧ W.cell? ⟨w.heap.size + 1, 1, none⟩ = some (.float .f64 4611686018427387904))
    (first | assumption | (repeat (first | exact hc | exact hc1 | exact hc2 | refine s4_drew ?_ | refine s4_set (by omega) ?_)))
    (first
      | (go_at_call 40; have _t := hb4; refine (S2.out _).mono ?_; rintro _ w2 ⟨rfl, hb5⟩; have hc2 := s4_keep hc1 hb5; have d2 := ((bel_trans hb4 hb5).block _ (Array.getElem?_eq_some_iff.1 q2).1).trans q2; have d3 := q_heap_set d2 0 (.float .f64 4611686018427387904); have d4 := q_heap_set d3 1 (.float .f64 4613937818241073152); have f0 := blkC d2 0 rfl; have z0 := blkF d2 0; have f1 := blkC d3 1 rfl; have z1 := blkF d3 1; have s0 : (store ⟨g, 0, none⟩ (.float .f64 4611686018427387904)).run Tryd.prog w2 = .ok () (w2.setCell ⟨g, 0, none⟩ (.float .f64 4611686018427387904)) := (by rw [run_store _ _ _ _ _ rfl, f0]; simp only [z0]; rfl); have s1 : (store ⟨g, 1, none⟩ (.float .f64 4613937818241073152)).run Tryd.prog (w2.setCell ⟨g, 0, none⟩ (.float .f64 4611686018427387904)) = .ok () ((w2.setCell ⟨g, 0, none⟩ (.float .f64 4611686018427387904)).setCell ⟨g, 1, none⟩ (.float .f64 4613937818241073152)) := (by rw [run_store _ _ _ _ _ rfl, f1]; simp only [z1]; rfl))
      | (go_at_call 40; refine (S1.out _).mono ?_; rintro _ w1 ⟨rfl, hb4⟩; have hc1 := s4_keep hc hb4))
  have e0 := blkC d4 0 rfl
  have e1 := blkC d4 1 rfl
  have hbe := ((bel_trans hbd (bel_trans hb4 hb5)).setCell (p := ⟨g, 0, none⟩) (show w.heap.size ≤ g by omega) (.float .f64 4611686018427387904)).setCell (p := ⟨g, 1, none⟩) (show w.heap.size ≤ g by omega) (.float .f64 4613937818241073152)
  clear d2 d3 d4 f0 f1 z0 z1 s0 s1 hc hc1 hc2
  generalize (w2.setCell ⟨g, 0, none⟩ (.float .f64 4611686018427387904)).setCell ⟨g, 1, none⟩ (.float .f64 4613937818241073152) = wy at *
  go_wp2
  refine bodyPost_ret (v := .agg #[.float .f64 4611686018427387904, .float .f64 4613937818241073152]) (by simp [results, Tryd.results28, go_sem, e0, e1]) rfl ⟨rfl, hbe⟩
set_option maxRecDepth 100000 in
theorem addC (w : World) (L : Lays w) :
    Calls Tryd.prog 16 #[.agg #[.int .i64 4607182418800017408, .int .i64 4607182418800017408], .agg #[.int .i64 4607182418800017408, .int .i64 4611686018427387904]] w fun e w' => e = .returned (.tuple #[.agg #[.int .i64 4611686018427387904, .int .i64 4613937818241073152], .int .i64 0]) ∧ Below w.heap.size w w' := by
  have w1 : wd 4607182418800017408 = 4607182418800017408 := by decide
  have w2 : wd 4611686018427387904 = 4611686018427387904 := by decide
  have w3 : wd 4613937818241073152 = 4613937818241073152 := by decide
  have r1 : rng 4607182418800017408 := by unfold rng; omega
  have r2 : rng 4611686018427387904 := by unfold rng; omega
  have r3 : rng 4613937818241073152 := by unfold rng; omega
  have hE : ∀ (cap : Array Value) (w : World), (callFunc 28 cap).run Tryd.prog w = .ok (.enter 28 cap) w := by
    intro cap w
    simp [go_sem]
  have CJ : Hid (∀ W, Lays W → Calls Tryd.prog 20 #[.agg #[.int .i64 4607182418800017408, .int .i64 4607182418800017408], .agg #[.int .i64 4607182418800017408, .int .i64 4611686018427387904], .func (.func 28) #[] #[]] W fun e w' => e = .returned (.tuple #[.agg #[.int .i64 4611686018427387904, .int .i64 4613937818241073152], .int .i64 0]) ∧ Below W.heap.size W w') := fun W LW => by
    have := ofTwo_any (x := 4611686018427387904) (y := 4613937818241073152) _ r1 r1 r1 r2 W LW hE (fun _ _ => ⟨⟨r2, by decide⟩, ⟨r3, by decide⟩, fun W' _ => by
      unfold ivl
      rw [w1, w2, w3]
      exact plusC W'⟩)
    rw [show vld 4607182418800017408 4607182418800017408 = true by decide, show vld 4607182418800017408 4611686018427387904 = true by decide, show canon 4611686018427387904 = 4611686018427387904 by decide, show canon 4613937818241073152 = 4613937818241073152 by decide] at this
    exact this
  obtain ⟨q0, q1, q2, hs, hb3⟩ := heap3 w (.cells #[.int .i64 4607182418800017408, .int .i64 4607182418800017408] 23) (.cells #[.int .i64 4607182418800017408, .int .i64 4611686018427387904] 23) (.cells #[.int .i64 0, .int .i64 0] 23)
  have L2 := L.below' hb3
  clear w1 w2 w3 r1 r2 r3
  go_enter Tryd.func16, Tryd.ntmps16
  go_wp2_with fail
  generalize ((w.alloc (.cells #[.int .i64 4607182418800017408, .int .i64 4607182418800017408] 23)).alloc (.cells #[.int .i64 4607182418800017408, .int .i64 4611686018427387904] 23)).alloc (.cells #[.int .i64 0, .int .i64 0] 23) = wx at *
  refine (CJ.out _ L2).mono ?_
  rintro _ w1 ⟨rfl, hb4⟩
  have d2 := (hb4.block _ (Array.getElem?_eq_some_iff.1 q2).1).trans q2
  have d3 := q_heap_set d2 0 (.int .i64 4611686018427387904)
  have d4 := q_heap_set d3 1 (.int .i64 4613937818241073152)
  have f0 := blkC d2 0 rfl
  have z0 := blkF d2 0
  have f1 := blkC d3 1 rfl
  have z1 := blkF d3 1
  have e0 := blkC d4 0 rfl
  have e1 := blkC d4 1 rfl
  have hbe := ((bel_trans hb3 hb4).setCell (p := ⟨w.heap.size + 1 + 1, 0, none⟩) (show w.heap.size ≤ w.heap.size + 1 + 1 by omega) (.int .i64 4611686018427387904)).setCell (p := ⟨w.heap.size + 1 + 1, 1, none⟩) (show w.heap.size ≤ w.heap.size + 1 + 1 by omega) (.int .i64 4613937818241073152)
  clear d2 d3 d4 q0 q1 q2
  go_wp2
  refine bodyPost_ret (v := .tuple #[.agg #[.int .i64 4611686018427387904, .int .i64 4613937818241073152], .int .i64 0]) (by simp [results, Tryd.results16, go_sem, e0, e1]) rfl ⟨rfl, hbe⟩
set_option maxRecDepth 100000 in
theorem signC (w : World) :
    Calls Tryd.prog 17 #[.agg #[.int .i64 4611686018427387904, .int .i64 4613937818241073152]] w fun e w' => e = .returned (.tuple #[.int .i64 1, .bool true, .int .i64 0]) ∧ Below w.heap.size w w' := by
  have hst : ∀ (p : Addr) (n : Nat) (m : Mode) (w : World), (store p (.float .f64 n) m).run Tryd.prog w = stored Tryd.prog w p (.float .f64 n) m := fun p n m w => run_store _ w p _ m rfl
  have w2 : wd 4611686018427387904 = 4611686018427387904 := by decide
  have w3 : wd 4613937818241073152 = 4613937818241073152 := by decide
  have r2 : rng 4611686018427387904 := by unfold rng; omega
  have r3 : rng 4613937818241073152 := by unfold rng; omega
  have o : FloatKind.f64.format.order 4611686018427387904 0 = some .gt := by decide +kernel
  have R1 : Hid (∀ W, Calls Tryd.prog 13 #[.agg #[.int .i64 4611686018427387904, .int .i64 4613937818241073152]] W fun e w' => e = .returned (.agg #[.float .f64 4611686018427387904, .float .f64 4613937818241073152]) ∧ Below W.heap.size W w') := fun W => by
    have := spanRead 4611686018427387904 4613937818241073152 W
    unfold spn ivl at this
    rw [w2, w3] at this
    exact this
  have V1 : Hid (∀ W, Calls Tryd.prog 14 #[.agg #[.float .f64 4611686018427387904, .float .f64 4613937818241073152]] W fun e w' => e = .returned (.bool true) ∧ Below W.heap.size W w') := fun W => by
    have := ivlValid r2 r3 W
    unfold ivl at this
    rw [w2, w3, show vld 4611686018427387904 4613937818241073152 = true by decide] at this
    exact this
  have hb := bel_alloc w (.cells #[.int .i64 4611686018427387904, .int .i64 4613937818241073152] 23)
  go_enter Tryd.func17, Tryd.ntmps17
  go_wp2_with fail
  generalize w.alloc (.cells #[.int .i64 4611686018427387904, .int .i64 4613937818241073152] 23) = wx at *
  refine (R1.out _).mono ?_
  rintro _ w1 ⟨rfl, hb1⟩
  have hba := bel_alloc w1 (.cells #[.float .f64 4611686018427387904, .float .f64 4613937818241073152] 45)
  have hg := hl_last w1 (.cells #[.float .f64 4611686018427387904, .float .f64 4613937818241073152] 45) rfl
  go_wp2_with fail
  generalize w1.alloc (.cells #[.float .f64 4611686018427387904, .float .f64 4613937818241073152] 45) = w2 at *
  refine (V1.out _).mono ?_
  rintro _ w3 ⟨rfl, hb2⟩
  have hg3 := (hb2.block _ (Array.getElem?_eq_some_iff.1 hg).1).trans hg
  have c0 := blkC hg3 0 rfl
  have c1 := blkC hg3 1 rfl
  go_wp2
  refine bodyPost_ret (v := .tuple #[.int .i64 1, .bool true, .int .i64 0]) (by simp [results, Tryd.results17, go_sem]) rfl ⟨rfl, bel_trans hb (bel_trans hb1 (bel_trans hba hb2))⟩
end Go.Proofs.YtmjdlcbiaglkeaaDoor

/-
  plumblaw8's alive: it answers true; what the laws want of laid variables.
-/
namespace Go.Proofs.YtmjdlcbiaglkeaaDoor
open Go Go.RowKit Go.Proofs.YtmjdlcbiaglkeaaDoor.M
set_option linter.unusedSimpArgs false
set_option linter.unusedVariables false

set_option maxRecDepth 100000 in
theorem alive8 (w : World) (L : Lays w) : Calls Tryd.prog 6 #[] w fun e w' => e = .returned (.bool true) ∧ Below w.heap.size w w' := by
  have CA : Hid (∀ W, Lays W → Calls Tryd.prog 16 #[.agg #[.int .i64 4607182418800017408, .int .i64 4607182418800017408], .agg #[.int .i64 4607182418800017408, .int .i64 4611686018427387904]] W fun e w' => e = .returned (.tuple #[.agg #[.int .i64 4611686018427387904, .int .i64 4613937818241073152], .int .i64 0]) ∧ Below W.heap.size W w') := fun W LW => addC W LW
  have CS : Hid (∀ W, Calls Tryd.prog 17 #[.agg #[.int .i64 4611686018427387904, .int .i64 4613937818241073152]] W fun e w' => e = .returned (.tuple #[.int .i64 1, .bool true, .int .i64 0]) ∧ Below W.heap.size W w') := fun W => signC W
  go_enter Tryd.func6, Tryd.ntmps6
  go_wp2_with fail
  refine (CA.out _ L).mono ?_
  rintro _ w1 ⟨rfl, hb1⟩
  have hba := bel_alloc w1 (.cells #[.int .i64 4611686018427387904, .int .i64 4613937818241073152] 23)
  have hg := hl_last w1 (.cells #[.int .i64 4611686018427387904, .int .i64 4613937818241073152] 23) rfl
  go_wp2_with fail
  generalize w1.alloc (.cells #[.int .i64 4611686018427387904, .int .i64 4613937818241073152] 23) = w2 at *
  refine (CS.out _).mono ?_
  rintro _ w3 ⟨rfl, hb2⟩
  have hg3 := (hb2.block _ (Array.getElem?_eq_some_iff.1 hg).1).trans hg
  have c0 := blkC hg3 0 rfl
  have c1 := blkC hg3 1 rfl
  go_wp2
  go_ret
  exact ⟨rfl, bel_trans hb1 (bel_trans hba hb2)⟩
end Go.Proofs.YtmjdlcbiaglkeaaDoor

/-
  Less of package bits by a contract.
-/
namespace Go.Proofs.YtmjdlcbiaglkeaaDoor
open Go Go.RowKit Go.Proofs.YtmjdlcbiaglkeaaDoor.M
set_option linter.unusedSimpArgs false
set_option linter.unusedVariables false

theorem bitsLess1 (a b : Int) (w : World) (ha : rng a) (hb : rng b) :
    Calls Tryd.prog 10 #[.int .i64 a, .int .i64 b] w fun e w' => e = .returned (.bool (less a b)) ∧ w' = w := by
  have k := less_order ha hb
  go_enter Tryd.func10, Tryd.ntmps10
  go_wp2_with (go_at_call 21; refine (bitsFloat _ _).mono ?_; rintro e w1 ⟨rfl, rfl⟩)
  go_ret
  exact ⟨rfl, rfl⟩
end Go.Proofs.YtmjdlcbiaglkeaaDoor
