/-
  Parts of the proof, one behind another.
-/
import Derived.Test.YtelnilmjhdneoaaGreatDoorPart9
import Derived.Test.YtelnilmjhdneoaaGreatDoorPart8
import Derived.ScopeJumps
import Derived.Test.YtelnilmjhdneoaaGreatDoorPart7
/-
  plumblaw10's alive: orient.Sign at constants.
-/
namespace Go.Proofs.YtelnilmjhdneoaaGreatDoor
open Go Go.RowKit Go.Proofs.YtelnilmjhdneoaaGreatDoor.M
set_option linter.unusedSimpArgs false
set_option linter.unusedVariables false

theorem o_fl0 (W : World) : Calls Tryz.prog 29 #[.int .i64 0] W fun e w' => e = .returned (.float .f64 0) ∧ w' = W := by
  have := bitsFloat 0 W
  rwa [show wd 0 = 0 by decide] at this
theorem o_fl1 (W : World) : Calls Tryz.prog 29 #[.int .i64 4607182418800017408] W fun e w' => e = .returned (.float .f64 4607182418800017408) ∧ w' = W := by
  have := bitsFloat 4607182418800017408 W
  rwa [show wd 4607182418800017408 = 4607182418800017408 by decide] at this
theorem o_abs0 (W : World) : Calls Tryz.prog 30 #[.float .f64 9223372036854775808] W fun e w' => e = .returned (.float .f64 0) ∧ w' = W := by
  have := mathAbs (b := -9223372036854775808) (by unfold rng; omega) W
  rw [show wd (-9223372036854775808) = 9223372036854775808 by decide, show rg (-9223372036854775808) = 0 by decide, show wd 0 = 0 by decide] at this
  exact this
theorem o_abs1 (W : World) : Calls Tryz.prog 30 #[.float .f64 13830554455654793216] W fun e w' => e = .returned (.float .f64 4607182418800017408) ∧ w' = W := by
  have := mathAbs (b := -4616189618054758400) (by unfold rng; omega) W
  rw [show wd (-4616189618054758400) = 13830554455654793216 by decide, show rg (-4616189618054758400) = 4607182418800017408 by decide, show wd 4607182418800017408 = 4607182418800017408 by decide] at this
  exact this
theorem o_abs2 (W : World) : Calls Tryz.prog 30 #[.float .f64 4607182418800017408] W fun e w' => e = .returned (.float .f64 4607182418800017408) ∧ w' = W := by
  have := mathAbs (b := 4607182418800017408) (by unfold rng; omega) W
  rw [show wd 4607182418800017408 = 4607182418800017408 by decide, show rg 4607182418800017408 = 4607182418800017408 by decide, show wd 4607182418800017408 = 4607182418800017408 by decide] at this
  exact this
theorem o_nan (x : Nat) (o : FloatKind.f64.format.order x x = some .eq) (W : World) : Calls Tryz.prog 67 #[.float .f64 x] W fun e w' => e = .returned (.bool false) ∧ w' = W := by
  go_enter Tryz.func67, Tryz.ntmps67
  go_wp2
  go_ret
  exact ⟨b_ret_bool (by simp [o]), rfl⟩
theorem o_sign1 (W : World) : Calls Tryz.prog 36 #[.float .f64 4607182418800017408, .float .f64 0] W fun e w' => e = .returned (.int .i64 1) ∧ w' = W := by
  have o : FloatKind.f64.format.order 4607182418800017408 0 = some .gt := by decide +kernel
  have C1 := fun W => o_nan 4607182418800017408 (by decide +kernel) W
  have C0 := fun W => o_nan 0 (by decide +kernel) W
  go_enter Tryz.func36, Tryz.ntmps36
  go_wp2_with fail
  refine (C1 _).mono ?_
  rintro _ _ ⟨rfl, rfl⟩
  go_wp2_with fail
  refine (C0 _).mono ?_
  rintro _ _ ⟨rfl, rfl⟩
  go_wp2
  go_ret
  exact ⟨rfl, rfl⟩
/-- What holds at the label: what decided, and its stage. -/
def oJ (s : Nat) (V S : Value) (a' : Act) : Prop := ∃ u : Nat → Value, a' = { tmps := #[u 0, u 1, u 2, u 3, u 4, u 5, .pointer (some ⟨s + 1 + 1 + 1, 0, none⟩), u 7, u 8, u 9, u 10, u 11, u 12, u 13, u 14, u 15, u 16, u 17, V, S, u 20, u 21, u 22, u 23, u 24, u 25, u 26, u 27, u 28, u 29, u 30, u 31, u 32, u 33, u 34, u 35, u 36, u 37, u 38, u 39, u 40, u 41, u 42, u 43, u 44, u 45, u 46, u 47, u 48, u 49, u 50, u 51, u 52, u 53, u 54, u 55, u 56, u 57, u 58, u 59, u 60, u 61, u 62, u 63, u 64, u 65, u 66, u 67, u 68, u 69, u 70, u 71, u 72, u 73, u 74, u 75, u 76, u 77, u 78, u 79, u 80, u 81, u 82, u 83, u 84, u 85, u 86, u 87, u 88, u 89, u 90, u 91, u 92, u 93, u 94, u 95, u 96, u 97, u 98, u 99, u 100, u 101], defers := [] }
theorem oJ_of {s : Nat} {V S : Value} (t : Array Value) (h : #[t.getD 0 undef, t.getD 1 undef, t.getD 2 undef, t.getD 3 undef, t.getD 4 undef, t.getD 5 undef, .pointer (some ⟨s + 1 + 1 + 1, 0, none⟩), t.getD 7 undef, t.getD 8 undef, t.getD 9 undef, t.getD 10 undef, t.getD 11 undef, t.getD 12 undef, t.getD 13 undef, t.getD 14 undef, t.getD 15 undef, t.getD 16 undef, t.getD 17 undef, V, S, t.getD 20 undef, t.getD 21 undef, t.getD 22 undef, t.getD 23 undef, t.getD 24 undef, t.getD 25 undef, t.getD 26 undef, t.getD 27 undef, t.getD 28 undef, t.getD 29 undef, t.getD 30 undef, t.getD 31 undef, t.getD 32 undef, t.getD 33 undef, t.getD 34 undef, t.getD 35 undef, t.getD 36 undef, t.getD 37 undef, t.getD 38 undef, t.getD 39 undef, t.getD 40 undef, t.getD 41 undef, t.getD 42 undef, t.getD 43 undef, t.getD 44 undef, t.getD 45 undef, t.getD 46 undef, t.getD 47 undef, t.getD 48 undef, t.getD 49 undef, t.getD 50 undef, t.getD 51 undef, t.getD 52 undef, t.getD 53 undef, t.getD 54 undef, t.getD 55 undef, t.getD 56 undef, t.getD 57 undef, t.getD 58 undef, t.getD 59 undef, t.getD 60 undef, t.getD 61 undef, t.getD 62 undef, t.getD 63 undef, t.getD 64 undef, t.getD 65 undef, t.getD 66 undef, t.getD 67 undef, t.getD 68 undef, t.getD 69 undef, t.getD 70 undef, t.getD 71 undef, t.getD 72 undef, t.getD 73 undef, t.getD 74 undef, t.getD 75 undef, t.getD 76 undef, t.getD 77 undef, t.getD 78 undef, t.getD 79 undef, t.getD 80 undef, t.getD 81 undef, t.getD 82 undef, t.getD 83 undef, t.getD 84 undef, t.getD 85 undef, t.getD 86 undef, t.getD 87 undef, t.getD 88 undef, t.getD 89 undef, t.getD 90 undef, t.getD 91 undef, t.getD 92 undef, t.getD 93 undef, t.getD 94 undef, t.getD 95 undef, t.getD 96 undef, t.getD 97 undef, t.getD 98 undef, t.getD 99 undef, t.getD 100 undef, t.getD 101 undef] = t) : oJ s V S { tmps := t, defers := [] } := ⟨fun k => t.getD k undef, by rw [h]⟩
set_option maxRecDepth 100000 in
set_option maxHeartbeats 1000000 in
theorem o_tameC (w : World) :
    Calls Tryz.prog 18 #[.agg #[.int .i64 0, .int .i64 0], .agg #[.int .i64 4607182418800017408, .int .i64 0], .agg #[.int .i64 0, .int .i64 4607182418800017408]] w fun e w' => e = .returned (.agg #[.int .i64 1, .int .i64 1]) ∧ Below w.heap.size w w' := by
  have hcv := cv64
  have o : FloatKind.f64.format.order 4607182418800017408 4375247037990436868 = some .gt := by decide +kernel
  have h1 : ∀ w : World, (binOp .sub 47 (.float .f64 0) (.float .f64 0)).run Tryz.prog w = .ok (.float .f64 0) w := fun w => by kernel_rfl
  have h2 : ∀ w : World, (binOp .sub 47 (.float .f64 0) (.float .f64 4607182418800017408)).run Tryz.prog w = .ok (.float .f64 13830554455654793216) w := fun w => by kernel_rfl
  have h3 : ∀ w : World, (binOp .mul 47 (.float .f64 0) (.float .f64 13830554455654793216)).run Tryz.prog w = .ok (.float .f64 9223372036854775808) w := fun w => by kernel_rfl
  have h4 : ∀ w : World, (binOp .sub 47 (.float .f64 4607182418800017408) (.float .f64 0)).run Tryz.prog w = .ok (.float .f64 4607182418800017408) w := fun w => by kernel_rfl
  have h5 : ∀ w : World, (binOp .mul 47 (.float .f64 13830554455654793216) (.float .f64 4607182418800017408)).run Tryz.prog w = .ok (.float .f64 13830554455654793216) w := fun w => by kernel_rfl
  have h6 : ∀ w : World, (binOp .add 47 (.float .f64 0) (.float .f64 4607182418800017408)).run Tryz.prog w = .ok (.float .f64 4607182418800017408) w := fun w => by kernel_rfl
  have h7 : ∀ w : World, (binOp .sub 47 (.float .f64 9223372036854775808) (.float .f64 13830554455654793216)).run Tryz.prog w = .ok (.float .f64 4607182418800017408) w := fun w => by kernel_rfl
  have h8 : ∀ w : World, (binOp .mul 47 (.float .f64 4375247037990436868) (.float .f64 4607182418800017408)).run Tryz.prog w = .ok (.float .f64 4375247037990436868) w := fun w => by kernel_rfl
  go_enter Tryz.func18, Tryz.ntmps18
  have a_k := heap_past (.cells #[.float .f64 0, .float .f64 0, .float .f64 0, .float .f64 0, .float .f64 0, .float .f64 0, .float .f64 0, .float .f64 0] 51) (h4_0 w (.cells #[.int .i64 0, .int .i64 0] 23) (.cells #[.int .i64 4607182418800017408, .int .i64 0] 23) (.cells #[.int .i64 0, .int .i64 4607182418800017408] 23) (.cells #[.int .i64 0, .int .i64 0] 36))
  have b_k := heap_past (.cells #[.float .f64 0, .float .f64 0, .float .f64 0, .float .f64 0, .float .f64 0, .float .f64 0, .float .f64 0, .float .f64 0] 51) (h4_1 w (.cells #[.int .i64 0, .int .i64 0] 23) (.cells #[.int .i64 4607182418800017408, .int .i64 0] 23) (.cells #[.int .i64 0, .int .i64 4607182418800017408] 23) (.cells #[.int .i64 0, .int .i64 0] 36))
  have c_k := heap_past (.cells #[.float .f64 0, .float .f64 0, .float .f64 0, .float .f64 0, .float .f64 0, .float .f64 0, .float .f64 0, .float .f64 0] 51) (h4_2 w (.cells #[.int .i64 0, .int .i64 0] 23) (.cells #[.int .i64 4607182418800017408, .int .i64 0] 23) (.cells #[.int .i64 0, .int .i64 4607182418800017408] 23) (.cells #[.int .i64 0, .int .i64 0] 36))
  have r_k := heap_past (.cells #[.float .f64 0, .float .f64 0, .float .f64 0, .float .f64 0, .float .f64 0, .float .f64 0, .float .f64 0, .float .f64 0] 51) (h4_3 w (.cells #[.int .i64 0, .int .i64 0] 23) (.cells #[.int .i64 4607182418800017408, .int .i64 0] 23) (.cells #[.int .i64 0, .int .i64 4607182418800017408] 23) (.cells #[.int .i64 0, .int .i64 0] 36))
  have hb0 := bel_trans (bel_a4 w (.cells #[.int .i64 0, .int .i64 0] 23) (.cells #[.int .i64 4607182418800017408, .int .i64 0] 23) (.cells #[.int .i64 0, .int .i64 4607182418800017408] 23) (.cells #[.int .i64 0, .int .i64 0] 36)) (bel_alloc _ (.cells #[.float .f64 0, .float .f64 0, .float .f64 0, .float .f64 0, .float .f64 0, .float .f64 0, .float .f64 0, .float .f64 0] 51))
  go_wp2
  refine wp_scope_jumps 0 (fun a' w' => Below w.heap.size w w' ∧ w'.heap[w.heap.size + 3]? = some (.cells #[.int .i64 0, .int .i64 0] 36 (0, 0)) ∧ oJ w.heap.size (.float .f64 4607182418800017408) (.int .i64 1) a') (fun _ _ => 0) rfl ?_ ?_
  · go_wp2_with fail
    generalize ((((w.alloc (.cells #[.int .i64 0, .int .i64 0] 23)).alloc (.cells #[.int .i64 4607182418800017408, .int .i64 0] 23)).alloc (.cells #[.int .i64 0, .int .i64 4607182418800017408] 23)).alloc (.cells #[.int .i64 0, .int .i64 0] 36)).alloc (.cells #[.float .f64 0, .float .f64 0, .float .f64 0, .float .f64 0, .float .f64 0, .float .f64 0, .float .f64 0, .float .f64 0] 51) = x0 at a_k b_k c_k r_k hb0 ⊢
    have K0 : x0.cell? ⟨w.heap.size, 0, none⟩ = some (.int .i64 0) ∧ x0.cell? ⟨w.heap.size, 1, none⟩ = some (.int .i64 0) ∧ x0.cell? ⟨w.heap.size + 1, 0, none⟩ = some (.int .i64 4607182418800017408) ∧ x0.cell? ⟨w.heap.size + 1, 1, none⟩ = some (.int .i64 0) ∧ x0.cell? ⟨w.heap.size + 2, 0, none⟩ = some (.int .i64 0) ∧ x0.cell? ⟨w.heap.size + 2, 1, none⟩ = some (.int .i64 4607182418800017408) := ⟨blkC a_k 0 rfl, blkC a_k 1 rfl, blkC b_k 0 rfl, blkC b_k 1 rfl, blkC c_k 0 rfl, blkC c_k 1 rfl⟩
    clear a_k b_k c_k
    go_region_held3 (fun W => W.cell? ⟨w.heap.size, 0, none⟩ = some (.int .i64 0) ∧ W.cell? ⟨w.heap.size, 1, none⟩ = some (.int .i64 0) ∧ W.cell? ⟨w.heap.size + 1, 0, none⟩ = some (.int .i64 4607182418800017408) ∧ W.cell? ⟨w.heap.size + 1, 1, none⟩ = some (.int .i64 0) ∧ W.cell? ⟨w.heap.size + 2, 0, none⟩ = some (.int .i64 0) ∧ W.cell? ⟨w.heap.size + 2, 1, none⟩ = some (.int .i64 4607182418800017408))
      (first | assumption | exact K0)
      (first
        | (go_at_call 29; first | (refine (o_fl0 _).mono ?_; rintro _ _ ⟨rfl, rfl⟩) | (refine (o_fl1 _).mono ?_; rintro _ _ ⟨rfl, rfl⟩)))
    clear K0
    go_wp2_with fail
    refine (o_abs0 _).mono ?_
    rintro _ _ ⟨rfl, rfl⟩
    go_wp2_with fail
    refine (o_abs1 _).mono ?_
    rintro _ _ ⟨rfl, rfl⟩
    go_wp2_with fail
    refine (o_abs2 _).mono ?_
    rintro _ _ ⟨rfl, rfl⟩
    go_wp2_with fail
    go_step3
    simp only [Exit.then, Exit.jump]
    exact ⟨rfl, hb0.drew, r_k, oJ_of _ (by kernel_rfl)⟩
  · rintro a' w' ⟨hb, hr, u, rfl⟩
    go_wp2_with fail
    refine (o_sign1 _).mono ?_
    rintro _ _ ⟨rfl, rfl⟩
    have k0 := blkC hr 0 rfl
    have k1 := blkC hr 1 rfl
    have z0 := blkF hr 0
    have z1 := blkF hr 1
    have q := heap_set (heap_set hr 0 (.int .i64 1)) 1 (.int .i64 1)
    have e0 := blkC q 0 rfl
    have e1 := blkC q 1 rfl
    go_wp2
    simp only [Exit.jump]
    refine bodyPost_ret (v := .agg #[.int .i64 1, .int .i64 1]) (by simp [results, Tryz.results18, go_sem, e0, e1]) rfl ⟨rfl, (hb.setCell (p := ⟨w.heap.size + 3, 0, none⟩) (by show _ ≤ _ + 3; omega) _).setCell (p := ⟨w.heap.size + 3, 1, none⟩) (by show _ ≤ _ + 3; omega) _⟩
theorem o_tame {x y : Int} (hx : rng x) (hy : rng y) (w : World) :
    Calls Tryz.prog 17 #[.agg #[.int .i64 x, .int .i64 y]] w fun e w' => e = .returned (.bool (tame x && tame y)) ∧ Below w.heap.size w w' := by
  cases h1 : tame x <;> cases h2 : tame y
  all_goals
    go_enter Tryz.func17, Tryz.ntmps17
    go_wp2_with fail
    refine (pointTame hx _).mono ?_
    rintro _ _ ⟨rfl, rfl⟩
    go_wp2_with (go_at_call 28; refine (pointTame hy _).mono ?_; rintro _ _ ⟨rfl, rfl⟩)
    go_ret
    exact ⟨b_ret_bool (by simp [h1, h2]), bel_alloc _ _⟩
set_option maxRecDepth 100000 in
set_option maxHeartbeats 1000000 in
theorem o_signC (w : World) :
    Calls Tryz.prog 10 #[.agg #[.int .i64 0, .int .i64 0], .agg #[.int .i64 4607182418800017408, .int .i64 0], .agg #[.int .i64 0, .int .i64 4607182418800017408]] w fun e w' => e = .returned (.tuple #[.agg #[.int .i64 1, .int .i64 1], .int .i64 0]) ∧ Below w.heap.size w w' := by
  have r0 : rng 0 := by unfold rng; omega
  have r1 : rng 4607182418800017408 := by unfold rng; omega
  have C1 : Hid (∀ W, Calls Tryz.prog 17 #[.agg #[.int .i64 0, .int .i64 0]] W fun e w' => e = .returned (.bool true) ∧ Below W.heap.size W w') := fun W => o_tame r0 r0 W
  have C2 : Hid (∀ W, Calls Tryz.prog 17 #[.agg #[.int .i64 4607182418800017408, .int .i64 0]] W fun e w' => e = .returned (.bool true) ∧ Below W.heap.size W w') := fun W => o_tame r1 r0 W
  have C3 : Hid (∀ W, Calls Tryz.prog 17 #[.agg #[.int .i64 0, .int .i64 4607182418800017408]] W fun e w' => e = .returned (.bool true) ∧ Below W.heap.size W w') := fun W => o_tame r0 r1 W
  have CV := fun W => o_tameC W
  have a_k := h4_0 w (.cells #[.int .i64 0, .int .i64 0] 23) (.cells #[.int .i64 4607182418800017408, .int .i64 0] 23) (.cells #[.int .i64 0, .int .i64 4607182418800017408] 23) (.cells #[.int .i64 0, .int .i64 0] 36)
  have b_k := h4_1 w (.cells #[.int .i64 0, .int .i64 0] 23) (.cells #[.int .i64 4607182418800017408, .int .i64 0] 23) (.cells #[.int .i64 0, .int .i64 4607182418800017408] 23) (.cells #[.int .i64 0, .int .i64 0] 36)
  have c_k := h4_2 w (.cells #[.int .i64 0, .int .i64 0] 23) (.cells #[.int .i64 4607182418800017408, .int .i64 0] 23) (.cells #[.int .i64 0, .int .i64 4607182418800017408] 23) (.cells #[.int .i64 0, .int .i64 0] 36)
  have r_k := h4_3 w (.cells #[.int .i64 0, .int .i64 0] 23) (.cells #[.int .i64 4607182418800017408, .int .i64 0] 23) (.cells #[.int .i64 0, .int .i64 4607182418800017408] 23) (.cells #[.int .i64 0, .int .i64 0] 36)
  have hb0 := bel_a4 w (.cells #[.int .i64 0, .int .i64 0] 23) (.cells #[.int .i64 4607182418800017408, .int .i64 0] 23) (.cells #[.int .i64 0, .int .i64 4607182418800017408] 23) (.cells #[.int .i64 0, .int .i64 0] 36)
  go_enter Tryz.func10, Tryz.ntmps10
  go_wp2_with fail
  generalize (((w.alloc (.cells #[.int .i64 0, .int .i64 0] 23)).alloc (.cells #[.int .i64 4607182418800017408, .int .i64 0] 23)).alloc (.cells #[.int .i64 0, .int .i64 4607182418800017408] 23)).alloc (.cells #[.int .i64 0, .int .i64 0] 36) = x0 at a_k b_k c_k r_k hb0 ⊢
  refine (C1.out _).mono ?_
  rintro _ y1 ⟨rfl, hw1⟩
  have a_k := (hw1.block _ (Array.getElem?_eq_some_iff.1 a_k).1).trans a_k
  have b_k := (hw1.block _ (Array.getElem?_eq_some_iff.1 b_k).1).trans b_k
  have c_k := (hw1.block _ (Array.getElem?_eq_some_iff.1 c_k).1).trans c_k
  have r_k := (hw1.block _ (Array.getElem?_eq_some_iff.1 r_k).1).trans r_k
  have f0 := blkC b_k 0 rfl
  have f1 := blkC b_k 1 rfl
  go_wp2_with fail
  refine (C2.out _).mono ?_
  rintro _ y2 ⟨rfl, hw2⟩
  have a_k := (hw2.block _ (Array.getElem?_eq_some_iff.1 a_k).1).trans a_k
  have b_k := (hw2.block _ (Array.getElem?_eq_some_iff.1 b_k).1).trans b_k
  have c_k := (hw2.block _ (Array.getElem?_eq_some_iff.1 c_k).1).trans c_k
  have r_k := (hw2.block _ (Array.getElem?_eq_some_iff.1 r_k).1).trans r_k
  have f0 := blkC c_k 0 rfl
  have f1 := blkC c_k 1 rfl
  go_wp2_with fail
  refine (C3.out _).mono ?_
  rintro _ y3 ⟨rfl, hw3⟩
  have a_k := (hw3.block _ (Array.getElem?_eq_some_iff.1 a_k).1).trans a_k
  have b_k := (hw3.block _ (Array.getElem?_eq_some_iff.1 b_k).1).trans b_k
  have c_k := (hw3.block _ (Array.getElem?_eq_some_iff.1 c_k).1).trans c_k
  have r_k := (hw3.block _ (Array.getElem?_eq_some_iff.1 r_k).1).trans r_k
  have f0 := blkC a_k 0 rfl
  have f1 := blkC a_k 1 rfl
  have f2 := blkC b_k 0 rfl
  have f3 := blkC b_k 1 rfl
  have f4 := blkC c_k 0 rfl
  have f5 := blkC c_k 1 rfl
  go_wp2_with fail
  refine (CV _).mono ?_
  rintro _ y4 ⟨rfl, hw4⟩
  have r_k := (hw4.block _ (Array.getElem?_eq_some_iff.1 r_k).1).trans r_k
  have k0 := blkC r_k 0 rfl
  have k1 := blkC r_k 1 rfl
  have z0 := blkF r_k 0
  have z1 := blkF r_k 1
  have q := heap_set (heap_set r_k 0 (.int .i64 1)) 1 (.int .i64 1)
  have e0 := blkC q 0 rfl
  have e1 := blkC q 1 rfl
  have hb := bel_trans hb0 (bel_trans hw1 (bel_trans hw2 (bel_trans hw3 hw4)))
  go_wp2
  refine bodyPost_ret (v := .tuple #[.agg #[.int .i64 1, .int .i64 1], .int .i64 0]) (by simp [results, Tryz.results10, go_sem, e0, e1]) rfl ⟨rfl, (hb.setCell (p := ⟨w.heap.size + 3, 0, none⟩) (by show _ ≤ _ + 3; omega) _).setCell (p := ⟨w.heap.size + 3, 1, none⟩) (by show _ ≤ _ + 3; omega) _⟩
theorem onum (x : Int) (w : World) :
    Calls Tryz.prog 7 #[.int .i64 x] w fun e w' => e = .returned (.int .i64 x) ∧ w' = w := by
  go_enter Tryz.func7, Tryz.ntmps7
  go_wp2
  go_ret
  exact ⟨b_ret_int (by first | rfl | omega), rfl⟩
set_option maxRecDepth 100000 in
theorem alive10 (w : World) : Calls Tryz.prog 4 #[] w fun e w' => e = .returned (.bool true) ∧ Below w.heap.size w w' := by
  have CV := fun W => o_signC W
  go_enter Tryz.func4, Tryz.ntmps4
  go_wp2_with fail
  refine (CV _).mono ?_
  rintro _ w1 ⟨rfl, hb1⟩
  have hba := bel_alloc w1 (.cells #[.int .i64 1, .int .i64 1] 36)
  have hg := heap_a1 w1 (.cells #[.int .i64 1, .int .i64 1] 36)
  have c0 := blkC hg 0 rfl
  have c1 := blkC hg 1 rfl
  go_wp2_with (go_at_call 7; refine (onum _ _).mono ?_; rintro _ _ ⟨rfl, rfl⟩)
  all_goals go_ret
  all_goals exact ⟨rfl, by first | exact bel_trans hb1 hba | exact (bel_trans hb1 hba).drew⟩
end Go.Proofs.YtelnilmjhdneoaaGreatDoor

/-
  What a row gives: a point that came in, as the walks want it.
-/
namespace Go.Proofs.YtelnilmjhdneoaaGreatDoor
open Go Go.ChangeShapes Go.WideShapes Go.ChangeAt Go.RowKit Go.Proofs.YtelnilmjhdneoaaGreatDoor.M
set_option linter.unusedSimpArgs false
set_option linter.unusedVariables false

theorem q_cellsPoint : Tryz.prog.cellsOf 23 = 2 := by kernel_rfl
theorem q_cellsInt : Tryz.prog.cellsOf 3 = 1 := by kernel_rfl
set_option maxRecDepth 100000 in
/-- A point's cells, off its reading. -/
theorem point_cells {H : Type} {enc : TypeId × Value → H} {W : World} {n : Nat} {cs : List Value} {x : DataW H × List MemPlace}
    (h : DataW.trod enc Tryz.prog W 0 (fun _ => true) true n 23 cs = some x) :
    ∃ a b : Int, cs = [.int .i64 a, .int .i64 b] ∧ rng a ∧ rng b := by
  obtain ⟨xs, m, _, rfl, hl, hlen, hf⟩ := DataW.trod_struct Tryz.underlying23 h
  rw [q_cellsPoint] at hl
  match cs, hl with
  | [v0, v1], _ =>
    match xs, hlen with
    | [y0, y1], _ =>
      have f0 : DataW.trod enc Tryz.prog W 0 (fun _ => true) true m 3 (([v0, v1].drop 0).take (Tryz.prog.cellsOf 3)) = some y0 := hf 0 _ rfl
      have f1 : DataW.trod enc Tryz.prog W 0 (fun _ => true) true m 3 (([v0, v1].drop 1).take (Tryz.prog.cellsOf 3)) = some y1 := hf 1 _ rfl
      rw [q_cellsInt] at f0 f1
      simp only [List.drop_zero, List.drop_succ_cons, List.take_succ_cons, List.take_zero] at f0 f1
      obtain ⟨k0, e0, _, w0⟩ := DataW.trod_int Tryz.underlying3 f0
      obtain ⟨k1, e1, _, w1⟩ := DataW.trod_int Tryz.underlying3 f1
      simp at e0 e1
      subst e0 e1
      exact ⟨k0, k1, rfl, rng_of w0, rng_of w1⟩
set_option maxRecDepth 100000 in
theorem point_of {H : Type} {enc : TypeId × Value → H} {W : World} {base : Nat} {v : Value} {d : DataW H} {p : List MemPlace} (hv : Value.okWide Tryz.prog W .any base 23 v)
    (h : DataW.Trod enc Tryz.prog W 0 (fun _ => true) true 23 v d p) : ∃ a b : Int, v = .agg #[.int .i64 a, .int .i64 b] ∧ rng a ∧ rng b := by
  obtain ⟨cs, rfl, hc⟩ := okWide_struct Tryz.underlying23 hv
  obtain ⟨fuel, hf⟩ := h
  obtain ⟨a, b, hr, h1, h2⟩ := point_cells hf
  refine ⟨a, b, ?_, h1, h2⟩
  congr 1
  have : cs.toList = [.int .i64 a, .int .i64 b] := by simpa [Value.cells] using hr
  exact Array.toList_inj.1 this
end Go.Proofs.YtelnilmjhdneoaaGreatDoor
