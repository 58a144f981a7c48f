/-
  math.Nextafter, to the infinite ones; package span: beside, by its contract.
-/
import Derived.Test.YtcpjdgfnblkfpaaGreatDoorSPt2
namespace Go.Proofs.YtcpjdgfnblkfpaaGreatDoor
open Go Go.RowKit Go.Proofs.YtcpjdgfnblkfpaaGreatDoor.M
set_option linter.unusedSimpArgs false
set_option linter.unusedVariables false

theorem isNaN_no {p : Int} (h : nn p) (w : World) :
    Calls Tryz.prog 148 #[.float .f64 (wd p)] w fun e w' => e = .returned (.bool false) ∧ w' = w := by
  have n0 := no64 h.1
  rw [decide_eq_false h.2] at n0
  go_enter Tryz.func148, Tryz.ntmps148
  go_wp2
  go_ret
  exact ⟨rfl, rfl⟩
theorem infUp (w : World) :
    Calls Tryz.prog 143 #[.int .i64 1] w fun e w' => e = .returned (.float .f64 9218868437227405312) ∧ w' = w := by
  have hd := run_from64
  go_enter Tryz.func143, Tryz.ntmps143
  go_wp2
  go_ret
  exact ⟨rfl, rfl⟩
theorem infDown (w : World) :
    Calls Tryz.prog 143 #[.int .i64 (-1)] w fun e w' => e = .returned (.float .f64 18442240474082181120) ∧ w' = w := by
  have hd := run_from64
  go_enter Tryz.func143, Tryz.ntmps143
  go_wp2
  go_ret
  exact ⟨rfl, rfl⟩
theorem copyUp (w : World) :
    Calls Tryz.prog 150 #[.float .f64 1, .float .f64 9218868437227405312] w fun e w' => e = .returned (.float .f64 1) ∧ w' = w := by
  have hd := run_from64
  have hb := run_bits64
  have e1 : bits .andNot .u64 1 9223372036854775808 = 1 := by decide
  have e2 : bits .and .u64 9218868437227405312 9223372036854775808 = 0 := by decide
  have e3 : bits .or .u64 1 0 = 1 := by decide
  go_enter Tryz.func150, Tryz.ntmps150
  go_wp2
  go_ret
  exact ⟨rfl, rfl⟩
theorem copyDown (w : World) :
    Calls Tryz.prog 150 #[.float .f64 1, .float .f64 18442240474082181120] w fun e w' => e = .returned (.float .f64 9223372036854775809) ∧ w' = w := by
  have hd := run_from64
  have hb := run_bits64
  have e1 : bits .andNot .u64 1 9223372036854775808 = 1 := by decide
  have e2 : bits .and .u64 18442240474082181120 9223372036854775808 = 9223372036854775808 := by decide
  have e3 : bits .or .u64 1 9223372036854775808 = 9223372036854775809 := by decide
  go_enter Tryz.func150, Tryz.ntmps150
  go_wp2
  go_ret
  exact ⟨rfl, rfl⟩
set_option maxRecDepth 100000 in
theorem nextUp {p : Int} (h : nn p) (w : World) :
    Calls Tryz.prog 142 #[.float .f64 (wd p), .float .f64 9218868437227405312] w fun e w' => e = .returned (.float .f64 (wd (next p))) ∧ w' = w := by
  have hd := run_from64
  have hbt := run_bits64
  have ey : wd 9218868437227405312 = 9218868437227405312 := by decide
  have ny : nn 9218868437227405312 := ⟨by unfold rng; omega, by decide⟩
  have ky : key 9218868437227405312 = 9218868437227405312 := by decide
  have n0 : nn 0 := nn0.1
  have k0 : key 0 = 0 := by decide
  have e0 : wd 0 = 0 := by decide
  have hr := h.1
  unfold rng at hr
  have CX : Hid (∀ W, Calls Tryz.prog 148 #[.float .f64 (wd p)] W fun e w' => e = .returned (.bool false) ∧ w' = W) := fun W => isNaN_no h W
  have CY : Hid (∀ W, Calls Tryz.prog 148 #[.float .f64 9218868437227405312] W fun e w' => e = .returned (.bool false) ∧ w' = W) := fun W => by rw [← ey]; exact isNaN_no ny W
  have hw := q_wdlt p
  by_cases a1 : p = 9218868437227405312
  · subst a1
    have o1 := q_eq h.1 ny.1 h.2 ny.2 rfl
    rw [ey] at o1 CX ⊢
    clear hr
    go_enter Tryz.func142, Tryz.ntmps142
    go_wp2_with fail
    refine (CX.out _).mono ?_
    rintro _ _ ⟨rfl, rfl⟩
    go_wp2_with fail
    refine (CY.out _).mono ?_
    rintro _ _ ⟨rfl, rfl⟩
    go_wp2
    go_ret
    exact ⟨ret_float (by first | rfl | (rw [next_inf, ey]) | (rw [next_inf]; exact ey.symm)), rfl⟩
  have kp : key p < 9218868437227405312 := by
    have h4 := cls4_not h.2
    unfold key fld frc at *
    split <;> omega
  have o1 := q_lt h.1 ny.1 h.2 ny.2 (by rw [ky]; exact kp)
  have o2 := q_gt ny.1 h.1 ny.2 h.2 (by rw [ky]; exact kp)
  rw [ey] at o1 o2
  rcases Int.lt_trichotomy (key p) 0 with g | g | g
  · have o3 := q_lt h.1 n0.1 h.2 n0.2 (by rw [k0]; exact g)
    rw [e0] at o3
    have hp : p < 0 ∧ p ≠ -9223372036854775808 := by unfold key at g; split at g <;> omega
    have hn : next p = p - 1 := by unfold next; rw [if_neg h.2, if_neg a1, if_neg hp.2, if_pos hp.1]
    have hv : wd (p - 1) = wd p - 1 ∧ 1 ≤ wd p := by unfold wd; omega
    clear hr
    go_enter Tryz.func142, Tryz.ntmps142
    go_wp2_with fail
    refine (CX.out _).mono ?_
    rintro _ _ ⟨rfl, rfl⟩
    go_wp2_with fail
    refine (CY.out _).mono ?_
    rintro _ _ ⟨rfl, rfl⟩
    go_wp2
    go_ret
    exact ⟨ret_float (by rw [hn, hv.1]), rfl⟩
  · have o3 := q_eq h.1 n0.1 h.2 n0.2 (by rw [k0]; exact g)
    rw [e0] at o3
    have hp : p = 0 ∨ p = -9223372036854775808 := by unfold key at g; split at g <;> omega
    have hn : next p = 1 := by rcases hp with rfl | rfl <;> decide
    have e1 : wd 1 = 1 := by decide
    clear hr
    go_enter Tryz.func142, Tryz.ntmps142
    go_wp2_with fail
    refine (CX.out _).mono ?_
    rintro _ _ ⟨rfl, rfl⟩
    go_wp2_with fail
    refine (CY.out _).mono ?_
    rintro _ _ ⟨rfl, rfl⟩
    go_wp2_with (go_at_call 150; refine (copyUp _).mono ?_; rintro _ _ ⟨rfl, rfl⟩)
    go_ret
    exact ⟨ret_float (by rw [hn]; exact e1.symm), rfl⟩
  · have o3 := q_gt h.1 n0.1 h.2 n0.2 (by rw [k0]; exact g)
    rw [e0] at o3
    have hp : 0 < p := by unfold key at g; split at g <;> omega
    have hn : next p = p + 1 := by unfold next; rw [if_neg h.2, if_neg a1, if_neg (by omega), if_neg (by omega)]
    have hv : wd (p + 1) = wd p + 1 ∧ wd p < 9223372036854775808 := by unfold wd; unfold key at kp; split at kp <;> omega
    clear hr
    go_enter Tryz.func142, Tryz.ntmps142
    go_wp2_with fail
    refine (CX.out _).mono ?_
    rintro _ _ ⟨rfl, rfl⟩
    go_wp2_with fail
    refine (CY.out _).mono ?_
    rintro _ _ ⟨rfl, rfl⟩
    go_wp2
    go_ret
    exact ⟨ret_float (by rw [hn, hv.1]), rfl⟩
theorem prev_down {p : Int} (h : nn p) (a1 : ¬ p = -4503599627370496) : prev p = if p = 0 ∨ p = -9223372036854775808 then -9223372036854775807 else if p < 0 then p + 1 else p - 1 := by
  have hr := h.1
  have h4 := cls4_not h.2
  unfold rng at hr
  by_cases z : p = 0 ∨ p = -9223372036854775808
  · rw [if_pos z]; rcases z with rfl | rfl <;> decide
  rw [if_neg z]
  obtain ⟨n1, k1⟩ := nn_neg h
  have e1 : neg p = if p < 0 then p + 9223372036854775808 else p - 9223372036854775808 := by unfold neg; rw [if_neg h.2]
  have i1 : ¬ neg p = 9218868437227405312 := by rw [e1]; split <;> omega
  obtain ⟨_, n2, _, _⟩ := key_next n1.1 n1.2 i1
  have e2 : next (neg p) = if neg p < 0 then neg p - 1 else neg p + 1 := by unfold next; rw [if_neg n1.2, if_neg i1, if_neg (by rw [e1]; split <;> omega)]
  unfold prev
  unfold neg
  rw [if_neg (by exact n2)]
  show (if next (neg p) < 0 then next (neg p) + 9223372036854775808 else next (neg p) - 9223372036854775808) = _
  rw [e2, e1]
  unfold fld frc at h4
  repeat' split
  all_goals omega
set_option maxRecDepth 100000 in
theorem nextDown {p : Int} (h : nn p) (w : World) :
    Calls Tryz.prog 142 #[.float .f64 (wd p), .float .f64 18442240474082181120] w fun e w' => e = .returned (.float .f64 (wd (prev p))) ∧ w' = w := by
  have hd := run_from64
  have hbt := run_bits64
  have ey : wd (-4503599627370496) = 18442240474082181120 := by decide
  have ny : nn (-4503599627370496) := ⟨by unfold rng; omega, by decide⟩
  have ky : key (-4503599627370496) = -9218868437227405312 := by decide
  have n0 : nn 0 := nn0.1
  have k0 : key 0 = 0 := by decide
  have e0 : wd 0 = 0 := by decide
  have hr := h.1
  unfold rng at hr
  have CX : Hid (∀ W, Calls Tryz.prog 148 #[.float .f64 (wd p)] W fun e w' => e = .returned (.bool false) ∧ w' = W) := fun W => isNaN_no h W
  have CY : Hid (∀ W, Calls Tryz.prog 148 #[.float .f64 18442240474082181120] W fun e w' => e = .returned (.bool false) ∧ w' = W) := fun W => by rw [← ey]; exact isNaN_no ny W
  have hw := q_wdlt p
  by_cases a1 : p = -4503599627370496
  · subst a1
    have o1 := q_eq h.1 ny.1 h.2 ny.2 rfl
    rw [ey] at o1 CX ⊢
    clear hr
    go_enter Tryz.func142, Tryz.ntmps142
    go_wp2_with fail
    refine (CX.out _).mono ?_
    rintro _ _ ⟨rfl, rfl⟩
    go_wp2_with fail
    refine (CY.out _).mono ?_
    rintro _ _ ⟨rfl, rfl⟩
    go_wp2
    go_ret
    exact ⟨ret_float (by rw [show prev (-4503599627370496) = -4503599627370496 by decide]; exact ey.symm), rfl⟩
  have kp : -9218868437227405312 < key p := by
    have h4 := cls4_not h.2
    unfold key fld frc at *
    split <;> omega
  have o1 := q_gt h.1 ny.1 h.2 ny.2 (by rw [ky]; exact kp)
  have o2 := q_lt ny.1 h.1 ny.2 h.2 (by rw [ky]; exact kp)
  rw [ey] at o1 o2
  rcases Int.lt_trichotomy (key p) 0 with g | g | g
  · have o3 := q_lt h.1 n0.1 h.2 n0.2 (by rw [k0]; exact g)
    rw [e0] at o3
    have hp : p < 0 ∧ p ≠ -9223372036854775808 := by unfold key at g; split at g <;> omega
    have hn : prev p = p + 1 := by have := key_prev h.1 h.2 a1; have hq := prev_down h a1; rw [hq, if_neg (by omega), if_pos hp.1]
    have hv : wd (p + 1) = wd p + 1 ∧ wd p < 18446744073709551615 := by unfold wd; unfold key at kp; split at kp <;> omega
    clear hr
    go_enter Tryz.func142, Tryz.ntmps142
    go_wp2_with fail
    refine (CX.out _).mono ?_
    rintro _ _ ⟨rfl, rfl⟩
    go_wp2_with fail
    refine (CY.out _).mono ?_
    rintro _ _ ⟨rfl, rfl⟩
    go_wp2
    go_ret
    exact ⟨ret_float (by rw [hn, hv.1]), rfl⟩
  · have o3 := q_eq h.1 n0.1 h.2 n0.2 (by rw [k0]; exact g)
    rw [e0] at o3
    have hp : p = 0 ∨ p = -9223372036854775808 := by unfold key at g; split at g <;> omega
    have hn : prev p = -9223372036854775807 := by rcases hp with rfl | rfl <;> decide
    have e1 : wd (-9223372036854775807) = 9223372036854775809 := by decide
    clear hr
    go_enter Tryz.func142, Tryz.ntmps142
    go_wp2_with fail
    refine (CX.out _).mono ?_
    rintro _ _ ⟨rfl, rfl⟩
    go_wp2_with fail
    refine (CY.out _).mono ?_
    rintro _ _ ⟨rfl, rfl⟩
    go_wp2_with (go_at_call 150; refine (copyDown _).mono ?_; rintro _ _ ⟨rfl, rfl⟩)
    go_ret
    exact ⟨ret_float (by rw [hn]; exact e1.symm), rfl⟩
  · have o3 := q_gt h.1 n0.1 h.2 n0.2 (by rw [k0]; exact g)
    rw [e0] at o3
    have hp : 0 < p := by unfold key at g; split at g <;> omega
    have hn : prev p = p - 1 := by rw [prev_down h a1, if_neg (by omega), if_neg (by omega)]
    have hv : wd (p - 1) = wd p - 1 ∧ 1 ≤ wd p := by unfold wd; omega
    clear hr
    go_enter Tryz.func142, Tryz.ntmps142
    go_wp2_with fail
    refine (CX.out _).mono ?_
    rintro _ _ ⟨rfl, rfl⟩
    go_wp2_with fail
    refine (CY.out _).mono ?_
    rintro _ _ ⟨rfl, rfl⟩
    go_wp2
    go_ret
    exact ⟨ret_float (by rw [hn, hv.1]), rfl⟩
set_option maxRecDepth 100000 in
theorem besideDown {p : Int} (h : nn p) (l : Nat) (o : FloatKind.f64.format.order l 0 = some .lt) (w : World) :
    Calls Tryz.prog 122 #[.float .f64 (wd p), .float .f64 l] w fun e w' => e = .returned (.agg #[.float .f64 (wd (prev p)), .float .f64 (wd p)]) ∧ w' = w.alloc (.cells #[.float .f64 (wd (prev p)), .float .f64 (wd p)] 98) := by
  have hst : ∀ (p : Addr) (n : Nat) (m : Mode) (w : World), (store p (.float .f64 n) m).run Tryz.prog w = stored Tryz.prog w p (.float .f64 n) m := fun p n m w => run_store _ w p _ m rfl
  have CI : Hid (∀ W, Calls Tryz.prog 143 #[.int .i64 (-1)] W fun e w' => e = .returned (.float .f64 18442240474082181120) ∧ w' = W) := fun W => infDown W
  have CN : Hid (∀ W, Calls Tryz.prog 142 #[.float .f64 (wd p), .float .f64 18442240474082181120] W fun e w' => e = .returned (.float .f64 (wd (prev p))) ∧ w' = W) := fun W => nextDown h W
  have hg : (w.alloc (.cells #[.float .f64 (wd (prev p)), .float .f64 (wd p)] 98)).heap[w.heap.size]? = some (.cells #[.float .f64 (wd (prev p)), .float .f64 (wd p)] 98 (0, 0)) := by show (w.heap.push _)[w.heap.size]? = _; simp
  have e0 := blkC hg 0 rfl
  have e1 := blkC hg 1 rfl
  clear h
  go_enter Tryz.func122, Tryz.ntmps122
  go_wp2_with fail
  refine (CI.out _).mono ?_
  rintro _ _ ⟨rfl, rfl⟩
  go_wp2_with fail
  refine (CN.out _).mono ?_
  rintro _ _ ⟨rfl, rfl⟩
  go_wp2
  refine bodyPost_ret (v := .agg #[.float .f64 (wd (prev p)), .float .f64 (wd p)]) (by simp [results, Tryz.results122, go_sem, e0, e1]) rfl ⟨rfl, rfl⟩
set_option maxRecDepth 100000 in
theorem besideUp {p : Int} (h : nn p) (l : Nat) (o : FloatKind.f64.format.order l 0 = some .gt) (w : World) :
    Calls Tryz.prog 122 #[.float .f64 (wd p), .float .f64 l] w fun e w' => e = .returned (.agg #[.float .f64 (wd p), .float .f64 (wd (next p))]) ∧ w' = w.alloc (.cells #[.float .f64 (wd p), .float .f64 (wd (next p))] 98) := by
  have hst : ∀ (p : Addr) (n : Nat) (m : Mode) (w : World), (store p (.float .f64 n) m).run Tryz.prog w = stored Tryz.prog w p (.float .f64 n) m := fun p n m w => run_store _ w p _ m rfl
  have CI : Hid (∀ W, Calls Tryz.prog 143 #[.int .i64 1] W fun e w' => e = .returned (.float .f64 9218868437227405312) ∧ w' = W) := fun W => infUp W
  have CN : Hid (∀ W, Calls Tryz.prog 142 #[.float .f64 (wd p), .float .f64 9218868437227405312] W fun e w' => e = .returned (.float .f64 (wd (next p))) ∧ w' = W) := fun W => nextUp h W
  have hg : (w.alloc (.cells #[.float .f64 (wd p), .float .f64 (wd (next p))] 98)).heap[w.heap.size]? = some (.cells #[.float .f64 (wd p), .float .f64 (wd (next p))] 98 (0, 0)) := by show (w.heap.push _)[w.heap.size]? = _; simp
  have e0 := blkC hg 0 rfl
  have e1 := blkC hg 1 rfl
  clear h
  go_enter Tryz.func122, Tryz.ntmps122
  go_wp2_with fail
  refine (CI.out _).mono ?_
  rintro _ _ ⟨rfl, rfl⟩
  go_wp2_with fail
  refine (CN.out _).mono ?_
  rintro _ _ ⟨rfl, rfl⟩
  go_wp2
  refine bodyPost_ret (v := .agg #[.float .f64 (wd p), .float .f64 (wd (next p))]) (by simp [results, Tryz.results122, go_sem, e0, e1]) rfl ⟨rfl, rfl⟩
set_option maxRecDepth 100000 in
theorem besideSame (p l : Nat) (o : FloatKind.f64.format.order l 0 = some .eq ∨ FloatKind.f64.format.order l 0 = none) (w : World) :
    Calls Tryz.prog 122 #[.float .f64 p, .float .f64 l] w fun e w' => e = .returned (.agg #[.float .f64 p, .float .f64 p]) ∧ w' = w.alloc (.cells #[.float .f64 p, .float .f64 p] 98) := by
  have hst : ∀ (p : Addr) (n : Nat) (m : Mode) (w : World), (store p (.float .f64 n) m).run Tryz.prog w = stored Tryz.prog w p (.float .f64 n) m := fun p n m w => run_store _ w p _ m rfl
  have hg : (w.alloc (.cells #[.float .f64 p, .float .f64 p] 98)).heap[w.heap.size]? = some (.cells #[.float .f64 p, .float .f64 p] 98 (0, 0)) := by show (w.heap.push _)[w.heap.size]? = _; simp
  have e0 := blkC hg 0 rfl
  have e1 := blkC hg 1 rfl
  rcases o with o | o
  all_goals
    go_enter Tryz.func122, Tryz.ntmps122
    go_wp2
    refine bodyPost_ret (v := .agg #[.float .f64 p, .float .f64 p]) (by simp [results, Tryz.results122, go_sem, e0, e1]) rfl ⟨rfl, rfl⟩
end Go.Proofs.YtcpjdgfnblkfpaaGreatDoor
