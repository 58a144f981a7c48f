/-
  Package measure: the verdict of any stages, by its contract.
-/
import Derived.Test.YtcpjdgfnblkfpaaGreatDoorMFl
import Derived.Test.YtcpjdgfnblkfpaaGreatDoorOEx2
import Derived.Deep.RegionHeld3
namespace Go.Proofs.YtcpjdgfnblkfpaaGreatDoor
open Go Go.RowKit Go.Proofs.YtcpjdgfnblkfpaaGreatDoor.M
set_option linter.unusedSimpArgs false
set_option linter.unusedVariables false

theorem wd_nil : wd 0 = 0 := by decide
/-- The sign of a float's value. -/
def sgP (p : Int) : Int := ord (key p) 0
theorem order_self {p : Int} (hp : rng p) (h : pok p = true) : FloatKind.f64.format.order (wd p) (wd p) = some .eq := q_eq hp hp (q_fin h) (q_fin h) rfl
set_option maxRecDepth 100000 in
theorem cmpNaN {p : Int} (hp : rng p) (h : pok p = true) (w : World) :
    Calls Tryz.prog 106 #[.float .f64 (wd p)] w fun r w' => r = .returned (.bool false) ∧ w' = w := by
  have e := order_self hp h
  go_enter Tryz.func106, Tryz.ntmps106
  go_wp2
  go_ret
  exact ⟨rfl, rfl⟩
set_option maxRecDepth 100000 in
theorem cmpFloat {p : Int} (hp : rng p) (h : pok p = true) (w : World) :
    Calls Tryz.prog 72 #[.float .f64 (wd p), .float .f64 0] w fun r w' => r = .returned (.int .i64 (sgP p)) ∧ w' = w := by
  have r0 : rng 0 := by unfold rng; decide
  have p0 : pok 0 = true := by decide
  have C1 : Hid (∀ W, Calls Tryz.prog 106 #[.float .f64 (wd p)] W fun r w' => r = .returned (.bool false) ∧ w' = W) := fun W => cmpNaN hp h W
  have C2 : Hid (∀ W, Calls Tryz.prog 106 #[.float .f64 0] W fun r w' => r = .returned (.bool false) ∧ w' = W) := fun W => by
    have := cmpNaN r0 p0 W
    rw [wd_nil] at this
    exact this
  have k0 : key 0 = 0 := by decide
  have hord : (FloatKind.f64.format.order (wd p) 0 = some .lt ∧ sgP p = -1) ∨ (FloatKind.f64.format.order (wd p) 0 = some .gt ∧ sgP p = 1) ∨ (FloatKind.f64.format.order (wd p) 0 = some .eq ∧ sgP p = 0) := by
    unfold sgP ord
    rcases Int.lt_trichotomy (key p) 0 with g | g | g
    · exact .inl ⟨by have := q_lt hp r0 (q_fin h) (q_fin p0) (by rw [k0]; exact g); rw [wd_nil] at this; exact this, by first | simp [g] | (rw [if_pos g])⟩
    · exact .inr (.inr ⟨by have := q_eq hp r0 (q_fin h) (q_fin p0) (by rw [k0]; exact g); rw [wd_nil] at this; exact this, by rw [g]; decide⟩)
    · exact .inr (.inl ⟨by have := q_gt hp r0 (q_fin h) (q_fin p0) (by rw [k0]; exact g); rw [wd_nil] at this; exact this, by
        have : ¬ key p < 0 := by omega
        simp [this, g]⟩)
  clear hp h r0 p0 k0
  generalize sgP p = s at *
  generalize wd p = P at *
  rcases hord with ⟨ho, rfl⟩ | ⟨ho, rfl⟩ | ⟨ho, rfl⟩
  all_goals
    go_enter Tryz.func72, Tryz.ntmps72
    go_wp2_with fail
    refine (C1.out _).mono ?_
    rintro _ wz ⟨rfl, hwz⟩
    replace hwz := hwz.symm
    subst hwz
    go_wp2_with fail
    refine (C2.out _).mono ?_
    rintro _ wz ⟨rfl, hwz⟩
    replace hwz := hwz.symm
    subst hwz
    go_wp2
    go_ret
    exact ⟨rfl, rfl⟩
/-- 2^-49. -/
def c49 : Int := 4386506037058863104
theorem wd_c49 : wd c49 = 4386506037058863104 := by decide
theorem rng_c49 : rng c49 := by unfold rng c49; omega
theorem pok_c49 : pok c49 = true := by decide
set_option maxRecDepth 100000 in
set_option maxHeartbeats 1000000 in
theorem mTame_yes (F0 F1 F2 F3 : Nat) (c0 c1 c2 c3 : Array Value) {p s : Int} (hp : rng p) (pp : pok p = true) (hs : rng s) (ps : pok s = true) (pm : pok (fprod c49 s) = true) (hc : key (fprod c49 s) < rg p) (w : World) (hE0 : ∀ (cap : Array Value) (w : World), (callFunc F0 cap).run Tryz.prog w = .ok (.enter F0 cap) w) (C0 : ∀ W, Below w.heap.size w W → Calls Tryz.prog F0 c0 W fun r w' => r = .returned (.tuple #[.float .f64 (wd p), .float .f64 (wd s)]) ∧ Below W.heap.size W w') :
    Calls Tryz.prog 47 #[.agg #[.func (.func F0) #[] c0, .func (.func F1) #[] c1, .func (.func F2) #[] c2, .func (.func F3) #[] c3]] w fun r w' => r = .returned (.agg #[.int .i64 (sgP p), .int .i64 1]) ∧ Below w.heap.size w w' := by
  have hM := fun W => run_prodN (P := Tryz.prog) 42 (FW.pat (q_fin pok_c49) rng_c49) (FW.pat (q_fin ps) hs) (q_fin pm) W
  rw [wd_c49] at hM
  have rM : rng (fprod c49 s) := fprod_rng rng_c49 hs
  obtain ⟨q1, q2⟩ := q_rg hp
  have kR : key (rg p) = rg p := q_key q2
  have pR : pok (rg p) = true := by
    have h1 := pok_rg' hp
    have h2 := pok_rg' q1
    rw [rg_rg hp, ← h1] at h2
    rw [h2]; exact pp
  have ho : FloatKind.f64.format.order (wd (rg p)) (wd (fprod c49 s)) = some .gt := q_gt q1 rM (q_fin pR) (q_fin pm) (by rw [kR]; exact hc)
  have CA : Hid (∀ W, Calls Tryz.prog 14 #[.float .f64 (wd p)] W fun e w' => e = .returned (.float .f64 (wd (rg p))) ∧ w' = W) := fun W => mathAbs hp W
  have CC : Hid (∀ W, Calls Tryz.prog 72 #[.float .f64 (wd p), .float .f64 0] W fun r w' => r = .returned (.int .i64 (sgP p)) ∧ w' = W) := fun W => cmpFloat hp pp W
  clear hp pp hs ps pm hc rM q1 q2 kR pR
  generalize sgP p = sp at *
  generalize wd (rg p) = A at *
  generalize wd p = P at *
  generalize wd (fprod c49 s) = M at *
  generalize wd s = Z at *
  skip
  have s_k : (w.alloc (.cells #[.func (.func F0) #[] c0, .func (.func F1) #[] c1, .func (.func F2) #[] c2, .func (.func F3) #[] c3] 71)).heap[w.heap.size]? = some (.cells #[.func (.func F0) #[] c0, .func (.func F1) #[] c1, .func (.func F2) #[] c2, .func (.func F3) #[] c3] 71) := heap_new (.cells #[.func (.func F0) #[] c0, .func (.func F1) #[] c1, .func (.func F2) #[] c2, .func (.func F3) #[] c3] 71) (by rfl)
  have hb0 := bel_alloc w (.cells #[.func (.func F0) #[] c0, .func (.func F1) #[] c1, .func (.func F2) #[] c2, .func (.func F3) #[] c3] 71)
  replace s_k := heap_past (.cells #[.int .i64 0, .int .i64 0] 28) s_k
  have r_k : ((w.alloc (.cells #[.func (.func F0) #[] c0, .func (.func F1) #[] c1, .func (.func F2) #[] c2, .func (.func F3) #[] c3] 71)).alloc (.cells #[.int .i64 0, .int .i64 0] 28)).heap[w.heap.size + 1]? = some (.cells #[.int .i64 0, .int .i64 0] 28) := heap_new (.cells #[.int .i64 0, .int .i64 0] 28) (by simp only [size_alloc])
  replace hb0 := bel_trans hb0 (bel_alloc (w.alloc (.cells #[.func (.func F0) #[] c0, .func (.func F1) #[] c1, .func (.func F2) #[] c2, .func (.func F3) #[] c3] 71)) (.cells #[.int .i64 0, .int .i64 0] 28))
  have f_s0 := blkC s_k 0 rfl
  go_enter Tryz.func47, Tryz.ntmps47
  go_wp2_with fail
  clear f_s0
  generalize ((w.alloc (.cells #[.func (.func F0) #[] c0, .func (.func F1) #[] c1, .func (.func F2) #[] c2, .func (.func F3) #[] c3] 71)).alloc (.cells #[.int .i64 0, .int .i64 0] 28)) = x0 at hb0 s_k r_k ⊢
  refine (C0 _ hb0).mono ?_
  rintro _ y1 ⟨rfl, hw1⟩
  replace s_k := blk_on hw1 s_k
  replace r_k := blk_on hw1 r_k
  replace hb0 := bel_trans hb0 hw1
  go_wp2_with fail
  refine (CA.out _).mono ?_
  rintro _ wz ⟨rfl, hwz⟩
  replace hwz := hwz.symm
  subst hwz
  go_wp2_with fail
  refine (CC.out _).mono ?_
  rintro _ wz ⟨rfl, hwz⟩
  replace hwz := hwz.symm
  subst hwz
  have k0 := blkC r_k 0 rfl
  have k1 := blkC r_k 1 rfl
  have z0 := blkF r_k 0
  have z1 := blkF r_k 1
  go_wp2
  exact bodyPost_ret (v := .agg #[.int .i64 sp, .int .i64 1]) (by simp [results, Tryz.results47, go_sem, k0, k1]) rfl ⟨rfl, ((hb0.setCell (p := ⟨w.heap.size + 1, 0, none⟩) (show w.heap.size ≤ w.heap.size + 1 by omega) _).setCell (p := ⟨w.heap.size + 1, 1, none⟩) (show w.heap.size ≤ w.heap.size + 1 by omega) _)⟩
set_option maxRecDepth 100000 in
set_option maxHeartbeats 1000000 in
theorem mTame_no (F0 F1 F2 F3 : Nat) (c0 c1 c2 c3 : Array Value) {p s : Int} (hp : rng p) (pp : pok p = true) (hs : rng s) (ps : pok s = true) (pm : pok (fprod c49 s) = true) (hc : rg p ≤ key (fprod c49 s)) (w : World) (hE0 : ∀ (cap : Array Value) (w : World), (callFunc F0 cap).run Tryz.prog w = .ok (.enter F0 cap) w) (C0 : ∀ W, Below w.heap.size w W → Calls Tryz.prog F0 c0 W fun r w' => r = .returned (.tuple #[.float .f64 (wd p), .float .f64 (wd s)]) ∧ Below W.heap.size W w') {V : Int} (hE1 : ∀ (cap : Array Value) (w : World), (callFunc F1 cap).run Tryz.prog w = .ok (.enter F1 cap) w) (C1 : ∀ W, Below w.heap.size w W → Calls Tryz.prog F1 c1 W fun r w' => ∃ o n c, r = .returned (.slice o n c) ∧ (∀ W2, Below w'.heap.size w' W2 → Calls Tryz.prog 73 #[.slice o n c] W2 fun r2 w2 => r2 = .returned (.tuple #[.int .i64 V, .int .i64 0]) ∧ Below W2.heap.size W2 w2) ∧ Below W.heap.size W w') :
    Calls Tryz.prog 47 #[.agg #[.func (.func F0) #[] c0, .func (.func F1) #[] c1, .func (.func F2) #[] c2, .func (.func F3) #[] c3]] w fun r w' => r = .returned (.agg #[.int .i64 V, .int .i64 4]) ∧ Below w.heap.size w w' := by
  have hM := fun W => run_prodN (P := Tryz.prog) 42 (FW.pat (q_fin pok_c49) rng_c49) (FW.pat (q_fin ps) hs) (q_fin pm) W
  rw [wd_c49] at hM
  have rM : rng (fprod c49 s) := fprod_rng rng_c49 hs
  obtain ⟨q1, q2⟩ := q_rg hp
  have kR : key (rg p) = rg p := q_key q2
  have pR : pok (rg p) = true := by
    have h1 := pok_rg' hp
    have h2 := pok_rg' q1
    rw [rg_rg hp, ← h1] at h2
    rw [h2]; exact pp
  have ho : FloatKind.f64.format.order (wd (rg p)) (wd (fprod c49 s)) = some .lt ∨ FloatKind.f64.format.order (wd (rg p)) (wd (fprod c49 s)) = some .eq := by
    rcases Int.lt_or_eq_of_le hc with g | g
    · exact .inl ((q_lt q1 rM (q_fin pR) (q_fin pm) (by rw [kR]; exact g)))
    · exact .inr ((q_eq q1 rM (q_fin pR) (q_fin pm) (by rw [kR]; exact g)))
  have CA : Hid (∀ W, Calls Tryz.prog 14 #[.float .f64 (wd p)] W fun e w' => e = .returned (.float .f64 (wd (rg p))) ∧ w' = W) := fun W => mathAbs hp W
  have CC : Hid (∀ W, Calls Tryz.prog 72 #[.float .f64 (wd p), .float .f64 0] W fun r w' => r = .returned (.int .i64 (sgP p)) ∧ w' = W) := fun W => cmpFloat hp pp W
  clear hp pp hs ps pm hc rM q1 q2 kR pR
  generalize sgP p = sp at *
  generalize wd (rg p) = A at *
  generalize wd p = P at *
  generalize wd (fprod c49 s) = M at *
  generalize wd s = Z at *
  skip
  rcases ho with ho | ho
  all_goals
    have s_k : (w.alloc (.cells #[.func (.func F0) #[] c0, .func (.func F1) #[] c1, .func (.func F2) #[] c2, .func (.func F3) #[] c3] 71)).heap[w.heap.size]? = some (.cells #[.func (.func F0) #[] c0, .func (.func F1) #[] c1, .func (.func F2) #[] c2, .func (.func F3) #[] c3] 71) := heap_new (.cells #[.func (.func F0) #[] c0, .func (.func F1) #[] c1, .func (.func F2) #[] c2, .func (.func F3) #[] c3] 71) (by rfl)
    have hb0 := bel_alloc w (.cells #[.func (.func F0) #[] c0, .func (.func F1) #[] c1, .func (.func F2) #[] c2, .func (.func F3) #[] c3] 71)
    replace s_k := heap_past (.cells #[.int .i64 0, .int .i64 0] 28) s_k
    have r_k : ((w.alloc (.cells #[.func (.func F0) #[] c0, .func (.func F1) #[] c1, .func (.func F2) #[] c2, .func (.func F3) #[] c3] 71)).alloc (.cells #[.int .i64 0, .int .i64 0] 28)).heap[w.heap.size + 1]? = some (.cells #[.int .i64 0, .int .i64 0] 28) := heap_new (.cells #[.int .i64 0, .int .i64 0] 28) (by simp only [size_alloc])
    replace hb0 := bel_trans hb0 (bel_alloc (w.alloc (.cells #[.func (.func F0) #[] c0, .func (.func F1) #[] c1, .func (.func F2) #[] c2, .func (.func F3) #[] c3] 71)) (.cells #[.int .i64 0, .int .i64 0] 28))
    have f_s0 := blkC s_k 0 rfl
    go_enter Tryz.func47, Tryz.ntmps47
    go_wp2_with fail
    clear f_s0
    generalize ((w.alloc (.cells #[.func (.func F0) #[] c0, .func (.func F1) #[] c1, .func (.func F2) #[] c2, .func (.func F3) #[] c3] 71)).alloc (.cells #[.int .i64 0, .int .i64 0] 28)) = x0 at hb0 s_k r_k ⊢
    refine (C0 _ hb0).mono ?_
    rintro _ y1 ⟨rfl, hw1⟩
    replace s_k := blk_on hw1 s_k
    replace r_k := blk_on hw1 r_k
    replace hb0 := bel_trans hb0 hw1
    go_wp2_with fail
    refine (CA.out _).mono ?_
    rintro _ wz ⟨rfl, hwz⟩
    replace hwz := hwz.symm
    subst hwz
    have f_s1 := blkC s_k 1 rfl
    go_wp2_with fail
    clear f_s1
    refine (C1 _ hb0).mono ?_
    rintro _ y2 ⟨o, n, c, rfl, CS, hw2⟩
    replace s_k := blk_on hw2 s_k
    replace r_k := blk_on hw2 r_k
    replace hb0 := bel_trans hb0 hw2
    have CS : Hid (∀ W2, Below y2.heap.size y2 W2 → Calls Tryz.prog 73 #[.slice o n c] W2 fun r2 w2 => r2 = .returned (.tuple #[.int .i64 V, .int .i64 0]) ∧ Below W2.heap.size W2 w2) := CS
    go_wp2_with fail
    refine (CS.out _ (bel_refl _)).mono ?_
    rintro _ y3 ⟨rfl, hw3⟩
    replace r_k := blk_on hw3 r_k
    replace hb0 := bel_trans hb0 hw3
    have k0 := blkC r_k 0 rfl
    have k1 := blkC r_k 1 rfl
    have z0 := blkF r_k 0
    have z1 := blkF r_k 1
    go_wp2
    exact bodyPost_ret (v := .agg #[.int .i64 V, .int .i64 4]) (by simp [results, Tryz.results47, go_sem, k0, k1]) rfl ⟨rfl, ((hb0.setCell (p := ⟨w.heap.size + 1, 0, none⟩) (show w.heap.size ≤ w.heap.size + 1 by omega) _).setCell (p := ⟨w.heap.size + 1, 1, none⟩) (show w.heap.size ≤ w.heap.size + 1 by omega) _)⟩
set_option maxRecDepth 100000 in
set_option maxHeartbeats 1000000 in
theorem mWild_yes (F0 F1 F2 F3 : Nat) (c0 c1 c2 c3 : Array Value) {lo hi V U E : Int} (w : World) (hE2 : ∀ (cap : Array Value) (w : World), (callFunc F2 cap).run Tryz.prog w = .ok (.enter F2 cap) w) (C2 : ∀ W, Below w.heap.size w W → Calls Tryz.prog F2 c2 W fun r w' => r = .returned (.agg #[.int .i64 lo, .int .i64 hi]) ∧ Below W.heap.size W w')
    (CS : ∀ W, Calls Tryz.prog 75 #[.agg #[.int .i64 lo, .int .i64 hi]] W fun r w' => r = .returned (.tuple #[.int .i64 V, .bool true, .int .i64 E]) ∧ Below W.heap.size W w') :
    Calls Tryz.prog 49 #[.agg #[.func (.func F0) #[] c0, .func (.func F1) #[] c1, .func (.func F2) #[] c2, .func (.func F3) #[] c3]] w fun r w' => r = .returned (.agg #[.int .i64 V, .int .i64 5]) ∧ Below w.heap.size w w' := by
  have s_k : (w.alloc (.cells #[.func (.func F0) #[] c0, .func (.func F1) #[] c1, .func (.func F2) #[] c2, .func (.func F3) #[] c3] 71)).heap[w.heap.size]? = some (.cells #[.func (.func F0) #[] c0, .func (.func F1) #[] c1, .func (.func F2) #[] c2, .func (.func F3) #[] c3] 71) := heap_new (.cells #[.func (.func F0) #[] c0, .func (.func F1) #[] c1, .func (.func F2) #[] c2, .func (.func F3) #[] c3] 71) (by rfl)
  have hb0 := bel_alloc w (.cells #[.func (.func F0) #[] c0, .func (.func F1) #[] c1, .func (.func F2) #[] c2, .func (.func F3) #[] c3] 71)
  replace s_k := heap_past (.cells #[.int .i64 0, .int .i64 0] 28) s_k
  have r_k : ((w.alloc (.cells #[.func (.func F0) #[] c0, .func (.func F1) #[] c1, .func (.func F2) #[] c2, .func (.func F3) #[] c3] 71)).alloc (.cells #[.int .i64 0, .int .i64 0] 28)).heap[w.heap.size + 1]? = some (.cells #[.int .i64 0, .int .i64 0] 28) := heap_new (.cells #[.int .i64 0, .int .i64 0] 28) (by simp only [size_alloc])
  replace hb0 := bel_trans hb0 (bel_alloc (w.alloc (.cells #[.func (.func F0) #[] c0, .func (.func F1) #[] c1, .func (.func F2) #[] c2, .func (.func F3) #[] c3] 71)) (.cells #[.int .i64 0, .int .i64 0] 28))
  have f_s2 := blkC s_k 2 rfl
  go_enter Tryz.func49, Tryz.ntmps49
  go_wp2_with fail
  clear f_s2
  generalize ((w.alloc (.cells #[.func (.func F0) #[] c0, .func (.func F1) #[] c1, .func (.func F2) #[] c2, .func (.func F3) #[] c3] 71)).alloc (.cells #[.int .i64 0, .int .i64 0] 28)) = x0 at hb0 s_k r_k ⊢
  refine (C2 _ hb0).mono ?_
  rintro _ y1 ⟨rfl, hw1⟩
  replace s_k := blk_on hw1 s_k
  replace r_k := blk_on hw1 r_k
  replace hb0 := bel_trans hb0 hw1
  have CS : Hid (∀ W, Calls Tryz.prog 75 #[.agg #[.int .i64 lo, .int .i64 hi]] W fun r w' => r = .returned (.tuple #[.int .i64 V, .bool true, .int .i64 E]) ∧ Below W.heap.size W w') := CS
  go_wp2_with fail
  refine (CS.out _).mono ?_
  rintro _ y2 ⟨rfl, hw2⟩
  replace s_k := blk_on hw2 s_k
  replace r_k := blk_on hw2 r_k
  replace hb0 := bel_trans hb0 hw2
  have k0 := blkC r_k 0 rfl
  have k1 := blkC r_k 1 rfl
  have z0 := blkF r_k 0
  have z1 := blkF r_k 1
  go_wp2
  exact bodyPost_ret (v := .agg #[.int .i64 V, .int .i64 5]) (by simp [results, Tryz.results49, go_sem, k0, k1]) rfl ⟨rfl, ((hb0.setCell (p := ⟨w.heap.size + 1, 0, none⟩) (show w.heap.size ≤ w.heap.size + 1 by omega) _).setCell (p := ⟨w.heap.size + 1, 1, none⟩) (show w.heap.size ≤ w.heap.size + 1 by omega) _)⟩
set_option maxRecDepth 100000 in
set_option maxHeartbeats 1000000 in
theorem mWild_no (F0 F1 F2 F3 : Nat) (c0 c1 c2 c3 : Array Value) {lo hi V U E : Int} (w : World) (hE2 : ∀ (cap : Array Value) (w : World), (callFunc F2 cap).run Tryz.prog w = .ok (.enter F2 cap) w) (C2 : ∀ W, Below w.heap.size w W → Calls Tryz.prog F2 c2 W fun r w' => r = .returned (.agg #[.int .i64 lo, .int .i64 hi]) ∧ Below W.heap.size W w')
    (CS : ∀ W, Calls Tryz.prog 75 #[.agg #[.int .i64 lo, .int .i64 hi]] W fun r w' => r = .returned (.tuple #[.int .i64 V, .bool false, .int .i64 E]) ∧ Below W.heap.size W w') (hE3 : ∀ (cap : Array Value) (w : World), (callFunc F3 cap).run Tryz.prog w = .ok (.enter F3 cap) w) (C3 : ∀ W, Below w.heap.size w W → Calls Tryz.prog F3 c3 W fun r w' => ∃ g o n c e, r = .returned (.agg #[.bool g, .slice o n c, .int .i64 e]) ∧ (∀ W2, Below w'.heap.size w' W2 → Calls Tryz.prog 76 #[.agg #[.bool g, .slice o n c, .int .i64 e]] W2 fun r2 w2 => r2 = .returned (.tuple #[.int .i64 U, .int .i64 0]) ∧ Below W2.heap.size W2 w2) ∧ Below W.heap.size W w') :
    Calls Tryz.prog 49 #[.agg #[.func (.func F0) #[] c0, .func (.func F1) #[] c1, .func (.func F2) #[] c2, .func (.func F3) #[] c3]] w fun r w' => r = .returned (.agg #[.int .i64 U, .int .i64 6]) ∧ Below w.heap.size w w' := by
  have s_k : (w.alloc (.cells #[.func (.func F0) #[] c0, .func (.func F1) #[] c1, .func (.func F2) #[] c2, .func (.func F3) #[] c3] 71)).heap[w.heap.size]? = some (.cells #[.func (.func F0) #[] c0, .func (.func F1) #[] c1, .func (.func F2) #[] c2, .func (.func F3) #[] c3] 71) := heap_new (.cells #[.func (.func F0) #[] c0, .func (.func F1) #[] c1, .func (.func F2) #[] c2, .func (.func F3) #[] c3] 71) (by rfl)
  have hb0 := bel_alloc w (.cells #[.func (.func F0) #[] c0, .func (.func F1) #[] c1, .func (.func F2) #[] c2, .func (.func F3) #[] c3] 71)
  replace s_k := heap_past (.cells #[.int .i64 0, .int .i64 0] 28) s_k
  have r_k : ((w.alloc (.cells #[.func (.func F0) #[] c0, .func (.func F1) #[] c1, .func (.func F2) #[] c2, .func (.func F3) #[] c3] 71)).alloc (.cells #[.int .i64 0, .int .i64 0] 28)).heap[w.heap.size + 1]? = some (.cells #[.int .i64 0, .int .i64 0] 28) := heap_new (.cells #[.int .i64 0, .int .i64 0] 28) (by simp only [size_alloc])
  replace hb0 := bel_trans hb0 (bel_alloc (w.alloc (.cells #[.func (.func F0) #[] c0, .func (.func F1) #[] c1, .func (.func F2) #[] c2, .func (.func F3) #[] c3] 71)) (.cells #[.int .i64 0, .int .i64 0] 28))
  have f_s2 := blkC s_k 2 rfl
  go_enter Tryz.func49, Tryz.ntmps49
  go_wp2_with fail
  clear f_s2
  generalize ((w.alloc (.cells #[.func (.func F0) #[] c0, .func (.func F1) #[] c1, .func (.func F2) #[] c2, .func (.func F3) #[] c3] 71)).alloc (.cells #[.int .i64 0, .int .i64 0] 28)) = x0 at hb0 s_k r_k ⊢
  refine (C2 _ hb0).mono ?_
  rintro _ y1 ⟨rfl, hw1⟩
  replace s_k := blk_on hw1 s_k
  replace r_k := blk_on hw1 r_k
  replace hb0 := bel_trans hb0 hw1
  have CS : Hid (∀ W, Calls Tryz.prog 75 #[.agg #[.int .i64 lo, .int .i64 hi]] W fun r w' => r = .returned (.tuple #[.int .i64 V, .bool false, .int .i64 E]) ∧ Below W.heap.size W w') := CS
  go_wp2_with fail
  refine (CS.out _).mono ?_
  rintro _ y2 ⟨rfl, hw2⟩
  replace s_k := blk_on hw2 s_k
  replace r_k := blk_on hw2 r_k
  replace hb0 := bel_trans hb0 hw2
  have f_s3 := blkC s_k 3 rfl
  go_wp2_with fail
  clear f_s3
  refine (C3 _ hb0).mono ?_
  rintro _ y3 ⟨g, o, n, c, e, rfl, CD, hw3⟩
  replace r_k := blk_on hw3 r_k
  replace hb0 := bel_trans hb0 hw3
  have CD : Hid (∀ W2, Below y3.heap.size y3 W2 → Calls Tryz.prog 76 #[.agg #[.bool g, .slice o n c, .int .i64 e]] W2 fun r2 w2 => r2 = .returned (.tuple #[.int .i64 U, .int .i64 0]) ∧ Below W2.heap.size W2 w2) := CD
  go_wp2_with fail
  refine (CD.out _ (bel_refl _)).mono ?_
  rintro _ y4 ⟨rfl, hw4⟩
  replace r_k := blk_on hw4 r_k
  replace hb0 := bel_trans hb0 hw4
  have k0 := blkC r_k 0 rfl
  have k1 := blkC r_k 1 rfl
  have z0 := blkF r_k 0
  have z1 := blkF r_k 1
  go_wp2
  exact bodyPost_ret (v := .agg #[.int .i64 U, .int .i64 6]) (by simp [results, Tryz.results49, go_sem, k0, k1]) rfl ⟨rfl, ((hb0.setCell (p := ⟨w.heap.size + 1, 0, none⟩) (show w.heap.size ≤ w.heap.size + 1 by omega) _).setCell (p := ⟨w.heap.size + 1, 1, none⟩) (show w.heap.size ≤ w.heap.size + 1 by omega) _)⟩
set_option maxRecDepth 100000 in
set_option maxHeartbeats 1000000 in
theorem mVerdict_tame (F0 F1 F2 F3 : Nat) (c0 c1 c2 c3 : Array Value) {ao : Option Addr} {n cap : Nat} {V U : Int} (w : World) (CT : ∀ W, Below w.heap.size w W → Calls Tryz.prog 46 #[.slice ao n cap] W fun r w' => r = .returned (.bool true) ∧ Below W.heap.size W w') (CV : ∀ W, Below w.heap.size w W → Calls Tryz.prog 47 #[.agg #[.func (.func F0) #[] c0, .func (.func F1) #[] c1, .func (.func F2) #[] c2, .func (.func F3) #[] c3]] W fun r w' => r = .returned (.agg #[.int .i64 V, .int .i64 U]) ∧ Below W.heap.size W w') :
    Calls Tryz.prog 24 #[.agg #[.func (.func F0) #[] c0, .func (.func F1) #[] c1, .func (.func F2) #[] c2, .func (.func F3) #[] c3], .slice ao n cap] w fun r w' => r = .returned (.tuple #[.agg #[.int .i64 V, .int .i64 U], .int .i64 0]) ∧ Below w.heap.size w w' := by
  have s_k : (w.alloc (.cells #[.func (.func F0) #[] c0, .func (.func F1) #[] c1, .func (.func F2) #[] c2, .func (.func F3) #[] c3] 71)).heap[w.heap.size]? = some (.cells #[.func (.func F0) #[] c0, .func (.func F1) #[] c1, .func (.func F2) #[] c2, .func (.func F3) #[] c3] 71) := heap_new (.cells #[.func (.func F0) #[] c0, .func (.func F1) #[] c1, .func (.func F2) #[] c2, .func (.func F3) #[] c3] 71) (by rfl)
  have hb0 := bel_alloc w (.cells #[.func (.func F0) #[] c0, .func (.func F1) #[] c1, .func (.func F2) #[] c2, .func (.func F3) #[] c3] 71)
  replace s_k := heap_past (.cells #[.int .i64 0, .int .i64 0] 28) s_k
  have r_k : ((w.alloc (.cells #[.func (.func F0) #[] c0, .func (.func F1) #[] c1, .func (.func F2) #[] c2, .func (.func F3) #[] c3] 71)).alloc (.cells #[.int .i64 0, .int .i64 0] 28)).heap[w.heap.size + 1]? = some (.cells #[.int .i64 0, .int .i64 0] 28) := heap_new (.cells #[.int .i64 0, .int .i64 0] 28) (by simp only [size_alloc])
  replace hb0 := bel_trans hb0 (bel_alloc (w.alloc (.cells #[.func (.func F0) #[] c0, .func (.func F1) #[] c1, .func (.func F2) #[] c2, .func (.func F3) #[] c3] 71)) (.cells #[.int .i64 0, .int .i64 0] 28))
  go_enter Tryz.func24, Tryz.ntmps24
  go_wp2_with fail
  generalize ((w.alloc (.cells #[.func (.func F0) #[] c0, .func (.func F1) #[] c1, .func (.func F2) #[] c2, .func (.func F3) #[] c3] 71)).alloc (.cells #[.int .i64 0, .int .i64 0] 28)) = x0 at hb0 s_k r_k ⊢
  refine (CT _ hb0).mono ?_
  rintro _ y1 ⟨rfl, hw1⟩
  replace s_k := blk_on hw1 s_k
  replace r_k := blk_on hw1 r_k
  replace hb0 := bel_trans hb0 hw1
  have CV : Hid (∀ W, Below w.heap.size w W → Calls Tryz.prog 47 #[.agg #[.func (.func F0) #[] c0, .func (.func F1) #[] c1, .func (.func F2) #[] c2, .func (.func F3) #[] c3]] W fun r w' => r = .returned (.agg #[.int .i64 V, .int .i64 U]) ∧ Below W.heap.size W w') := CV
  have f_s0 := blkC s_k 0 rfl
  have f_s1 := blkC s_k 1 rfl
  have f_s2 := blkC s_k 2 rfl
  have f_s3 := blkC s_k 3 rfl
  go_wp2_with fail
  clear f_s0 f_s1 f_s2 f_s3
  refine (CV.out _ hb0).mono ?_
  rintro _ y3 ⟨rfl, hw1⟩
  replace s_k := blk_on hw1 s_k
  replace r_k := blk_on hw1 r_k
  replace hb0 := bel_trans hb0 hw1
  have k0 := blkC r_k 0 rfl
  have k1 := blkC r_k 1 rfl
  have z0 := blkF r_k 0
  have z1 := blkF r_k 1
  go_wp2
  exact bodyPost_ret (v := .tuple #[.agg #[.int .i64 V, .int .i64 U], .int .i64 0]) (by simp [results, Tryz.results24, go_sem, k0, k1]) rfl ⟨rfl, by first | exact hb0 | exact ((hb0.setCell (p := ⟨w.heap.size + 1, 0, none⟩) (show w.heap.size ≤ w.heap.size + 1 by omega) _).setCell (p := ⟨w.heap.size + 1, 1, none⟩) (show w.heap.size ≤ w.heap.size + 1 by omega) _)⟩
set_option maxRecDepth 100000 in
set_option maxHeartbeats 1000000 in
theorem mVerdict_none (F0 F1 F2 F3 : Nat) (c0 c1 c2 c3 : Array Value) {ao : Option Addr} {n cap : Nat} {V U : Int} (w : World) (CT : ∀ W, Below w.heap.size w W → Calls Tryz.prog 46 #[.slice ao n cap] W fun r w' => r = .returned (.bool false) ∧ Below W.heap.size W w') (CG : ∀ W, Below w.heap.size w W → Calls Tryz.prog 48 #[.slice ao n cap] W fun r w' => r = .returned (.bool false) ∧ Below W.heap.size W w') :
    Calls Tryz.prog 24 #[.agg #[.func (.func F0) #[] c0, .func (.func F1) #[] c1, .func (.func F2) #[] c2, .func (.func F3) #[] c3], .slice ao n cap] w fun r w' => r = .returned (.tuple #[.agg #[.int .i64 0, .int .i64 0], .int .i64 10]) ∧ Below w.heap.size w w' := by
  have s_k : (w.alloc (.cells #[.func (.func F0) #[] c0, .func (.func F1) #[] c1, .func (.func F2) #[] c2, .func (.func F3) #[] c3] 71)).heap[w.heap.size]? = some (.cells #[.func (.func F0) #[] c0, .func (.func F1) #[] c1, .func (.func F2) #[] c2, .func (.func F3) #[] c3] 71) := heap_new (.cells #[.func (.func F0) #[] c0, .func (.func F1) #[] c1, .func (.func F2) #[] c2, .func (.func F3) #[] c3] 71) (by rfl)
  have hb0 := bel_alloc w (.cells #[.func (.func F0) #[] c0, .func (.func F1) #[] c1, .func (.func F2) #[] c2, .func (.func F3) #[] c3] 71)
  replace s_k := heap_past (.cells #[.int .i64 0, .int .i64 0] 28) s_k
  have r_k : ((w.alloc (.cells #[.func (.func F0) #[] c0, .func (.func F1) #[] c1, .func (.func F2) #[] c2, .func (.func F3) #[] c3] 71)).alloc (.cells #[.int .i64 0, .int .i64 0] 28)).heap[w.heap.size + 1]? = some (.cells #[.int .i64 0, .int .i64 0] 28) := heap_new (.cells #[.int .i64 0, .int .i64 0] 28) (by simp only [size_alloc])
  replace hb0 := bel_trans hb0 (bel_alloc (w.alloc (.cells #[.func (.func F0) #[] c0, .func (.func F1) #[] c1, .func (.func F2) #[] c2, .func (.func F3) #[] c3] 71)) (.cells #[.int .i64 0, .int .i64 0] 28))
  go_enter Tryz.func24, Tryz.ntmps24
  go_wp2_with fail
  generalize ((w.alloc (.cells #[.func (.func F0) #[] c0, .func (.func F1) #[] c1, .func (.func F2) #[] c2, .func (.func F3) #[] c3] 71)).alloc (.cells #[.int .i64 0, .int .i64 0] 28)) = x0 at hb0 s_k r_k ⊢
  refine (CT _ hb0).mono ?_
  rintro _ y1 ⟨rfl, hw1⟩
  replace s_k := blk_on hw1 s_k
  replace r_k := blk_on hw1 r_k
  replace hb0 := bel_trans hb0 hw1
  have CG : Hid (∀ W, Below w.heap.size w W → Calls Tryz.prog 48 #[.slice ao n cap] W fun r w' => r = .returned (.bool false) ∧ Below W.heap.size W w') := CG
  go_wp2_with fail
  refine (CG.out _ hb0).mono ?_
  rintro _ y2 ⟨rfl, hw1⟩
  replace s_k := blk_on hw1 s_k
  replace r_k := blk_on hw1 r_k
  replace hb0 := bel_trans hb0 hw1
  have k0 := blkC r_k 0 rfl
  have k1 := blkC r_k 1 rfl
  have z0 := blkF r_k 0
  have z1 := blkF r_k 1
  go_wp2
  exact bodyPost_ret (v := .tuple #[.agg #[.int .i64 0, .int .i64 0], .int .i64 10]) (by simp [results, Tryz.results24, go_sem, k0, k1]) rfl ⟨rfl, by first | exact hb0 | exact ((hb0.setCell (p := ⟨w.heap.size + 1, 0, none⟩) (show w.heap.size ≤ w.heap.size + 1 by omega) _).setCell (p := ⟨w.heap.size + 1, 1, none⟩) (show w.heap.size ≤ w.heap.size + 1 by omega) _)⟩
set_option maxRecDepth 100000 in
set_option maxHeartbeats 1000000 in
theorem mVerdict_wild (F0 F1 F2 F3 : Nat) (c0 c1 c2 c3 : Array Value) {ao : Option Addr} {n cap : Nat} {V U : Int} (w : World) (CT : ∀ W, Below w.heap.size w W → Calls Tryz.prog 46 #[.slice ao n cap] W fun r w' => r = .returned (.bool false) ∧ Below W.heap.size W w') (CG : ∀ W, Below w.heap.size w W → Calls Tryz.prog 48 #[.slice ao n cap] W fun r w' => r = .returned (.bool true) ∧ Below W.heap.size W w') (CV : ∀ W, Below w.heap.size w W → Calls Tryz.prog 49 #[.agg #[.func (.func F0) #[] c0, .func (.func F1) #[] c1, .func (.func F2) #[] c2, .func (.func F3) #[] c3]] W fun r w' => r = .returned (.agg #[.int .i64 V, .int .i64 U]) ∧ Below W.heap.size W w') :
    Calls Tryz.prog 24 #[.agg #[.func (.func F0) #[] c0, .func (.func F1) #[] c1, .func (.func F2) #[] c2, .func (.func F3) #[] c3], .slice ao n cap] w fun r w' => r = .returned (.tuple #[.agg #[.int .i64 V, .int .i64 U], .int .i64 0]) ∧ Below w.heap.size w w' := by
  have s_k : (w.alloc (.cells #[.func (.func F0) #[] c0, .func (.func F1) #[] c1, .func (.func F2) #[] c2, .func (.func F3) #[] c3] 71)).heap[w.heap.size]? = some (.cells #[.func (.func F0) #[] c0, .func (.func F1) #[] c1, .func (.func F2) #[] c2, .func (.func F3) #[] c3] 71) := heap_new (.cells #[.func (.func F0) #[] c0, .func (.func F1) #[] c1, .func (.func F2) #[] c2, .func (.func F3) #[] c3] 71) (by rfl)
  have hb0 := bel_alloc w (.cells #[.func (.func F0) #[] c0, .func (.func F1) #[] c1, .func (.func F2) #[] c2, .func (.func F3) #[] c3] 71)
  replace s_k := heap_past (.cells #[.int .i64 0, .int .i64 0] 28) s_k
  have r_k : ((w.alloc (.cells #[.func (.func F0) #[] c0, .func (.func F1) #[] c1, .func (.func F2) #[] c2, .func (.func F3) #[] c3] 71)).alloc (.cells #[.int .i64 0, .int .i64 0] 28)).heap[w.heap.size + 1]? = some (.cells #[.int .i64 0, .int .i64 0] 28) := heap_new (.cells #[.int .i64 0, .int .i64 0] 28) (by simp only [size_alloc])
  replace hb0 := bel_trans hb0 (bel_alloc (w.alloc (.cells #[.func (.func F0) #[] c0, .func (.func F1) #[] c1, .func (.func F2) #[] c2, .func (.func F3) #[] c3] 71)) (.cells #[.int .i64 0, .int .i64 0] 28))
  go_enter Tryz.func24, Tryz.ntmps24
  go_wp2_with fail
  generalize ((w.alloc (.cells #[.func (.func F0) #[] c0, .func (.func F1) #[] c1, .func (.func F2) #[] c2, .func (.func F3) #[] c3] 71)).alloc (.cells #[.int .i64 0, .int .i64 0] 28)) = x0 at hb0 s_k r_k ⊢
  refine (CT _ hb0).mono ?_
  rintro _ y1 ⟨rfl, hw1⟩
  replace s_k := blk_on hw1 s_k
  replace r_k := blk_on hw1 r_k
  replace hb0 := bel_trans hb0 hw1
  have CG : Hid (∀ W, Below w.heap.size w W → Calls Tryz.prog 48 #[.slice ao n cap] W fun r w' => r = .returned (.bool true) ∧ Below W.heap.size W w') := CG
  go_wp2_with fail
  refine (CG.out _ hb0).mono ?_
  rintro _ y2 ⟨rfl, hw1⟩
  replace s_k := blk_on hw1 s_k
  replace r_k := blk_on hw1 r_k
  replace hb0 := bel_trans hb0 hw1
  have CV : Hid (∀ W, Below w.heap.size w W → Calls Tryz.prog 49 #[.agg #[.func (.func F0) #[] c0, .func (.func F1) #[] c1, .func (.func F2) #[] c2, .func (.func F3) #[] c3]] W fun r w' => r = .returned (.agg #[.int .i64 V, .int .i64 U]) ∧ Below W.heap.size W w') := CV
  have f_s0 := blkC s_k 0 rfl
  have f_s1 := blkC s_k 1 rfl
  have f_s2 := blkC s_k 2 rfl
  have f_s3 := blkC s_k 3 rfl
  go_wp2_with fail
  clear f_s0 f_s1 f_s2 f_s3
  refine (CV.out _ hb0).mono ?_
  rintro _ y3 ⟨rfl, hw1⟩
  replace s_k := blk_on hw1 s_k
  replace r_k := blk_on hw1 r_k
  replace hb0 := bel_trans hb0 hw1
  have k0 := blkC r_k 0 rfl
  have k1 := blkC r_k 1 rfl
  have z0 := blkF r_k 0
  have z1 := blkF r_k 1
  go_wp2
  exact bodyPost_ret (v := .tuple #[.agg #[.int .i64 V, .int .i64 U], .int .i64 0]) (by simp [results, Tryz.results24, go_sem, k0, k1]) rfl ⟨rfl, by first | exact hb0 | exact ((hb0.setCell (p := ⟨w.heap.size + 1, 0, none⟩) (show w.heap.size ≤ w.heap.size + 1 by omega) _).setCell (p := ⟨w.heap.size + 1, 1, none⟩) (show w.heap.size ≤ w.heap.size + 1 by omega) _)⟩
end Go.Proofs.YtcpjdgfnblkfpaaGreatDoor
