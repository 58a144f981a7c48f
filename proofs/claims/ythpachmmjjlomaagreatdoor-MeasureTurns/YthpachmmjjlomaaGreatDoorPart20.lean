/-
  Parts of the proof, one behind another.
-/
import Derived.Test.YthpachmmjjlomaaGreatDoorPart19
import Derived.Deep.RegionHeld3
import Derived.Test.YthpachmmjjlomaaGreatDoorPart15
import Derived.Test.YthpachmmjjlomaaGreatDoorPart13
import Derived.Test.YthpachmmjjlomaaGreatDoorPart11
namespace Go.Proofs.YthpachmmjjlomaaGreatDoor
open Go Go.RowKit Go.Proofs.YthpachmmjjlomaaGreatDoor.M
set_option linter.unusedSimpArgs false
set_option linter.unusedVariables false
theorem wd_nil : wd 0 = 0 := by decide
def sgP (p : Int) : Int := ord (key p) 0
theorem order_self {p : Int} (hp : rng p) (h : pok p = true) : FloatKind.f64.format.order (wd p) (wd p) = some .eq := q_eq hp hp (q_fin h) (q_fin h) rfl
set_option maxRecDepth 100000 in
theorem cmpNaN {p : Int} (hp : rng p) (h : pok p = true) (w : World) :
    Calls Tryz.prog 115 #[.float .f64 (wd p)] w fun r w' => r = .returned (.bool false) ∧ w' = w := by
  have e := order_self hp h
  go_enter Tryz.func115, Tryz.ntmps115
  go_wp2
  go_ret
  exact ⟨rfl, rfl⟩
set_option maxRecDepth 100000 in
theorem cmpFloat {p : Int} (hp : rng p) (h : pok p = true) (w : World) :
    Calls Tryz.prog 80 #[.float .f64 (wd p), .float .f64 0] w fun r w' => r = .returned (.int .i64 (sgP p)) ∧ w' = w := by
  have r0 : rng 0 := by unfold rng; decide
  have p0 : pok 0 = true := by decide
  have C1 : Hid (∀ W, Calls Tryz.prog 115 #[.float .f64 (wd p)] W fun r w' => r = .returned (.bool false) ∧ w' = W) := fun W => cmpNaN hp h W
  have C2 : Hid (∀ W, Calls Tryz.prog 115 #[.float .f64 0] W fun r w' => r = .returned (.bool false) ∧ w' = W) := fun W => by
    have := cmpNaN r0 p0 W
    rw [wd_nil] at this
    exact this
  have k0 : key 0 = 0 := by decide
  have hord : (FloatKind.f64.format.order (wd p) 0 = some .lt ∧ sgP p = -1) ∨ (FloatKind.f64.format.order (wd p) 0 = some .gt ∧ sgP p = 1) ∨ (FloatKind.f64.format.order (wd p) 0 = some .eq ∧ sgP p = 0) := by
    unfold sgP ord
    rcases Int.lt_trichotomy (key p) 0 with g | g | g
    . exact .inl ⟨by have := q_lt hp r0 (q_fin h) (q_fin p0) (by rw [k0]; exact g); rw [wd_nil] at this; exact this, by first | simp [g] | (rw [if_pos g])⟩
    . exact .inr (.inr ⟨by have := q_eq hp r0 (q_fin h) (q_fin p0) (by rw [k0]; exact g); rw [wd_nil] at this; exact this, by rw [g]; decide⟩)
    . exact .inr (.inl ⟨by have := q_gt hp r0 (q_fin h) (q_fin p0) (by rw [k0]; exact g); rw [wd_nil] at this; exact this, by
        have : ¬ key p < 0 := by omega
        simp [this, g]⟩)
  clear hp h r0 p0 k0
  generalize sgP p = s at *
  generalize wd p = P at *
  rcases hord with ⟨ho, rfl⟩ | ⟨ho, rfl⟩ | ⟨ho, rfl⟩
  all_goals
    go_enter Tryz.func80, Tryz.ntmps80
    go_wp2_with fail
    refine (C1.out _).mono ?_
    rintro _ wz ⟨rfl, hwz⟩
    replace hwz := hwz.symm
    subst hwz
    go_wp2_with fail
    refine (C2.out _).mono ?_
    rintro _ wz ⟨rfl, hwz⟩
    replace hwz := hwz.symm
    subst hwz
    go_wp2
    go_ret
    exact ⟨rfl, rfl⟩
def c49 : Int := 4386506037058863104
theorem wd_c49 : wd c49 = 4386506037058863104 := by decide
theorem rng_c49 : rng c49 := by unfold rng c49; omega
theorem pok_c49 : pok c49 = true := by decide
set_option maxRecDepth 100000 in
set_option maxHeartbeats 1000000 in
theorem mTame_yes (F0 F1 F2 F3 : Nat) (c0 c1 c2 c3 : Array Value) {p s : Int} (hp : rng p) (pp : pok p = true) (hs : rng s) (ps : pok s = true) (pm : pok (fprod c49 s) = true) (hc : key (fprod c49 s) < rg p) (w : World) (hE0 : ∀ (cap : Array Value) (w : World), (callFunc F0 cap).run Tryz.prog w = .ok (.enter F0 cap) w) (C0 : ∀ W, Below w.heap.size w W -> Calls Tryz.prog F0 c0 W fun r w' => r = .returned (.tuple #[.float .f64 (wd p), .float .f64 (wd s)]) ∧ Below W.heap.size W w') :
    Calls Tryz.prog 53 #[.agg #[.func (.func F0) #[] c0, .func (.func F1) #[] c1, .func (.func F2) #[] c2, .func (.func F3) #[] c3]] w fun r w' => r = .returned (.agg #[.int .i64 (sgP p), .int .i64 1]) ∧ Below w.heap.size w w' := by
  have hM := fun W => run_prodN (P := Tryz.prog) 44 (FW.pat (q_fin pok_c49) rng_c49) (FW.pat (q_fin ps) hs) (q_fin pm) W
  rw [wd_c49] at hM
  have rM : rng (fprod c49 s) := fprod_rng rng_c49 hs
  obtain ⟨q1, q2⟩ := q_rg hp
  have kR : key (rg p) = rg p := q_key q2
  have pR : pok (rg p) = true := by
    have h1 := pok_rg' hp
    have h2 := pok_rg' q1
    rw [rg_rg hp, <- h1] at h2
    rw [h2]; exact pp
  have ho : FloatKind.f64.format.order (wd (rg p)) (wd (fprod c49 s)) = some .gt := q_gt q1 rM (q_fin pR) (q_fin pm) (by rw [kR]; exact hc)
  have CA : Hid (∀ W, Calls Tryz.prog 28 #[.float .f64 (wd p)] W fun e w' => e = .returned (.float .f64 (wd (rg p))) ∧ w' = W) := fun W => mathAbs hp W
  have CC : Hid (∀ W, Calls Tryz.prog 80 #[.float .f64 (wd p), .float .f64 0] W fun r w' => r = .returned (.int .i64 (sgP p)) ∧ w' = W) := fun W => cmpFloat hp pp W
  clear hp pp hs ps pm hc rM q1 q2 kR pR
  generalize sgP p = sp at *
  generalize wd (rg p) = A at *
  generalize wd p = P at *
  generalize wd (fprod c49 s) = M at *
  generalize wd s = Z at *
  skip
  obtain ⟨hb0, s_k, r_k, hsz0⟩ := blks2 w (.cells #[.func (.func F0) #[] c0, .func (.func F1) #[] c1, .func (.func F2) #[] c2, .func (.func F3) #[] c3] 71) (.cells #[.int .i64 0, .int .i64 0] 28)
  clear hsz0
  have f_s0 := blkC s_k 0 rfl
  go_enter Tryz.func53, Tryz.ntmps53
  go_wp2_with fail
  clear f_s0
  generalize ((w.alloc (.cells #[.func (.func F0) #[] c0, .func (.func F1) #[] c1, .func (.func F2) #[] c2, .func (.func F3) #[] c3] 71)).alloc (.cells #[.int .i64 0, .int .i64 0] 28)) = x0 at hb0 s_k r_k ⊢
  refine (C0 _ hb0).mono ?_
  rintro _ y1 ⟨rfl, hw1⟩
  replace s_k := blk_on hw1 s_k
  replace r_k := blk_on hw1 r_k
  replace hb0 := bel_trans hb0 hw1
  go_wp2_with fail
  refine (CA.out _).mono ?_
  rintro _ wz ⟨rfl, hwz⟩
  replace hwz := hwz.symm
  subst hwz
  go_wp2_with fail
  refine (CC.out _).mono ?_
  rintro _ wz ⟨rfl, hwz⟩
  replace hwz := hwz.symm
  subst hwz
  have k0 := blkC r_k 0 rfl
  have k1 := blkC r_k 1 rfl
  have z0 := blkF r_k 0
  have z1 := blkF r_k 1
  go_wp2
  exact bodyPost_ret (v := .agg #[.int .i64 sp, .int .i64 1]) (by simp [results, Tryz.results53, go_sem, k0, k1]) rfl ⟨rfl, ((hb0.setCell (p := ⟨w.heap.size + 1, 0, none⟩) (show w.heap.size <= w.heap.size + 1 by omega) _).setCell (p := ⟨w.heap.size + 1, 1, none⟩) (show w.heap.size <= w.heap.size + 1 by omega) _)⟩
set_option maxRecDepth 100000 in
set_option maxHeartbeats 1000000 in
theorem mTame_no (F0 F1 F2 F3 : Nat) (c0 c1 c2 c3 : Array Value) {p s : Int} (hp : rng p) (pp : pok p = true) (hs : rng s) (ps : pok s = true) (pm : pok (fprod c49 s) = true) (hc : rg p <= key (fprod c49 s)) (w : World) (hE0 : ∀ (cap : Array Value) (w : World), (callFunc F0 cap).run Tryz.prog w = .ok (.enter F0 cap) w) (C0 : ∀ W, Below w.heap.size w W -> Calls Tryz.prog F0 c0 W fun r w' => r = .returned (.tuple #[.float .f64 (wd p), .float .f64 (wd s)]) ∧ Below W.heap.size W w') {V : Int} (hE1 : ∀ (cap : Array Value) (w : World), (callFunc F1 cap).run Tryz.prog w = .ok (.enter F1 cap) w) (C1 : ∀ W, Below w.heap.size w W -> Calls Tryz.prog F1 c1 W fun r w' => ∃ o n c, r = .returned (.slice o n c) ∧ (∀ W2, Below w'.heap.size w' W2 -> Calls Tryz.prog 81 #[.slice o n c] W2 fun r2 w2 => r2 = .returned (.tuple #[.int .i64 V, .int .i64 0]) ∧ Below W2.heap.size W2 w2) ∧ Below W.heap.size W w') :
    Calls Tryz.prog 53 #[.agg #[.func (.func F0) #[] c0, .func (.func F1) #[] c1, .func (.func F2) #[] c2, .func (.func F3) #[] c3]] w fun r w' => r = .returned (.agg #[.int .i64 V, .int .i64 4]) ∧ Below w.heap.size w w' := by
  have hM := fun W => run_prodN (P := Tryz.prog) 44 (FW.pat (q_fin pok_c49) rng_c49) (FW.pat (q_fin ps) hs) (q_fin pm) W
  rw [wd_c49] at hM
  have rM : rng (fprod c49 s) := fprod_rng rng_c49 hs
  obtain ⟨q1, q2⟩ := q_rg hp
  have kR : key (rg p) = rg p := q_key q2
  have pR : pok (rg p) = true := by
    have h1 := pok_rg' hp
    have h2 := pok_rg' q1
    rw [rg_rg hp, <- h1] at h2
    rw [h2]; exact pp
  have ho : FloatKind.f64.format.order (wd (rg p)) (wd (fprod c49 s)) = some .lt ∨ FloatKind.f64.format.order (wd (rg p)) (wd (fprod c49 s)) = some .eq := by
    rcases Int.lt_or_eq_of_le hc with g | g
    . exact .inl ((q_lt q1 rM (q_fin pR) (q_fin pm) (by rw [kR]; exact g)))
    . exact .inr ((q_eq q1 rM (q_fin pR) (q_fin pm) (by rw [kR]; exact g)))
  have CA : Hid (∀ W, Calls Tryz.prog 28 #[.float .f64 (wd p)] W fun e w' => e = .returned (.float .f64 (wd (rg p))) ∧ w' = W) := fun W => mathAbs hp W
  have CC : Hid (∀ W, Calls Tryz.prog 80 #[.float .f64 (wd p), .float .f64 0] W fun r w' => r = .returned (.int .i64 (sgP p)) ∧ w' = W) := fun W => cmpFloat hp pp W
  clear hp pp hs ps pm hc rM q1 q2 kR pR
  generalize sgP p = sp at *
  generalize wd (rg p) = A at *
  generalize wd p = P at *
  generalize wd (fprod c49 s) = M at *
  generalize wd s = Z at *
  skip
  rcases ho with ho | ho
  all_goals
    obtain ⟨hb0, s_k, r_k, hsz0⟩ := blks2 w (.cells #[.func (.func F0) #[] c0, .func (.func F1) #[] c1, .func (.func F2) #[] c2, .func (.func F3) #[] c3] 71) (.cells #[.int .i64 0, .int .i64 0] 28)
    clear hsz0
    have f_s0 := blkC s_k 0 rfl
    go_enter Tryz.func53, Tryz.ntmps53
    go_wp2_with fail
    clear f_s0
    generalize ((w.alloc (.cells #[.func (.func F0) #[] c0, .func (.func F1) #[] c1, .func (.func F2) #[] c2, .func (.func F3) #[] c3] 71)).alloc (.cells #[.int .i64 0, .int .i64 0] 28)) = x0 at hb0 s_k r_k ⊢
    refine (C0 _ hb0).mono ?_
    rintro _ y1 ⟨rfl, hw1⟩
    replace s_k := blk_on hw1 s_k
    replace r_k := blk_on hw1 r_k
    replace hb0 := bel_trans hb0 hw1
    go_wp2_with fail
    refine (CA.out _).mono ?_
    rintro _ wz ⟨rfl, hwz⟩
    replace hwz := hwz.symm
    subst hwz
    have f_s1 := blkC s_k 1 rfl
    go_wp2_with fail
    clear f_s1
    refine (C1 _ hb0).mono ?_
    rintro _ y2 ⟨o, n, c, rfl, CS, hw2⟩
    replace s_k := blk_on hw2 s_k
    replace r_k := blk_on hw2 r_k
    replace hb0 := bel_trans hb0 hw2
    have CS : Hid (∀ W2, Below y2.heap.size y2 W2 -> Calls Tryz.prog 81 #[.slice o n c] W2 fun r2 w2 => r2 = .returned (.tuple #[.int .i64 V, .int .i64 0]) ∧ Below W2.heap.size W2 w2) := CS
    go_wp2_with fail
    refine (CS.out _ (bel_refl _)).mono ?_
    rintro _ y3 ⟨rfl, hw3⟩
    replace r_k := blk_on hw3 r_k
    replace hb0 := bel_trans hb0 hw3
    have k0 := blkC r_k 0 rfl
    have k1 := blkC r_k 1 rfl
    have z0 := blkF r_k 0
    have z1 := blkF r_k 1
    go_wp2
    exact bodyPost_ret (v := .agg #[.int .i64 V, .int .i64 4]) (by simp [results, Tryz.results53, go_sem, k0, k1]) rfl ⟨rfl, ((hb0.setCell (p := ⟨w.heap.size + 1, 0, none⟩) (show w.heap.size <= w.heap.size + 1 by omega) _).setCell (p := ⟨w.heap.size + 1, 1, none⟩) (show w.heap.size <= w.heap.size + 1 by omega) _)⟩
set_option maxRecDepth 100000 in
set_option maxHeartbeats 1000000 in
theorem mWild_yes (F0 F1 F2 F3 : Nat) (c0 c1 c2 c3 : Array Value) {lo hi V U E : Int} (w : World) (hE2 : ∀ (cap : Array Value) (w : World), (callFunc F2 cap).run Tryz.prog w = .ok (.enter F2 cap) w) (C2 : ∀ W, Below w.heap.size w W -> Calls Tryz.prog F2 c2 W fun r w' => r = .returned (.agg #[.int .i64 lo, .int .i64 hi]) ∧ Below W.heap.size W w')
    (CS : ∀ W, Calls Tryz.prog 82 #[.agg #[.int .i64 lo, .int .i64 hi]] W fun r w' => r = .returned (.tuple #[.int .i64 V, .bool true, .int .i64 E]) ∧ Below W.heap.size W w') :
    Calls Tryz.prog 54 #[.agg #[.func (.func F0) #[] c0, .func (.func F1) #[] c1, .func (.func F2) #[] c2, .func (.func F3) #[] c3]] w fun r w' => r = .returned (.agg #[.int .i64 V, .int .i64 5]) ∧ Below w.heap.size w w' := by
  obtain ⟨hb0, s_k, r_k, hsz0⟩ := blks2 w (.cells #[.func (.func F0) #[] c0, .func (.func F1) #[] c1, .func (.func F2) #[] c2, .func (.func F3) #[] c3] 71) (.cells #[.int .i64 0, .int .i64 0] 28)
  clear hsz0
  have f_s2 := blkC s_k 2 rfl
  go_enter Tryz.func54, Tryz.ntmps54
  go_wp2_with fail
  clear f_s2
  generalize ((w.alloc (.cells #[.func (.func F0) #[] c0, .func (.func F1) #[] c1, .func (.func F2) #[] c2, .func (.func F3) #[] c3] 71)).alloc (.cells #[.int .i64 0, .int .i64 0] 28)) = x0 at hb0 s_k r_k ⊢
  refine (C2 _ hb0).mono ?_
  rintro _ y1 ⟨rfl, hw1⟩
  replace s_k := blk_on hw1 s_k
  replace r_k := blk_on hw1 r_k
  replace hb0 := bel_trans hb0 hw1
  have CS : Hid (∀ W, Calls Tryz.prog 82 #[.agg #[.int .i64 lo, .int .i64 hi]] W fun r w' => r = .returned (.tuple #[.int .i64 V, .bool true, .int .i64 E]) ∧ Below W.heap.size W w') := CS
  go_wp2_with fail
  refine (CS.out _).mono ?_
  rintro _ y2 ⟨rfl, hw2⟩
  replace s_k := blk_on hw2 s_k
  replace r_k := blk_on hw2 r_k
  replace hb0 := bel_trans hb0 hw2
  have k0 := blkC r_k 0 rfl
  have k1 := blkC r_k 1 rfl
  have z0 := blkF r_k 0
  have z1 := blkF r_k 1
  go_wp2
  exact bodyPost_ret (v := .agg #[.int .i64 V, .int .i64 5]) (by simp [results, Tryz.results54, go_sem, k0, k1]) rfl ⟨rfl, ((hb0.setCell (p := ⟨w.heap.size + 1, 0, none⟩) (show w.heap.size <= w.heap.size + 1 by omega) _).setCell (p := ⟨w.heap.size + 1, 1, none⟩) (show w.heap.size <= w.heap.size + 1 by omega) _)⟩
set_option maxRecDepth 100000 in
set_option maxHeartbeats 1000000 in
theorem mWild_no (F0 F1 F2 F3 : Nat) (c0 c1 c2 c3 : Array Value) {lo hi V U E : Int} (w : World) (hE2 : ∀ (cap : Array Value) (w : World), (callFunc F2 cap).run Tryz.prog w = .ok (.enter F2 cap) w) (C2 : ∀ W, Below w.heap.size w W -> Calls Tryz.prog F2 c2 W fun r w' => r = .returned (.agg #[.int .i64 lo, .int .i64 hi]) ∧ Below W.heap.size W w')
    (CS : ∀ W, Calls Tryz.prog 82 #[.agg #[.int .i64 lo, .int .i64 hi]] W fun r w' => r = .returned (.tuple #[.int .i64 V, .bool false, .int .i64 E]) ∧ Below W.heap.size W w') (hE3 : ∀ (cap : Array Value) (w : World), (callFunc F3 cap).run Tryz.prog w = .ok (.enter F3 cap) w) (C3 : ∀ W, Below w.heap.size w W -> Calls Tryz.prog F3 c3 W fun r w' => ∃ g o n c e, r = .returned (.agg #[.bool g, .slice o n c, .int .i64 e]) ∧ (∀ W2, Below w'.heap.size w' W2 -> Calls Tryz.prog 83 #[.agg #[.bool g, .slice o n c, .int .i64 e]] W2 fun r2 w2 => r2 = .returned (.tuple #[.int .i64 U, .int .i64 0]) ∧ Below W2.heap.size W2 w2) ∧ Below W.heap.size W w') :
    Calls Tryz.prog 54 #[.agg #[.func (.func F0) #[] c0, .func (.func F1) #[] c1, .func (.func F2) #[] c2, .func (.func F3) #[] c3]] w fun r w' => r = .returned (.agg #[.int .i64 U, .int .i64 6]) ∧ Below w.heap.size w w' := by
  obtain ⟨hb0, s_k, r_k, hsz0⟩ := blks2 w (.cells #[.func (.func F0) #[] c0, .func (.func F1) #[] c1, .func (.func F2) #[] c2, .func (.func F3) #[] c3] 71) (.cells #[.int .i64 0, .int .i64 0] 28)
  clear hsz0
  have f_s2 := blkC s_k 2 rfl
  go_enter Tryz.func54, Tryz.ntmps54
  go_wp2_with fail
  clear f_s2
  generalize ((w.alloc (.cells #[.func (.func F0) #[] c0, .func (.func F1) #[] c1, .func (.func F2) #[] c2, .func (.func F3) #[] c3] 71)).alloc (.cells #[.int .i64 0, .int .i64 0] 28)) = x0 at hb0 s_k r_k ⊢
  refine (C2 _ hb0).mono ?_
  rintro _ y1 ⟨rfl, hw1⟩
  replace s_k := blk_on hw1 s_k
  replace r_k := blk_on hw1 r_k
  replace hb0 := bel_trans hb0 hw1
  have CS : Hid (∀ W, Calls Tryz.prog 82 #[.agg #[.int .i64 lo, .int .i64 hi]] W fun r w' => r = .returned (.tuple #[.int .i64 V, .bool false, .int .i64 E]) ∧ Below W.heap.size W w') := CS
  go_wp2_with fail
  refine (CS.out _).mono ?_
  rintro _ y2 ⟨rfl, hw2⟩
  replace s_k := blk_on hw2 s_k
  replace r_k := blk_on hw2 r_k
  replace hb0 := bel_trans hb0 hw2
  have f_s3 := blkC s_k 3 rfl
  go_wp2_with fail
  clear f_s3
  refine (C3 _ hb0).mono ?_
  rintro _ y3 ⟨g, o, n, c, e, rfl, CD, hw3⟩
  replace r_k := blk_on hw3 r_k
  replace hb0 := bel_trans hb0 hw3
  have CD : Hid (∀ W2, Below y3.heap.size y3 W2 -> Calls Tryz.prog 83 #[.agg #[.bool g, .slice o n c, .int .i64 e]] W2 fun r2 w2 => r2 = .returned (.tuple #[.int .i64 U, .int .i64 0]) ∧ Below W2.heap.size W2 w2) := CD
  go_wp2_with fail
  refine (CD.out _ (bel_refl _)).mono ?_
  rintro _ y4 ⟨rfl, hw4⟩
  replace r_k := blk_on hw4 r_k
  replace hb0 := bel_trans hb0 hw4
  have k0 := blkC r_k 0 rfl
  have k1 := blkC r_k 1 rfl
  have z0 := blkF r_k 0
  have z1 := blkF r_k 1
  go_wp2
  exact bodyPost_ret (v := .agg #[.int .i64 U, .int .i64 6]) (by simp [results, Tryz.results54, go_sem, k0, k1]) rfl ⟨rfl, ((hb0.setCell (p := ⟨w.heap.size + 1, 0, none⟩) (show w.heap.size <= w.heap.size + 1 by omega) _).setCell (p := ⟨w.heap.size + 1, 1, none⟩) (show w.heap.size <= w.heap.size + 1 by omega) _)⟩
set_option maxRecDepth 100000 in
set_option maxHeartbeats 1000000 in
theorem mVerdict_tame (F0 F1 F2 F3 : Nat) (c0 c1 c2 c3 : Array Value) {ao : Option Addr} {n cap : Nat} {V U : Int} (w : World) (CT : ∀ W, Below w.heap.size w W -> Calls Tryz.prog 52 #[.slice ao n cap] W fun r w' => r = .returned (.bool true) ∧ Below W.heap.size W w') (CV : ∀ W, Below w.heap.size w W -> Calls Tryz.prog 53 #[.agg #[.func (.func F0) #[] c0, .func (.func F1) #[] c1, .func (.func F2) #[] c2, .func (.func F3) #[] c3]] W fun r w' => r = .returned (.agg #[.int .i64 V, .int .i64 U]) ∧ Below W.heap.size W w') :
    Calls Tryz.prog 25 #[.agg #[.func (.func F0) #[] c0, .func (.func F1) #[] c1, .func (.func F2) #[] c2, .func (.func F3) #[] c3], .slice ao n cap] w fun r w' => r = .returned (.tuple #[.agg #[.int .i64 V, .int .i64 U], .int .i64 0]) ∧ Below w.heap.size w w' := by
  obtain ⟨hb0, s_k, r_k, hsz0⟩ := blks2 w (.cells #[.func (.func F0) #[] c0, .func (.func F1) #[] c1, .func (.func F2) #[] c2, .func (.func F3) #[] c3] 71) (.cells #[.int .i64 0, .int .i64 0] 28)
  clear hsz0
  go_enter Tryz.func25, Tryz.ntmps25
  go_wp2_with fail
  generalize ((w.alloc (.cells #[.func (.func F0) #[] c0, .func (.func F1) #[] c1, .func (.func F2) #[] c2, .func (.func F3) #[] c3] 71)).alloc (.cells #[.int .i64 0, .int .i64 0] 28)) = x0 at hb0 s_k r_k ⊢
  refine (CT _ hb0).mono ?_
  rintro _ y1 ⟨rfl, hw1⟩
  replace s_k := blk_on hw1 s_k
  replace r_k := blk_on hw1 r_k
  replace hb0 := bel_trans hb0 hw1
  have CV : Hid (∀ W, Below w.heap.size w W -> Calls Tryz.prog 53 #[.agg #[.func (.func F0) #[] c0, .func (.func F1) #[] c1, .func (.func F2) #[] c2, .func (.func F3) #[] c3]] W fun r w' => r = .returned (.agg #[.int .i64 V, .int .i64 U]) ∧ Below W.heap.size W w') := CV
  have f_s0 := blkC s_k 0 rfl
  have f_s1 := blkC s_k 1 rfl
  have f_s2 := blkC s_k 2 rfl
  have f_s3 := blkC s_k 3 rfl
  go_wp2_with fail
  clear f_s0 f_s1 f_s2 f_s3
  refine (CV.out _ hb0).mono ?_
  rintro _ y3 ⟨rfl, hw1⟩
  replace s_k := blk_on hw1 s_k
  replace r_k := blk_on hw1 r_k
  replace hb0 := bel_trans hb0 hw1
  have k0 := blkC r_k 0 rfl
  have k1 := blkC r_k 1 rfl
  have z0 := blkF r_k 0
  have z1 := blkF r_k 1
  go_wp2
  exact bodyPost_ret (v := .tuple #[.agg #[.int .i64 V, .int .i64 U], .int .i64 0]) (by simp [results, Tryz.results25, go_sem, k0, k1]) rfl ⟨rfl, by first | exact hb0 | exact ((hb0.setCell (p := ⟨w.heap.size + 1, 0, none⟩) (show w.heap.size <= w.heap.size + 1 by omega) _).setCell (p := ⟨w.heap.size + 1, 1, none⟩) (show w.heap.size <= w.heap.size + 1 by omega) _)⟩
set_option maxRecDepth 100000 in
set_option maxHeartbeats 1000000 in
theorem mVerdict_wild (F0 F1 F2 F3 : Nat) (c0 c1 c2 c3 : Array Value) {ao : Option Addr} {n cap : Nat} {V U : Int} (w : World) (CT : ∀ W, Below w.heap.size w W -> Calls Tryz.prog 52 #[.slice ao n cap] W fun r w' => r = .returned (.bool false) ∧ Below W.heap.size W w') (CG : ∀ W, Below w.heap.size w W -> Calls Tryz.prog 35 #[.slice ao n cap] W fun r w' => r = .returned (.bool true) ∧ Below W.heap.size W w') (CV : ∀ W, Below w.heap.size w W -> Calls Tryz.prog 54 #[.agg #[.func (.func F0) #[] c0, .func (.func F1) #[] c1, .func (.func F2) #[] c2, .func (.func F3) #[] c3]] W fun r w' => r = .returned (.agg #[.int .i64 V, .int .i64 U]) ∧ Below W.heap.size W w') :
    Calls Tryz.prog 25 #[.agg #[.func (.func F0) #[] c0, .func (.func F1) #[] c1, .func (.func F2) #[] c2, .func (.func F3) #[] c3], .slice ao n cap] w fun r w' => r = .returned (.tuple #[.agg #[.int .i64 V, .int .i64 U], .int .i64 0]) ∧ Below w.heap.size w w' := by
  obtain ⟨hb0, s_k, r_k, hsz0⟩ := blks2 w (.cells #[.func (.func F0) #[] c0, .func (.func F1) #[] c1, .func (.func F2) #[] c2, .func (.func F3) #[] c3] 71) (.cells #[.int .i64 0, .int .i64 0] 28)
  clear hsz0
  go_enter Tryz.func25, Tryz.ntmps25
  go_wp2_with fail
  generalize ((w.alloc (.cells #[.func (.func F0) #[] c0, .func (.func F1) #[] c1, .func (.func F2) #[] c2, .func (.func F3) #[] c3] 71)).alloc (.cells #[.int .i64 0, .int .i64 0] 28)) = x0 at hb0 s_k r_k ⊢
  refine (CT _ hb0).mono ?_
  rintro _ y1 ⟨rfl, hw1⟩
  replace s_k := blk_on hw1 s_k
  replace r_k := blk_on hw1 r_k
  replace hb0 := bel_trans hb0 hw1
  have CG : Hid (∀ W, Below w.heap.size w W -> Calls Tryz.prog 35 #[.slice ao n cap] W fun r w' => r = .returned (.bool true) ∧ Below W.heap.size W w') := CG
  go_wp2_with fail
  refine (CG.out _ hb0).mono ?_
  rintro _ y2 ⟨rfl, hw1⟩
  replace s_k := blk_on hw1 s_k
  replace r_k := blk_on hw1 r_k
  replace hb0 := bel_trans hb0 hw1
  have CV : Hid (∀ W, Below w.heap.size w W -> Calls Tryz.prog 54 #[.agg #[.func (.func F0) #[] c0, .func (.func F1) #[] c1, .func (.func F2) #[] c2, .func (.func F3) #[] c3]] W fun r w' => r = .returned (.agg #[.int .i64 V, .int .i64 U]) ∧ Below W.heap.size W w') := CV
  have f_s0 := blkC s_k 0 rfl
  have f_s1 := blkC s_k 1 rfl
  have f_s2 := blkC s_k 2 rfl
  have f_s3 := blkC s_k 3 rfl
  go_wp2_with fail
  clear f_s0 f_s1 f_s2 f_s3
  refine (CV.out _ hb0).mono ?_
  rintro _ y3 ⟨rfl, hw1⟩
  replace s_k := blk_on hw1 s_k
  replace r_k := blk_on hw1 r_k
  replace hb0 := bel_trans hb0 hw1
  have k0 := blkC r_k 0 rfl
  have k1 := blkC r_k 1 rfl
  have z0 := blkF r_k 0
  have z1 := blkF r_k 1
  go_wp2
  exact bodyPost_ret (v := .tuple #[.agg #[.int .i64 V, .int .i64 U], .int .i64 0]) (by simp [results, Tryz.results25, go_sem, k0, k1]) rfl ⟨rfl, by first | exact hb0 | exact ((hb0.setCell (p := ⟨w.heap.size + 1, 0, none⟩) (show w.heap.size <= w.heap.size + 1 by omega) _).setCell (p := ⟨w.heap.size + 1, 1, none⟩) (show w.heap.size <= w.heap.size + 1 by omega) _)⟩
theorem XR.from {w0 w w' : World} {ok : Bool} {s : Ls} {r : Ending} (h : XR w ok s r w') (hb : Below w0.heap.size w0 w) : XR w0 ok s r w' := by
  obtain ⟨h1, h2⟩ := h
  refine ⟨?_, bel_trans hb h2⟩
  rcases h1 with ⟨a, v, b, c⟩ | h
  . exact .inl ⟨a, v, b, c.lower hb.size⟩
  . exact .inr h
def trn (f : Nat -> Int) (k : Nat) : Nat -> Int := fun i => if i < k then neg (f i) else f i
theorem trn_upd (f : Nat -> Int) (k : Nat) : upd (trn f k) k (neg (f k)) = trn f (k + 1) := by
  funext i
  by_cases e : i = k
  . subst e; rw [upd_same]; unfold trn; rw [if_pos (by omega)]
  . rw [upd_other _ _ e]; unfold trn
    by_cases h : i < k
    . rw [if_pos h, if_pos (by omega)]
    . rw [if_neg h, if_neg (by omega)]
set_option maxRecDepth 100000 in
set_option maxHeartbeats 1000000 in
theorem xdiff_any {eo fo : Option Addr} {n ec m fc : Nat} {d f : Nat -> Int} (w : World) (h : Row w eo n ec d) (hf : Row w fo m fc f) (hd : ∀ i, i < n -> rng (d i) ∧ pok (d i) = true) (hff : ∀ i, i < m -> rng (f i) ∧ pok (f i) = true) (hn : n + m <= 600000) (H : Hold4 w) :
    Calls Tryz.prog 63 #[.slice eo n ec, .slice fo m fc] w fun r w' => XR w (gaX ⟨n, d⟩ (fun i => neg (f i)) m) (gaS ⟨n, d⟩ (fun i => neg (f i)) m) r w' := by
  have CO := xown_any w hf (by omega)
  have HF : Hid (∀ i, i < m -> rng (f i) ∧ pok (f i) = true) := hff
  have HH : Hid (Hold4 w) := H
  have CS : Hid (∀ W vo vc, Below w.heap.size w W -> Row W vo m vc (fun i => neg (f i)) -> Calls Tryz.prog 62 #[.slice eo n ec, .slice vo m vc] W fun r w' => XR w (gaX ⟨n, d⟩ (fun i => neg (f i)) m) (gaS ⟨n, d⟩ (fun i => neg (f i)) m) r w') := fun W vo vc hW hR =>
    (xsum_any W (h.keeps hW) hR hd (fun i hi => ⟨neg_rng (hff i hi).1, (neg_facts (hff i hi).1 (hff i hi).2).2.1⟩) (by omega)).mono fun _ _ hx => hx.from hW
  generalize gaX ⟨n, d⟩ (fun i => neg (f i)) m = X at *
  generalize gaS ⟨n, d⟩ (fun i => neg (f i)) m = S at *
  clear h hf hff H hd
  go_enter Tryz.func63, Tryz.ntmps63
  go_wp2_with fail
  refine CO.mono ?_
  rintro _ w1 ⟨v, rfl, hL, hg⟩
  obtain ⟨ao, cc, rfl, hRR⟩ := hL.row
  have hcm := hRR.max
  have hcl := hRR.le
  have HL : Hid (LsO w.heap.size w1 (.slice ao m cc) ⟨m, f⟩) := hL
  have HB1 : Hid (Below w.heap.size w w1) := grown_below hg
  clear hL hg CO hRR
  go_wp2_with fail
  go_loopw [12] (fun iv wr => ∃ k : Nat, k <= m ∧ iv = .int .i64 k ∧ Hid (LsO w.heap.size wr (.slice ao m cc) ⟨m, trn f k⟩) ∧ Hid (Below w.heap.size w wr)) (fun iv _ => m - (intOf iv).toNat)
  case atStart =>
    refine ⟨0, Nat.zero_le _, rfl, ?_, HB1⟩
    have e : trn f 0 = f := by funext i; unfold trn; rw [if_neg (by omega)]
    rw [e]
    exact HL
  case round =>
    obtain ⟨k, hk, rfl, HLk, HBW⟩ := hrel
    clear HL HB1
    have hsz := HBW.out.size
    by_cases hlt : k < m
    . have hO : Out w.heap.size wr (.slice ao m cc) m (trn f k) := by
        rcases HLk.out with h | ⟨h0, _⟩
        . exact h
        . have h0' : m = 0 := h0
          omega
      obtain ⟨g, rfl, hg1, hg2⟩ := hO.spot (by omega)
      have c0 := hO.cell hlt
      have e0 : trn f k k = f k := by unfold trn; rw [if_neg (by omega)]
      rw [e0] at c0
      obtain ⟨rk, pk⟩ := HF.out k hlt
      have CN : Hid (∀ W, Below w.heap.size w W -> Calls Tryz.prog 93 #[.int .i64 (f k)] W fun e w' => e = .returned (.int .i64 (neg (f k))) ∧ Below W.heap.size W w') := fun W hW => (bitsNeg _ W (HH.out.keeps hW).env.lays rk).mono fun _ _ ⟨h1, h2⟩ => ⟨h1, h2.be⟩
      have HT : Hid (upd (trn f k) k (neg (f k)) = trn f (k + 1)) := trn_upd f k
      have HO : Hid (Out w.heap.size wr (.slice (some ⟨g, 0, none⟩) m cc) m (trn f k)) := hO
      clear hO e0 rk pk
      generalize neg (f k) = nk at *
      generalize f k = fk at *
      have i0 : (0 : Int) <= (k : Int) := by omega
      have i1 : (k : Int) < (m : Int) := by omega
      go_wp2_with fail
      refine (CN.out _ HBW.out).mono ?_
      rintro _ w2 ⟨rfl, hb2⟩
      have hO2 := HO.out.stays hb2
      have c2 := hO2.cell hlt
      have fz := hO2.frozen k
      have HO2 : Hid (Out w.heap.size w2 (.slice (some ⟨g, 0, none⟩) m cc) m (trn f k)) := hO2
      have HB2 : Hid (Below w.heap.size w w2) := HBW.out.trans (hb2.mono hsz)
      clear hO2 hb2
      generalize trn f k k = tk at *
      go_wp2
      go_roundw
      case rel =>
        refine ⟨k + 1, by omega, by go_num, ?_, HB2.out.setCell hg1 _⟩
        have := HO2.out.store hlt nk
        rw [HT.out] at this
        exact .inl this
      case measure => simp [intOf]; omega
    . obtain rfl : k = m := by omega
      obtain ⟨ao', cc', e1, hR⟩ := HLk.out.row
      simp only [Value.slice.injEq] at e1
      obtain ⟨rfl, _, rfl⟩ := e1
      have hR2 : Row wr ao k cc (fun i => neg (f i)) := hR.congr fun i hi => by
        show trn f k i = _
        unfold trn
        rw [if_pos hi]
      clear hR
      go_wp2_with fail
      refine (CS.out _ _ _ HBW.out hR2).mono ?_
      rintro _ w2 ⟨(⟨h1, v', rfl, h3⟩ | ⟨h1, rfl⟩), h4⟩
      . obtain ⟨ao', cc', rfl⟩ := h3.shape
        go_wp2
        go_ret
        exact ⟨.inl ⟨h1, _, rfl, h3⟩, h4⟩
      . unfold gaveX
        go_wp2
        exact ⟨rfl, .inr ⟨h1, rfl⟩, h4⟩
set_option maxRecDepth 100000 in
theorem xDiff {eo fo : Option Addr} {n ec m fc : Nat} {d f : Nat -> Int} (w : World) (h : Row w eo n ec d) (hf : Row w fo m fc f) (hr : ∀ i, i < n -> rng (d i)) (hrf : ∀ i, i < m -> rng (f i)) (hv : xval d n = true) (hu : xval f m = true) (hn : n + m <= 300000) (H : Hold4 w) :
    Calls Tryz.prog 39 #[.slice eo n ec, .slice fo m fc] w fun r w' => XA w (gaX ⟨n, d⟩ (fun i => neg (f i)) m) (gaS ⟨n, d⟩ (fun i => neg (f i)) m) r w' := by
  have hEG : ∀ (cap : Array Value) (w : World), (callFunc 63 cap).run Tryz.prog w = .ok (.enter 63 cap) w := by
    intro cap w
    simp [go_sem]
  have hd : ∀ i, i < n -> rng (d i) ∧ pok (d i) = true := fun i hi => ⟨hr i hi, xval_fin hv i hi⟩
  have hff : ∀ i, i < m -> rng (f i) ∧ pok (f i) = true := fun i hi => ⟨hrf i hi, xval_fin hu i hi⟩
  have CW := xwl_ok 63 w (gaX ⟨n, d⟩ (fun i => neg (f i)) m) (gaS ⟨n, d⟩ (fun i => neg (f i)) m) hEG h hf hv hu H (fun W hW => xdiff_any W (h.keeps hW) (hf.keeps hW) hd hff (by omega) (H.keeps hW))
  generalize gaX ⟨n, d⟩ (fun i => neg (f i)) m = X at *
  generalize gaS ⟨n, d⟩ (fun i => neg (f i)) m = S at *
  go_enter Tryz.func39, Tryz.ntmps39
  go_wp2_with fail
  refine CW.mono ?_
  rintro _ w1 ⟨(⟨h1, v, rfl, h2⟩ | ⟨h1, rfl⟩), hb⟩
  . obtain ⟨ao, cc, rfl⟩ := h2.shape
    go_wp2
    refine bodyPost_ret (v := .tuple #[.slice ao S.n cc, .int .i64 0]) (by simp [results, Tryz.results39, go_sem]) rfl ⟨.inl ⟨h1, _, rfl, h2⟩, hb⟩
  . go_wp2
    refine bodyPost_ret (v := .tuple #[.slice none 0 0, .int .i64 14]) (by simp [results, Tryz.results39, go_sem]) rfl ⟨.inr ⟨h1, rfl⟩, hb⟩
set_option maxRecDepth 100000 in
theorem xProduct {eo fo : Option Addr} {n ec m fc : Nat} {d f : Nat -> Int} (w : World) (h : Row w eo n ec d) (hf : Row w fo m fc f) (hr : ∀ i, i < n -> rng (d i)) (hrf : ∀ i, i < m -> rng (f i)) (hv : xval d n = true) (hu : xval f m = true) (hn : n <= 200) (hm : m <= 200) (H : Hold4 w) :
    Calls Tryz.prog 40 #[.slice eo n ec, .slice fo m fc] w fun r w' => XA w (prX d n f m) (prS d n f m) r w' := by
  have hEG : ∀ (cap : Array Value) (w : World), (callFunc 64 cap).run Tryz.prog w = .ok (.enter 64 cap) w := by
    intro cap w
    simp [go_sem]
  have hd : ∀ i, i < n -> rng (d i) ∧ pok (d i) = true := fun i hi => ⟨hr i hi, xval_fin hv i hi⟩
  have hff : ∀ i, i < m -> rng (f i) ∧ pok (f i) = true := fun i hi => ⟨hrf i hi, xval_fin hu i hi⟩
  have CW := xwl_ok 64 w (prX d n f m) (prS d n f m) hEG h hf hv hu H (fun W hW => xproduct_any W (h.keeps hW) (hf.keeps hW) hd hff hn hm (H.keeps hW))
  generalize prX d n f m = X at *
  generalize prS d n f m = S at *
  go_enter Tryz.func40, Tryz.ntmps40
  go_wp2_with fail
  refine CW.mono ?_
  rintro _ w1 ⟨(⟨h1, v, rfl, h2⟩ | ⟨h1, rfl⟩), hb⟩
  . obtain ⟨ao, cc, rfl⟩ := h2.shape
    go_wp2
    refine bodyPost_ret (v := .tuple #[.slice ao S.n cc, .int .i64 0]) (by simp [results, Tryz.results40, go_sem]) rfl ⟨.inl ⟨h1, _, rfl, h2⟩, hb⟩
  . go_wp2
    refine bodyPost_ret (v := .tuple #[.slice none 0 0, .int .i64 14]) (by simp [results, Tryz.results40, go_sem]) rfl ⟨.inr ⟨h1, rfl⟩, hb⟩
theorem told_finM {p : Int} (h : pok p = true) : told p = p := by unfold told; rw [if_neg (q_fin h)]
set_option maxRecDepth 100000 in
theorem aFloats {p q : Int} (hp : Mz p) (hq : Mz q) (w : World) (H : Hold4 w) :
    Calls Tryz.prog 60 #[.int .i64 p, .int .i64 q] w fun r w' => r = .returned (.tuple #[.float .f64 (wd (fsum p (neg q))), .float .f64 (wd (sL p (neg q)))]) ∧ Below w.heap.size w w' := by
  obtain ⟨n1, n2, n3⟩ := neg_facts hq.1 hq.2.1
  have CT : Hid (∀ W, Hold4 W -> Calls Tryz.prog 87 #[.int .i64 p, .int .i64 q] W fun e w' => e = .returned (.tuple #[.int .i64 (fsum p (neg q)), .int .i64 (sL p (neg q)), .bool (pok (sL p (neg q)))]) ∧ Below W.heap.size W w') := fun W h => by
    have := twoDiff_any hp.1 hq.1 W h.env.lays
    rw [told_finM hp.2.1, told_finM n2] at this
    exact this
  have C1 : Hid (∀ W, Calls Tryz.prog 84 #[.int .i64 (fsum p (neg q))] W fun e w' => e = .returned (.float .f64 (wd (fsum p (neg q)))) ∧ w' = W) := fun W => bitsFloat _ W
  have C2 : Hid (∀ W, Calls Tryz.prog 84 #[.int .i64 (sL p (neg q))] W fun e w' => e = .returned (.float .f64 (wd (sL p (neg q)))) ∧ w' = W) := fun W => bitsFloat _ W
  clear hp hq n1 n2 n3
  generalize wd (fsum p (neg q)) = Wa at *
  generalize wd (sL p (neg q)) = Wb at *
  generalize pok (sL p (neg q)) = Wc at *
  generalize fsum p (neg q) = a at *
  generalize sL p (neg q) = b at *
  go_enter Tryz.func60, Tryz.ntmps60
  go_wp2_with fail
  refine (CT.out _ H).mono ?_
  rintro _ y1 ⟨rfl, hw1⟩
  go_wp2_with fail
  refine (C1.out _).mono ?_
  rintro _ wz ⟨rfl, hwz⟩
  replace hwz := hwz.symm
  subst hwz
  go_wp2_with fail
  refine (C2.out _).mono ?_
  rintro _ wz ⟨rfl, hwz⟩
  replace hwz := hwz.symm
  subst hwz
  go_wp2
  exact bodyPost_ret (v := .tuple #[.float .f64 Wa, .float .f64 Wb]) (by simp [results, Tryz.results60, go_sem]) rfl ⟨rfl, hw1⟩
theorem nil_order {f : Int} (hf : rng f) (pf : pok f = true) : (rg f = 0 -> FloatKind.f64.format.order (wd f) 0 = some .eq) ∧ (¬ rg f = 0 -> FloatKind.f64.format.order (wd f) 0 = some .lt ∨ FloatKind.f64.format.order (wd f) 0 = some .gt) := by
  have r0 : rng 0 := by unfold rng; decide
  have p0 : pok 0 = true := by decide
  have k0 : key 0 = 0 := by decide
  have kz : key f = 0 ↔ rg f = 0 := by
    unfold key rg
    unfold rng at hf
    split <;> omega
  refine ⟨fun h => ?_, fun h => ?_⟩
  . have := q_eq hf r0 (q_fin pf) (q_fin p0) (by rw [k0]; exact kz.2 h)
    rw [wd_nil] at this
    exact this
  . rcases Int.lt_trichotomy (key f) 0 with g | g | g
    . have := q_lt hf r0 (q_fin pf) (q_fin p0) (by rw [k0]; exact g)
      rw [wd_nil] at this
      exact .inl this
    . exact absurd (kz.1 g) h
    . have := q_gt hf r0 (q_fin pf) (q_fin p0) (by rw [k0]; exact g)
      rw [wd_nil] at this
      exact .inr this
def s0L : Ls := ⟨0, fun _ => 0⟩
theorem grow_bel {N : Nat} {w w1 : World} {o : Obj} {v : Value} {s : Nat} {d : Nat -> Int} (h : Out N w v s d) (g : (w.alloc o).grownBy w1 v.ownBlock) (hN : N <= w.heap.size) : Below N w w1 := by
  have ha := bel_alloc w o
  refine ⟨g.os.trans ha.os, g.tape.trans ha.tape, g.output.trans ha.output, Nat.le_trans ha.size g.size, fun k hk => ?_⟩
  have hk' := Nat.lt_of_lt_of_le hk hN
  refine (g.block k (Nat.lt_of_lt_of_le hk' ha.size) fun e => ?_).trans (ha.block k hk')
  have := (h.ge e.symm).1
  omega
theorem add_out {B : Nat} {w : World} {v : Value} {s : Ls} {b : Int} (h0 : ¬ rg b = 0) (h : Out B w v (s.n + 1) (cat s.d s.n (fun _ => b))) : Out B w v (s.add b).n (s.add b).d := by
  have e : s.add b = ⟨s.n + 1, upd s.d s.n b⟩ := by unfold Ls.add; rw [if_neg h0]
  rw [e]
  refine h.congr fun i hi => ?_
  by_cases e : i < s.n
  . simp [cat, e, upd_other s.d _ (show i ≠ s.n by omega)]
  . obtain rfl : i = s.n := by omega
    simp [cat, upd_same]
def ptL (h t : Int) : Nat -> Ls
  | 0 => s0L
  | 1 => s0L.add t
  | _ => (s0L.add t).add h
def ptF (h t : Int) (k : Nat) : Int := if k = 0 then t else h
theorem ptL_succ (h t : Int) {k : Nat} (hk : k < 2) : ptL h t (k + 1) = (ptL h t k).add (ptF h t k) := by
  match k, hk with
  | 0, _ => rfl
  | 1, _ => rfl
theorem ptL_n (h t : Int) : ∀ {k : Nat}, k <= 2 -> (ptL h t k).n <= 2 := fun {k} hk => by
  have a1 : ∀ (s : Ls) (b : Int), (s.add b).n <= s.n + 1 := fun s b => (s.add_le b).2
  match k, hk with
  | 0, _ => exact Nat.zero_le _
  | 1, _ => exact Nat.le_trans (a1 _ _) (by show 0 + 1 <= 2; omega)
  | 2, _ => exact Nat.le_trans (a1 _ _) (Nat.succ_le_succ (a1 _ _))
set_option maxRecDepth 100000 in
set_option maxHeartbeats 1000000 in
theorem aParts {h t : Int} (rh : rng h) (ph : pok h = true) (rt : rng t) (pt : pok t = true) (w : World) :
    Calls Tryz.prog 59 #[.float .f64 (wd h), .float .f64 (wd t)] w fun r w' => ∃ v, r = .returned v ∧ Out w.heap.size w' v (ptL h t 2).n (ptL h t 2).d ∧ Below w.heap.size w w' := by
  have CO : Hid (∀ k W, k < 2 -> Calls Tryz.prog 86 #[.float .f64 (wd (ptF h t k))] W fun e w' => e = .returned (.int .i64 (ptF h t k)) ∧ w' = W) := fun k W _ => by
    unfold ptF
    split
    . exact of_FW (FW.pat (q_fin pt) rt) W
    . exact of_FW (FW.pat (q_fin ph) rh) W
  have HN : Hid (∀ k, k < 2 -> (rg (ptF h t k) = 0 -> FloatKind.f64.format.order (wd (ptF h t k)) 0 = some .eq) ∧ (¬ rg (ptF h t k) = 0 -> FloatKind.f64.format.order (wd (ptF h t k)) 0 = some .lt ∨ FloatKind.f64.format.order (wd (ptF h t k)) 0 = some .gt)) := fun k _ => by
    unfold ptF
    split
    . exact nil_order rt pt
    . exact nil_order rh ph
  have HR : Hid (∀ k, k < 2 -> rng (ptF h t k)) := fun k _ => by unfold ptF; split <;> assumption
  have hix0 : ∀ w, (Instr.index 117 (.agg #[.float .f64 (wd t), .float .f64 (wd h)]) (.int .i64 0)).run Tryz.prog w = .ok (.float .f64 (wd t)) w := fun _ => by kernel_rfl
  have hix1 : ∀ w, (Instr.index 117 (.agg #[.float .f64 (wd t), .float .f64 (wd h)]) (.int .i64 1)).run Tryz.prog w = .ok (.float .f64 (wd h)) w := fun _ => by kernel_rfl
  clear rh ph rt pt
  go_enter Tryz.func59, Tryz.ntmps59
  go_wp2_with fail
  go_loopw [5, 11] (fun v i wr => ∃ k : Nat, k <= 2 ∧ i = .int .i64 k ∧ Hid (Out w.heap.size wr v (ptL h t k).n (ptL h t k).d) ∧ Below w.heap.size w wr) (fun _ i _ => 2 - (intOf i).toNat)
  case atStart => exact ⟨0, by omega, rfl, Out.nil _ _ _, bel_refl _⟩
  case round =>
    obtain ⟨k, hk, rfl, HO, hbw⟩ := hrel
    by_cases hlt : k < 2
    . rcases (show k = 0 ∨ k = 1 by omega) with rfl | rfl
      . have CK : Hid (∀ W, Calls Tryz.prog 86 #[.float .f64 (wd t)] W fun e w' => e = .returned (.int .i64 t) ∧ w' = W) := fun W => CO.out 0 W (by omega)
        have HK : (rg t = 0 -> FloatKind.f64.format.order (wd t) 0 = some .eq) ∧ (¬ rg t = 0 -> FloatKind.f64.format.order (wd t) 0 = some .lt ∨ FloatKind.f64.format.order (wd t) 0 = some .gt) := HN.out 0 (by omega)
        have rK : rng t := HR.out 0 (by omega)
        have hN := ptL_n h t (show 0 <= 2 by omega)
        by_cases h0 : rg t = 0
        . have ho := HK.1 h0
          have HE : Hid (ptL h t (0 + 1) = ptL h t 0) := (ptL_succ h t (by omega)).trans (if_pos h0)
          clear HK h0 CK
          go_wp2
          go_roundw
          case rel => exact ⟨0 + 1, by omega, by go_num, (show Out w.heap.size wr _ (ptL h t (0 + 1)).n (ptL h t (0 + 1)).d by rw [HE.out]; exact HO.out), hbw⟩
          case measure => simp [intOf]
        . have ho := HK.2 h0
          have HE : Hid (ptL h t (0 + 1) = (ptL h t 0).add t) := ptL_succ h t (by omega)
          have H0 : Hid (¬ rg t = 0) := h0
          clear HK h0
          rcases ho with ho | ho
          all_goals
            go_wp2_with (first
              | (go_at_call 86; refine (CK.out _).mono ?_; rintro _ wz ⟨rfl, hwz⟩; replace hwz := hwz.symm; subst hwz)
              | (at_builtin; refine wpList_app rfl _ _ rfl w.heap.size _ (ptL h t 0).n (ptL h t 0).d rfl (HO.out.stays (bel_alloc _ _)) _ 1 1 (fun _ => t) rfl (row1 _ _ rfl) (by omega) (Nat.le_trans hbw.size (bel_alloc _ _).size) ?_; intro v' w1 hO1 hg1))
            go_roundw
            case rel => exact ⟨0 + 1, by omega, by go_num, (show Out w.heap.size _ _ (ptL h t (0 + 1)).n (ptL h t (0 + 1)).d by rw [HE.out]; exact add_out H0.out hO1), hbw.trans (grow_bel HO.out hg1 hbw.size)⟩
            case measure => simp [intOf]
      . have CK : Hid (∀ W, Calls Tryz.prog 86 #[.float .f64 (wd h)] W fun e w' => e = .returned (.int .i64 h) ∧ w' = W) := fun W => CO.out 1 W (by omega)
        have HK : (rg h = 0 -> FloatKind.f64.format.order (wd h) 0 = some .eq) ∧ (¬ rg h = 0 -> FloatKind.f64.format.order (wd h) 0 = some .lt ∨ FloatKind.f64.format.order (wd h) 0 = some .gt) := HN.out 1 (by omega)
        have rK : rng h := HR.out 1 (by omega)
        have hN := ptL_n h t (show 1 <= 2 by omega)
        by_cases h0 : rg h = 0
        . have ho := HK.1 h0
          have HE : Hid (ptL h t (1 + 1) = ptL h t 1) := (ptL_succ h t (by omega)).trans (if_pos h0)
          clear HK h0 CK
          go_wp2
          go_roundw
          case rel => exact ⟨1 + 1, by omega, by go_num, (show Out w.heap.size wr _ (ptL h t (1 + 1)).n (ptL h t (1 + 1)).d by rw [HE.out]; exact HO.out), hbw⟩
          case measure => simp [intOf]
        . have ho := HK.2 h0
          have HE : Hid (ptL h t (1 + 1) = (ptL h t 1).add h) := ptL_succ h t (by omega)
          have H0 : Hid (¬ rg h = 0) := h0
          clear HK h0
          rcases ho with ho | ho
          all_goals
            go_wp2_with (first
              | (go_at_call 86; refine (CK.out _).mono ?_; rintro _ wz ⟨rfl, hwz⟩; replace hwz := hwz.symm; subst hwz)
              | (at_builtin; refine wpList_app rfl _ _ rfl w.heap.size _ (ptL h t 1).n (ptL h t 1).d rfl (HO.out.stays (bel_alloc _ _)) _ 1 1 (fun _ => h) rfl (row1 _ _ rfl) (by omega) (Nat.le_trans hbw.size (bel_alloc _ _).size) ?_; intro v' w1 hO1 hg1))
            go_roundw
            case rel => exact ⟨1 + 1, by omega, by go_num, (show Out w.heap.size _ _ (ptL h t (1 + 1)).n (ptL h t (1 + 1)).d by rw [HE.out]; exact add_out H0.out hO1), hbw.trans (grow_bel HO.out hg1 hbw.size)⟩
            case measure => simp [intOf]
    . obtain rfl : k = 2 := by omega
      go_wp2
      go_ret
      exact ⟨_, rfl, HO.out, hbw⟩
def XLs (w : World) (v : Value) (s : Ls) : Prop := ∃ ao cap, v = .slice ao s.n cap ∧ Row w ao s.n cap s.d
theorem XLs.keeps {w w' : World} {v : Value} {s : Ls} (h : XLs w v s) (hb : Below w.heap.size w w') : XLs w' v s := by
  obtain ⟨ao, cap, e, hR⟩ := h
  exact ⟨ao, cap, e, hR.keeps hb⟩
set_option maxRecDepth 100000 in
theorem aExp {p q : Int} (hp : Mz p) (hq : Mz q) (w : World) (H : Hold4 w) :
    Calls Tryz.prog 37 #[.int .i64 p, .int .i64 q] w fun r w' => ∃ o c, r = .returned (.slice o (dfL p q).n c) ∧ XLs w' (.slice o (dfL p q).n c) (dfL p q) ∧ Below w.heap.size w w' := by
  obtain ⟨n1, n2, n3⟩ := neg_facts hq.1 hq.2.1
  obtain ⟨f1, f2⟩ := df_fin hp hq
  have CF : Hid (∀ W, Hold4 W -> Calls Tryz.prog 60 #[.int .i64 p, .int .i64 q] W fun r w' => r = .returned (.tuple #[.float .f64 (wd (fsum p (neg q))), .float .f64 (wd (sL p (neg q)))]) ∧ Below W.heap.size W w') := fun W h => aFloats hp hq W h
  have CP : Hid (∀ W, Calls Tryz.prog 59 #[.float .f64 (wd (fsum p (neg q))), .float .f64 (wd (sL p (neg q)))] W fun r w' => ∃ o c, r = .returned (.slice o (dfL p q).n c) ∧ XLs w' (.slice o (dfL p q).n c) (dfL p q) ∧ Below W.heap.size W w') := fun W => by
    refine (aParts (fsum_rng hp.1 n1) f1 (sL_rng hp.1 n1) f2 W).mono ?_
    rintro _ w' ⟨v, rfl, hO, hb⟩
    obtain ⟨ao, cap, rfl, hR⟩ := hO.row
    exact ⟨ao, cap, rfl, ⟨ao, cap, rfl, hR⟩, hb⟩
  clear hp hq n1 n2 n3 f1 f2
  generalize dfL p q = L at *
  generalize wd (fsum p (neg q)) = Wa at *
  generalize wd (sL p (neg q)) = Wb at *
  go_enter Tryz.func37, Tryz.ntmps37
  go_wp2_with fail
  refine (CF.out _ H).mono ?_
  rintro _ y1 ⟨rfl, hw1⟩
  go_wp2_with fail
  refine (CP.out _).mono ?_
  rintro _ y2 ⟨o, c, rfl, hL, hw2⟩
  have hb := bel_trans hw1 hw2
  go_wp2
  go_ret
  exact ⟨o, c, rfl, hL, hb⟩
set_option maxRecDepth 100000 in
theorem msureL (o : Option Addr) (n c : Nat) (e : Int) (w : World) :
    Calls Tryz.prog 41 #[.slice o n c, .int .i64 e] w fun r w' => r = .returned (.slice o n c) ∧ Below w.heap.size w w' := by
  go_enter Tryz.func41, Tryz.ntmps41
  go_wp2
  go_ret
  exact ⟨rfl, bel_refl _⟩
set_option maxRecDepth 100000 in
theorem mexpansions (w : World) :
    Calls Tryz.prog 17 #[] w fun r w' => r = .returned (.agg #[.func (.func 37) #[] #[], .func (.func 38) #[] #[], .func (.func 39) #[] #[], .func (.func 40) #[] #[]]) ∧ Below w.heap.size w w' := by
  have hst : ∀ p F m w, (store p (.func (.func F) #[] #[]) m).run Tryz.prog w = stored Tryz.prog w p (.func (.func F) #[] #[]) m := fun p F m w => run_store _ w p _ m rfl
  go_enter Tryz.func17, Tryz.ntmps17
  go_wp2_with fail
  have r_j := heap_a1 w (.cells #[.func (.func 37) #[] #[], .func (.func 38) #[] #[], .func (.func 39) #[] #[], .func (.func 40) #[] #[]] 50)
  have k0 := blkC r_j 0 rfl
  have k1 := blkC r_j 1 rfl
  have k2 := blkC r_j 2 rfl
  have k3 := blkC r_j 3 rfl
  exact bodyPost_ret (v := .agg #[.func (.func 37) #[] #[], .func (.func 38) #[] #[], .func (.func 39) #[] #[], .func (.func 40) #[] #[]]) (by simp [results, Tryz.results17, go_sem, k0, k1, k2, k3]) rfl ⟨rfl, bel_alloc _ _⟩
theorem iV_lt {p : Int} (hp : rng p) (h : iV p ≠ 0) : iV p < 0 ↔ p < 0 := by
  obtain ⟨k1, k2⟩ := iV_key hp
  rw [k1]
  have hz : key p ≠ 0 := fun e => by
    have a := mt k1.1
    rcases Int.lt_trichotomy (iV p) 0 with g | g | g
    . have := k1.1 g; omega
    . exact h g
    . have := k2.1 g; omega
  unfold rng at hp
  by_cases c : p < 0
  . have e : key p = -(p + 9223372036854775808) := by unfold key; rw [if_pos c]
    rw [e] at hz ⊢
    omega
  . have e : key p = p := by unfold key; rw [if_neg c]
    rw [e]
set_option maxRecDepth 100000 in
set_option maxHeartbeats 1000000 in
theorem xSign {v : Value} {s : Ls} (w : World) (h : XLs w v s) (hx : XV s.d s.n) (H : Hold4 w) :
    Calls Tryz.prog 81 #[v] w fun r w' => r = .returned (.tuple #[.int .i64 (ord (lsm s.d s.n) 0), .int .i64 0]) ∧ Below w.heap.size w w' := by
  obtain ⟨ao, cap, rfl, hR⟩ := h
  obtain ⟨n, d⟩ := s
  simp only at *
  have hle := hR.le
  have hmx := hR.max
  have CV : Hid (∀ W, Below w.heap.size w W -> Calls Tryz.prog 88 #[.slice ao n cap] W fun e w' => e = .returned (.bool true) ∧ Below W.heap.size W w') := fun W hb => by
    have := xvalid_any W (hR.keeps hb) (H.keeps hb)
    rw [xval_of hx] at this
    exact this
  cases n with
  | zero =>
    have e : ord (lsm d 0) 0 = 0 := by show ord 0 0 = 0; decide
    rw [e]
    go_enter Tryz.func81, Tryz.ntmps81
    go_wp2_with fail
    refine (CV.out _ (bel_refl _)).mono ?_
    rintro _ y1 ⟨rfl, hw1⟩
    go_wp2
    exact bodyPost_ret (v := .tuple #[.int .i64 0, .int .i64 0]) (by simp [results, Tryz.results81, go_sem]) rfl ⟨rfl, hw1⟩
  | succ n =>
    obtain ⟨s1, s2⟩ := lsm_sign hx
    have hr := (hx.fin n (by omega)).1
    have hne := hx.ne (show n < n + 1 by omega)
    have hl := iV_lt hr hne
    obtain ⟨b, off, rfl, hb, hc⟩ := hR.spot (by omega)
    have i0 : (0 : Int) <= (n : Int) := by omega
    have i1 : (n : Int) < ((n + 1 : Nat) : Int) := by omega
    have hidx : ((n + 1 : Nat) : Int) - 1 = (n : Int) := by omega
    by_cases hd : d n < 0
    . have e : ord (lsm d (n + 1)) 0 = -1 := by
        have : lsm d (n + 1) < 0 := s2.2 (hl.2 hd)
        unfold ord; rw [if_pos this]
      rw [e]
      have hdd : decide (d n < 0) = true := decide_eq_true hd
      clear s1 s2 hl hne hr e
      have HC : Hid (∀ W, Below w.heap.size w W -> W.cell? ⟨b, off + n, none⟩ = some (.int .i64 (d n))) := fun W hw => (hw.cell (p := ⟨b, off + n, none⟩) hb).trans (hc n (by omega))
      clear hc hx hd
      go_enter Tryz.func81, Tryz.ntmps81
      go_wp2_with fail
      refine (CV.out _ (bel_refl _)).mono ?_
      rintro _ y1 ⟨rfl, hw1⟩
      have c1 := HC.out _ hw1
      go_wp2
      exact bodyPost_ret (v := .tuple #[.int .i64 (-1), .int .i64 0]) (by simp [results, Tryz.results81, go_sem]) rfl ⟨rfl, hw1⟩
    . have e : ord (lsm d (n + 1)) 0 = 1 := by
        have h1 : ¬ iV (d n) < 0 := fun q => hd (hl.1 q)
        have : 0 < lsm d (n + 1) := s1.2 (by omega)
        have h2 : ¬ lsm d (n + 1) < 0 := by omega
        unfold ord; rw [if_neg h2]; first | rw [if_pos this] | (simp [this]; omega)
      rw [e]
      have hdd : decide (d n < 0) = false := decide_eq_false hd
      clear s1 s2 hl hne hr e
      have HC : Hid (∀ W, Below w.heap.size w W -> W.cell? ⟨b, off + n, none⟩ = some (.int .i64 (d n))) := fun W hw => (hw.cell (p := ⟨b, off + n, none⟩) hb).trans (hc n (by omega))
      clear hc hx hd
      go_enter Tryz.func81, Tryz.ntmps81
      go_wp2_with fail
      refine (CV.out _ (bel_refl _)).mono ?_
      rintro _ y1 ⟨rfl, hw1⟩
      have c1 := HC.out _ hw1
      go_wp2
      exact bodyPost_ret (v := .tuple #[.int .i64 1, .int .i64 0]) (by simp [results, Tryz.results81, go_sem]) rfl ⟨rfl, hw1⟩
end Go.Proofs.YthpachmmjjlomaaGreatDoor
