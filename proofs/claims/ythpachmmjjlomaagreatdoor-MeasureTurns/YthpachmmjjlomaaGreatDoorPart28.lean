/-
  Parts of the proof, one behind another.
-/
import Derived.Test.YthpachmmjjlomaaGreatDoorPart27
import Derived.Test.YthpachmmjjlomaaGreatDoorPart15
import Derived.Test.YthpachmmjjlomaaGreatDoorPart20
import Derived.Test.YthpachmmjjlomaaGreatDoorPart19
namespace Go.Proofs.YthpachmmjjlomaaGreatDoor
open Go Go.RowKit Go.Proofs.YthpachmmjjlomaaGreatDoor.M
set_option linter.unusedSimpArgs false
set_option linter.unusedVariables false
def sqN (ax ay bx by' : Int) : Int := fsum (aP ax bx ax) (aP ay by' ay)
theorem sqN_fx {ax ay bx by' : Int} (hax : Mz ax) (hay : Mz ay) (hbx : Mz bx) (hby : Mz by') : Fx 670 1381 (sqN ax ay bx by') := ((aP_fx hax hbx hax).sum (aP_fx hay hby hay) (by decide)).1
set_option maxRecDepth 100000 in
set_option maxHeartbeats 1000000 in
theorem mSqNear {ax ay bx by' : Int} (hax : Mz ax) (hay : Mz ay) (hbx : Mz bx) (hby : Mz by') (w : World) :
    Calls Tryz.prog 15 #[.agg #[.int .i64 ax, .int .i64 ay], .agg #[.int .i64 bx, .int .i64 by']] w fun r w' => r = .returned (.float .f64 (wd (sqN ax ay bx by'))) ∧ Below w.heap.size w w' := by
  have hd := fun W => run_sumN (P := Tryz.prog) 44 (fx_fw (aP_fx hax hbx hax)) (fx_fw (aP_fx hay hby hay)) (q_fin (sqN_fx hax hay hbx hby).p) W
  have CP : Hid (∀ W, Calls Tryz.prog 27 #[.agg #[.int .i64 ax, .int .i64 ay], .agg #[.int .i64 bx, .int .i64 by'], .agg #[.int .i64 ax, .int .i64 ay]] W fun r w' => r = .returned (.tuple #[.float .f64 (wd (aP ax bx ax)), .float .f64 (wd (aP ay by' ay))]) ∧ Below W.heap.size W w') := fun W => mProds hax hay hbx hby hax hay W
  clear hax hay hbx hby
  unfold sqN
  generalize wd (fsum (aP ax bx ax) (aP ay by' ay)) = Wd at *
  generalize wd (aP ax bx ax) = Wp at *
  generalize wd (aP ay by' ay) = Wq at *
  have a_k : (w.alloc (.cells #[.int .i64 ax, .int .i64 ay] 23)).heap[w.heap.size]? = some (.cells #[.int .i64 ax, .int .i64 ay] 23) := heap_new (.cells #[.int .i64 ax, .int .i64 ay] 23) (by rfl)
  have hb0 := bel_alloc w (.cells #[.int .i64 ax, .int .i64 ay] 23)
  replace a_k := heap_past (.cells #[.int .i64 bx, .int .i64 by'] 23) a_k
  have b_k : ((w.alloc (.cells #[.int .i64 ax, .int .i64 ay] 23)).alloc (.cells #[.int .i64 bx, .int .i64 by'] 23)).heap[w.heap.size + 1]? = some (.cells #[.int .i64 bx, .int .i64 by'] 23) := heap_new (.cells #[.int .i64 bx, .int .i64 by'] 23) (by simp only [size_alloc])
  replace hb0 := bel_trans hb0 (bel_alloc (w.alloc (.cells #[.int .i64 ax, .int .i64 ay] 23)) (.cells #[.int .i64 bx, .int .i64 by'] 23))
  have f_a0 := blkC a_k 0 rfl
  have f_a1 := blkC a_k 1 rfl
  have f_b0 := blkC b_k 0 rfl
  have f_b1 := blkC b_k 1 rfl
  go_enter Tryz.func15, Tryz.ntmps15
  go_wp2_with fail
  clear f_a0 f_a1 f_b0 f_b1
  generalize ((w.alloc (.cells #[.int .i64 ax, .int .i64 ay] 23)).alloc (.cells #[.int .i64 bx, .int .i64 by'] 23)) = x0 at hb0 a_k b_k ⊢
  refine (CP.out _).mono ?_
  rintro _ y1 ⟨rfl, hw1⟩
  have hb1 := bel_trans hb0 hw1
  go_wp2
  go_ret
  exact ⟨rfl, hb1⟩
def faD (ax ay bx by' cx cy dx dy : Int) : Int := fsum (sqN ax ay bx by') (neg (sqN cx cy dx dy))
def faS (ax ay bx by' cx cy dx dy : Int) : Int := fsum (sqN ax ay bx by') (sqN cx cy dx dy)
theorem faS_fx {ax ay bx by' cx cy dx dy : Int} (hax : Mz ax) (hay : Mz ay) (hbx : Mz bx) (hby : Mz by') (hcx : Mz cx) (hcy : Mz cy) (hdx : Mz dx) (hdy : Mz dy) : Fx 670 1383 (faS ax ay bx by' cx cy dx dy) := ((sqN_fx hax hay hbx hby).sum (sqN_fx hcx hcy hdx hdy) (by decide)).1
theorem faD_fx {ax ay bx by' cx cy dx dy : Int} (hax : Mz ax) (hay : Mz ay) (hbx : Mz bx) (hby : Mz by') (hcx : Mz cx) (hcy : Mz cy) (hdx : Mz dx) (hdy : Mz dy) : Fx 670 1383 (faD ax ay bx by' cx cy dx dy) := ((sqN_fx hax hay hbx hby).sum (sqN_fx hcx hcy hdx hdy).neg.1 (by decide)).1
set_option maxRecDepth 100000 in
set_option maxHeartbeats 1000000 in
theorem mFar1 {ax ay bx by' cx cy dx dy : Int} {ga gb gc gd : Nat} (hax : Mz ax) (hay : Mz ay) (hbx : Mz bx) (hby : Mz by') (hcx : Mz cx) (hcy : Mz cy) (hdx : Mz dx) (hdy : Mz dy) (w : World) (a_k : w.heap[ga]? = some (.cells #[.int .i64 ax, .int .i64 ay] 23)) (b_k : w.heap[gb]? = some (.cells #[.int .i64 bx, .int .i64 by'] 23)) (c_k : w.heap[gc]? = some (.cells #[.int .i64 cx, .int .i64 cy] 23)) (d_k : w.heap[gd]? = some (.cells #[.int .i64 dx, .int .i64 dy] 23)) :
    Calls Tryz.prog 14 #[.pointer (some ⟨ga, 0, none⟩), .pointer (some ⟨gb, 0, none⟩), .pointer (some ⟨gc, 0, none⟩), .pointer (some ⟨gd, 0, none⟩)] w fun r w' => r = .returned (.tuple #[.float .f64 (wd (faD ax ay bx by' cx cy dx dy)), .float .f64 (wd (faS ax ay bx by' cx cy dx dy))]) ∧ Below w.heap.size w w' := by
  have f1 := sqN_fx hax hay hbx hby
  have f2 := sqN_fx hcx hcy hdx hdy
  have hd := fun W => run_diffN (P := Tryz.prog) 44 (fx_fw f1) (fx_fw f2) (q_fin (faD_fx hax hay hbx hby hcx hcy hdx hdy).p) W
  have hs := fun W => run_sumN (P := Tryz.prog) 44 (fx_fw f1) (fx_fw f2) (q_fin (faS_fx hax hay hbx hby hcx hcy hdx hdy).p) W
  have C1 : Hid (∀ W, Calls Tryz.prog 15 #[.agg #[.int .i64 ax, .int .i64 ay], .agg #[.int .i64 bx, .int .i64 by']] W fun r w' => r = .returned (.float .f64 (wd (sqN ax ay bx by'))) ∧ Below W.heap.size W w') := fun W => mSqNear hax hay hbx hby W
  have C2 : Hid (∀ W, Calls Tryz.prog 15 #[.agg #[.int .i64 cx, .int .i64 cy], .agg #[.int .i64 dx, .int .i64 dy]] W fun r w' => r = .returned (.float .f64 (wd (sqN cx cy dx dy))) ∧ Below W.heap.size W w') := fun W => mSqNear hcx hcy hdx hdy W
  clear hax hay hbx hby hcx hcy hdx hdy f1 f2
  unfold faD faS
  generalize wd (fsum (sqN ax ay bx by') (neg (sqN cx cy dx dy))) = Wd at *
  generalize wd (fsum (sqN ax ay bx by') (sqN cx cy dx dy)) = Ws at *
  generalize wd (sqN ax ay bx by') = Wp at *
  generalize wd (sqN cx cy dx dy) = Wq at *
  go_enter Tryz.func14, Tryz.ntmps14
  go_wp2_with fail
  have hb0 := bel_refl w
  have KK1 : ∀ W, Below w.heap.size w W -> W.cell? ⟨ga, 0, none⟩ = some (.int .i64 ax) ∧ W.cell? ⟨ga, 1, none⟩ = some (.int .i64 ay) ∧ W.cell? ⟨gb, 0, none⟩ = some (.int .i64 bx) ∧ W.cell? ⟨gb, 1, none⟩ = some (.int .i64 by') ∧ W.cell? ⟨gc, 0, none⟩ = some (.int .i64 cx) ∧ W.cell? ⟨gc, 1, none⟩ = some (.int .i64 cy) ∧ W.cell? ⟨gd, 0, none⟩ = some (.int .i64 dx) ∧ W.cell? ⟨gd, 1, none⟩ = some (.int .i64 dy) := fun W hb => ⟨q_cell (blkC a_k 0 rfl) hb, q_cell (blkC a_k 1 rfl) hb, q_cell (blkC b_k 0 rfl) hb, q_cell (blkC b_k 1 rfl) hb, q_cell (blkC c_k 0 rfl) hb, q_cell (blkC c_k 1 rfl) hb, q_cell (blkC d_k 0 rfl) hb, q_cell (blkC d_k 1 rfl) hb⟩
  have hC1_0 := (bel_refl w).drew
  have hs1_0 := (bel_refl w).drew
  have hT1_0 : Below w.heap.size w w.drew := hb0.drew
  go_region_held3 (fun W => W.cell? ⟨ga, 0, none⟩ = some (.int .i64 ax) ∧ W.cell? ⟨ga, 1, none⟩ = some (.int .i64 ay) ∧ W.cell? ⟨gb, 0, none⟩ = some (.int .i64 bx) ∧ W.cell? ⟨gb, 1, none⟩ = some (.int .i64 by') ∧ W.cell? ⟨gc, 0, none⟩ = some (.int .i64 cx) ∧ W.cell? ⟨gc, 1, none⟩ = some (.int .i64 cy) ∧ W.cell? ⟨gd, 0, none⟩ = some (.int .i64 dx) ∧ W.cell? ⟨gd, 1, none⟩ = some (.int .i64 dy))
    (with_reducible first | assumption | exact KK1 _ hC1_0 | exact KK1 _ hC1_1 | exact KK1 _ hC1_2 | fail)
    (first
      | (go_at_call 15; have _t := hs1_1; refine (C2.out _).mono ?_; rintro _ y1_2 ⟨rfl, hq1_2⟩; have hs1_2 : Below y1_1.heap.size y1_1 y1_2 := (by with_reducible first | exact hq1_2 | exact bel_trans (bel_alloc _ _) hq1_2 | exact bel_trans (bel_dr _ _) hq1_2); have hT1_2 := bel_trans hT1_1 hs1_2; have hC1_2 := bel_trans hC1_1 hs1_2)
      | (go_at_call 15; refine (C1.out _).mono ?_; rintro _ y1_1 ⟨rfl, hq1_1⟩; have hs1_1 : Below w.drew.heap.size w.drew y1_1 := (by with_reducible first | exact hq1_1 | exact bel_trans (bel_alloc _ _) hq1_1 | exact bel_trans (bel_dr _ _) hq1_1); have hT1_1 := bel_trans hT1_0 hs1_1; have hC1_1 := bel_trans hC1_0 hs1_1))
  go_wp2
  exact bodyPost_ret (v := .tuple #[.float .f64 Wd, .float .f64 Ws]) (by simp [results, Tryz.results14, go_sem]) rfl ⟨rfl, by first | exact hT1_2 | exact hT1_2.drew⟩
set_option maxRecDepth 100000 in
set_option maxHeartbeats 2000000 in
theorem mFarther2 {ax ay bx by' cx cy dx dy : Int} {ga gb gc gd : Nat} (hax : Mz ax) (hay : Mz ay) (hbx : Mz bx) (hby : Mz by') (hcx : Mz cx) (hcy : Mz cy) (hdx : Mz dx) (hdy : Mz dy) (w : World) (H : Hold4 w) (a_k : w.heap[ga]? = some (.cells #[.int .i64 ax, .int .i64 ay] 23)) (b_k : w.heap[gb]? = some (.cells #[.int .i64 bx, .int .i64 by'] 23)) (c_k : w.heap[gc]? = some (.cells #[.int .i64 cx, .int .i64 cy] 23)) (d_k : w.heap[gd]? = some (.cells #[.int .i64 dx, .int .i64 dy] 23)) :
    Calls Tryz.prog 16 #[.pointer (some ⟨ga, 0, none⟩), .pointer (some ⟨gb, 0, none⟩), .pointer (some ⟨gc, 0, none⟩), .pointer (some ⟨gd, 0, none⟩)] w fun r w' => ∃ o c', r = .returned (.slice o (frL ax ay bx by' cx cy dx dy).n c') ∧ XLs w' (.slice o (frL ax ay bx by' cx cy dx dy).n c') (frL ax ay bx by' cx cy dx dy) ∧ Below w.heap.size w w' := by
  have CD : Hid (∀ W, Hold4 W -> Calls Tryz.prog 18 #[.agg #[.func (.func 37) #[] #[], .func (.func 38) #[] #[], .func (.func 39) #[] #[], .func (.func 40) #[] #[]], .agg #[.int .i64 ax, .int .i64 ay], .agg #[.int .i64 bx, .int .i64 by'], .agg #[.int .i64 cx, .int .i64 cy], .agg #[.int .i64 dx, .int .i64 dy]] W fun r w' => ∃ o c', r = .returned (.slice o (frL ax ay bx by' cx cy dx dy).n c') ∧ XLs w' (.slice o (frL ax ay bx by' cx cy dx dy).n c') (frL ax ay bx by' cx cy dx dy) ∧ Below W.heap.size W w') := fun W h => mfarL_any hax hay hbx hby hcx hcy hdx hdy W h
  clear hax hay hbx hby hcx hcy hdx hdy
  generalize frL ax ay bx by' cx cy dx dy = L at *
  go_enter Tryz.func16, Tryz.ntmps16
  go_wp2_with fail
  have hb0 := bel_refl w
  have KK1 : ∀ W, Below w.heap.size w W -> W.cell? ⟨ga, 0, none⟩ = some (.int .i64 ax) ∧ W.cell? ⟨ga, 1, none⟩ = some (.int .i64 ay) ∧ W.cell? ⟨gb, 0, none⟩ = some (.int .i64 bx) ∧ W.cell? ⟨gb, 1, none⟩ = some (.int .i64 by') ∧ W.cell? ⟨gc, 0, none⟩ = some (.int .i64 cx) ∧ W.cell? ⟨gc, 1, none⟩ = some (.int .i64 cy) ∧ W.cell? ⟨gd, 0, none⟩ = some (.int .i64 dx) ∧ W.cell? ⟨gd, 1, none⟩ = some (.int .i64 dy) := fun W hb => ⟨q_cell (blkC a_k 0 rfl) hb, q_cell (blkC a_k 1 rfl) hb, q_cell (blkC b_k 0 rfl) hb, q_cell (blkC b_k 1 rfl) hb, q_cell (blkC c_k 0 rfl) hb, q_cell (blkC c_k 1 rfl) hb, q_cell (blkC d_k 0 rfl) hb, q_cell (blkC d_k 1 rfl) hb⟩
  have hC1_0 := (bel_refl w).drew
  have hs1_0 := (bel_refl w).drew
  have hT1_0 : Below w.heap.size w w.drew := hb0.drew
  have H_1_0 := H.keeps (bel_refl w).drew
  go_region_held3 (fun W => W.cell? ⟨ga, 0, none⟩ = some (.int .i64 ax) ∧ W.cell? ⟨ga, 1, none⟩ = some (.int .i64 ay) ∧ W.cell? ⟨gb, 0, none⟩ = some (.int .i64 bx) ∧ W.cell? ⟨gb, 1, none⟩ = some (.int .i64 by') ∧ W.cell? ⟨gc, 0, none⟩ = some (.int .i64 cx) ∧ W.cell? ⟨gc, 1, none⟩ = some (.int .i64 cy) ∧ W.cell? ⟨gd, 0, none⟩ = some (.int .i64 dx) ∧ W.cell? ⟨gd, 1, none⟩ = some (.int .i64 dy))
    (with_reducible first | assumption | exact KK1 _ hC1_0 | exact KK1 _ hC1_1 | exact KK1 _ hC1_2 | fail)
    (first
      | (go_at_call 18; have _t := hs1_1; refine (CD.out _ (H_1_1.keeps (by with_reducible first | exact bel_refl _ | exact bel_alloc _ _ | exact bel_dr _ _))).mono ?_; rintro _ y1_2 ⟨o, c', rfl, hn, hq1_2⟩; have hs1_2 : Below y1_1.heap.size y1_1 y1_2 := (by with_reducible first | exact hq1_2 | exact bel_trans (bel_alloc _ _) hq1_2 | exact bel_trans (bel_dr _ _) hq1_2); have hT1_2 := bel_trans hT1_1 hs1_2; have hC1_2 := bel_trans hC1_1 hs1_2; have H_1_2 := H_1_1.keeps hs1_2)
      | (go_at_call 17; refine (mexpansions _).mono ?_; rintro _ y1_1 ⟨rfl, hq1_1⟩; have hs1_1 : Below w.drew.heap.size w.drew y1_1 := (by with_reducible first | exact hq1_1 | exact bel_trans (bel_alloc _ _) hq1_1 | exact bel_trans (bel_dr _ _) hq1_1); have hT1_1 := bel_trans hT1_0 hs1_1; have hC1_1 := bel_trans hC1_0 hs1_1; have H_1_1 := H_1_0.keeps hs1_1))
  go_wp2
  go_ret
  exact ⟨o, c', rfl, hn, by first | exact hT1_2 | exact hT1_2.drew⟩
set_option maxRecDepth 100000 in
set_option maxHeartbeats 2000000 in
theorem mFarther3 {ax ay bx by' cx cy dx dy : Int} {ga gb gc gd : Nat} (rax : rng ax) (ray : rng ay) (rbx : rng bx) (rby : rng by') (rcx : rng cx) (rcy : rng cy) (rdx : rng dx) (rdy : rng dy) (pax : pok ax = true) (pay : pok ay = true) (pbx : pok bx = true) (pby : pok by' = true) (pcx : pok cx = true) (pcy : pok cy = true) (pdx : pok dx = true) (pdy : pok dy = true) (w : World) (H : Hold4 w) (a_k : w.heap[ga]? = some (.cells #[.int .i64 ax, .int .i64 ay] 23)) (b_k : w.heap[gb]? = some (.cells #[.int .i64 bx, .int .i64 by'] 23)) (c_k : w.heap[gc]? = some (.cells #[.int .i64 cx, .int .i64 cy] 23)) (d_k : w.heap[gd]? = some (.cells #[.int .i64 dx, .int .i64 dy] 23)) :
    Calls Tryz.prog 19 #[.pointer (some ⟨ga, 0, none⟩), .pointer (some ⟨gb, 0, none⟩), .pointer (some ⟨gc, 0, none⟩), .pointer (some ⟨gd, 0, none⟩)] w fun r w' => r = .returned (.agg #[.int .i64 (fLo ax ay bx by' cx cy dx dy), .int .i64 (fHi ax ay bx by' cx cy dx dy)]) ∧ Below w.heap.size w w' := by
  have CD : Hid (∀ W, Hold4 W -> Calls Tryz.prog 21 #[.agg #[.func (.func 42) #[] #[], .func (.func 43) #[] #[], .func (.func 44) #[] #[], .func (.func 45) #[] #[]], .agg #[.int .i64 ax, .int .i64 ay], .agg #[.int .i64 bx, .int .i64 by'], .agg #[.int .i64 cx, .int .i64 cy], .agg #[.int .i64 dx, .int .i64 dy]] W fun r w' => r = .returned (.agg #[.int .i64 (fLo ax ay bx by' cx cy dx dy), .int .i64 (fHi ax ay bx by' cx cy dx dy)]) ∧ Below W.heap.size W w') := fun W h => mfarS_any rax ray rbx rby rcx rcy rdx rdy pax pay pbx pby pcx pcy pdx pdy W h
  clear rax ray rbx rby rcx rcy rdx rdy pax pay pbx pby pcx pcy pdx pdy
  generalize fLo ax ay bx by' cx cy dx dy = lo at *
  generalize fHi ax ay bx by' cx cy dx dy = hi at *
  have hb0 := bel_alloc w (.cells #[.int .i64 0, .int .i64 0] 55)
  have r_k := heap_a1 w (.cells #[.int .i64 0, .int .i64 0] 55)
  have ne_a : ga ≠ w.heap.size := Nat.ne_of_lt (Array.getElem?_eq_some_iff.1 a_k).1
  replace a_k := heap_past (.cells #[.int .i64 0, .int .i64 0] 55) a_k
  have ne_b : gb ≠ w.heap.size := Nat.ne_of_lt (Array.getElem?_eq_some_iff.1 b_k).1
  replace b_k := heap_past (.cells #[.int .i64 0, .int .i64 0] 55) b_k
  have ne_c : gc ≠ w.heap.size := Nat.ne_of_lt (Array.getElem?_eq_some_iff.1 c_k).1
  replace c_k := heap_past (.cells #[.int .i64 0, .int .i64 0] 55) c_k
  have ne_d : gd ≠ w.heap.size := Nat.ne_of_lt (Array.getElem?_eq_some_iff.1 d_k).1
  replace d_k := heap_past (.cells #[.int .i64 0, .int .i64 0] 55) d_k
  go_enter Tryz.func19, Tryz.ntmps19
  go_wp2_with fail
  generalize w.alloc (.cells #[.int .i64 0, .int .i64 0] 55) = x0 at hb0 r_k a_k b_k c_k d_k ⊢
  have H := H.keeps hb0
  have KK1 : ∀ W, Below x0.heap.size x0 W -> W.cell? ⟨ga, 0, none⟩ = some (.int .i64 ax) ∧ W.cell? ⟨ga, 1, none⟩ = some (.int .i64 ay) ∧ W.cell? ⟨gb, 0, none⟩ = some (.int .i64 bx) ∧ W.cell? ⟨gb, 1, none⟩ = some (.int .i64 by') ∧ W.cell? ⟨gc, 0, none⟩ = some (.int .i64 cx) ∧ W.cell? ⟨gc, 1, none⟩ = some (.int .i64 cy) ∧ W.cell? ⟨gd, 0, none⟩ = some (.int .i64 dx) ∧ W.cell? ⟨gd, 1, none⟩ = some (.int .i64 dy) := fun W hb => ⟨q_cell (blkC a_k 0 rfl) hb, q_cell (blkC a_k 1 rfl) hb, q_cell (blkC b_k 0 rfl) hb, q_cell (blkC b_k 1 rfl) hb, q_cell (blkC c_k 0 rfl) hb, q_cell (blkC c_k 1 rfl) hb, q_cell (blkC d_k 0 rfl) hb, q_cell (blkC d_k 1 rfl) hb⟩
  have hC1_0 := (bel_refl x0).drew
  have hs1_0 := (bel_refl x0).drew
  have hT1_0 : Below w.heap.size w x0.drew := hb0.drew
  have H_1_0 := H.keeps (bel_refl x0).drew
  go_region_held3 (fun W => W.cell? ⟨ga, 0, none⟩ = some (.int .i64 ax) ∧ W.cell? ⟨ga, 1, none⟩ = some (.int .i64 ay) ∧ W.cell? ⟨gb, 0, none⟩ = some (.int .i64 bx) ∧ W.cell? ⟨gb, 1, none⟩ = some (.int .i64 by') ∧ W.cell? ⟨gc, 0, none⟩ = some (.int .i64 cx) ∧ W.cell? ⟨gc, 1, none⟩ = some (.int .i64 cy) ∧ W.cell? ⟨gd, 0, none⟩ = some (.int .i64 dx) ∧ W.cell? ⟨gd, 1, none⟩ = some (.int .i64 dy))
    (with_reducible first | assumption | exact KK1 _ hC1_0 | exact KK1 _ hC1_1 | exact KK1 _ hC1_2 | exact ⟨cellS2 (KK1 _ hC1_2).1 ne_a _ _, cellS2 (KK1 _ hC1_2).2.1 ne_a _ _, cellS2 (KK1 _ hC1_2).2.2.1 ne_b _ _, cellS2 (KK1 _ hC1_2).2.2.2.1 ne_b _ _, cellS2 (KK1 _ hC1_2).2.2.2.2.1 ne_c _ _, cellS2 (KK1 _ hC1_2).2.2.2.2.2.1 ne_c _ _, cellS2 (KK1 _ hC1_2).2.2.2.2.2.2.1 ne_d _ _, cellS2 (KK1 _ hC1_2).2.2.2.2.2.2.2 ne_d _ _⟩ | fail)
    (first
      | (go_at_call 21; have _t := hs1_1; refine (CD.out _ (H_1_1.keeps (by with_reducible first | exact bel_refl _ | exact bel_alloc _ _ | exact bel_dr _ _))).mono ?_; rintro _ y1_2 ⟨rfl, hq1_2⟩; have hs1_2 : Below y1_1.heap.size y1_1 y1_2 := (by with_reducible first | exact hq1_2 | exact bel_trans (bel_alloc _ _) hq1_2 | exact bel_trans (bel_dr _ _) hq1_2); have hT1_2 := bel_trans hT1_1 hs1_2; have hC1_2 := bel_trans hC1_1 hs1_2; have H_1_2 := H_1_1.keeps hs1_2; have hr := blk_on hs1_2 (blk_on hs1_1 (blk_on hs1_0 r_k)); have k0 := (fun _ => blkC hr 0 rfl) hs1_2; have z0 := (fun _ => blkF hr 0) hs1_2; have k1 := (fun _ => blkC hr 1 rfl) hs1_2; have z1 := (fun _ => blkF hr 1) hs1_2)
      | (go_at_call 20; refine (mspans _).mono ?_; rintro _ y1_1 ⟨rfl, hq1_1⟩; have hs1_1 : Below x0.drew.heap.size x0.drew y1_1 := (by with_reducible first | exact hq1_1 | exact bel_trans (bel_alloc _ _) hq1_1 | exact bel_trans (bel_dr _ _) hq1_1); have hT1_1 := bel_trans hT1_0 hs1_1; have hC1_1 := bel_trans hC1_0 hs1_1; have H_1_1 := H_1_0.keeps hs1_1))
  go_wp2
  exact bodyPost_ret (v := .agg #[.int .i64 lo, .int .i64 hi]) (by simp [results, Tryz.results19, go_sem, k0, k1]) rfl ⟨rfl, bel_set2q hT1_2 (Nat.le_refl _) _ _⟩
set_option maxRecDepth 100000 in
set_option maxHeartbeats 2000000 in
theorem mFarther4 {ax ay bx by' cx cy dx dy : Int} {ga gb gc gd : Nat} (pax : pok ax = true) (pay : pok ay = true) (pbx : pok bx = true) (pby : pok by' = true) (pcx : pok cx = true) (pcy : pok cy = true) (pdx : pok dx = true) (pdy : pok dy = true) (w : World) (H : Hold4 w) (a_k : w.heap[ga]? = some (.cells #[.int .i64 ax, .int .i64 ay] 23)) (b_k : w.heap[gb]? = some (.cells #[.int .i64 bx, .int .i64 by'] 23)) (c_k : w.heap[gc]? = some (.cells #[.int .i64 cx, .int .i64 cy] 23)) (d_k : w.heap[gd]? = some (.cells #[.int .i64 dx, .int .i64 dy] 23)) :
    Calls Tryz.prog 22 #[.pointer (some ⟨ga, 0, none⟩), .pointer (some ⟨gb, 0, none⟩), .pointer (some ⟨gc, 0, none⟩), .pointer (some ⟨gd, 0, none⟩)] w fun r w' => ∃ v V, r = .returned v ∧ DAns w w' V v ∧ FarV ax ay bx by' cx cy dx dy V ∧ Bd 8200 V := by
  have CD : Hid (∀ W, Hold4 W -> Calls Tryz.prog 24 #[.agg #[.func (.func 47) #[] #[], .func (.func 48) #[] #[], .func (.func 49) #[] #[], .func (.func 50) #[] #[]], .agg #[.int .i64 ax, .int .i64 ay], .agg #[.int .i64 bx, .int .i64 by'], .agg #[.int .i64 cx, .int .i64 cy], .agg #[.int .i64 dx, .int .i64 dy]] W fun r w' => ∃ v V, r = .returned v ∧ DAns W w' V v ∧ FarV ax ay bx by' cx cy dx dy V ∧ Bd 8200 V) := fun W h => mfarN_any pax pay pbx pby pcx pcy pdx pdy W h
  clear pax pay pbx pby pcx pcy pdx pdy
  have hb0 := bel_alloc w (.cells #[.bool false, .slice none 0 0, .int .i64 0] 35)
  have r_k := heap_a1 w (.cells #[.bool false, .slice none 0 0, .int .i64 0] 35)
  have ne_a : ga ≠ w.heap.size := Nat.ne_of_lt (Array.getElem?_eq_some_iff.1 a_k).1
  replace a_k := heap_past (.cells #[.bool false, .slice none 0 0, .int .i64 0] 35) a_k
  have ne_b : gb ≠ w.heap.size := Nat.ne_of_lt (Array.getElem?_eq_some_iff.1 b_k).1
  replace b_k := heap_past (.cells #[.bool false, .slice none 0 0, .int .i64 0] 35) b_k
  have ne_c : gc ≠ w.heap.size := Nat.ne_of_lt (Array.getElem?_eq_some_iff.1 c_k).1
  replace c_k := heap_past (.cells #[.bool false, .slice none 0 0, .int .i64 0] 35) c_k
  have ne_d : gd ≠ w.heap.size := Nat.ne_of_lt (Array.getElem?_eq_some_iff.1 d_k).1
  replace d_k := heap_past (.cells #[.bool false, .slice none 0 0, .int .i64 0] 35) d_k
  go_enter Tryz.func22, Tryz.ntmps22
  go_wp2_with fail
  generalize w.alloc (.cells #[.bool false, .slice none 0 0, .int .i64 0] 35) = x0 at hb0 r_k a_k b_k c_k d_k ⊢
  have H := H.keeps hb0
  have hrs := (Array.getElem?_eq_some_iff.1 r_k).1
  have KK1 : ∀ W, Below x0.heap.size x0 W -> W.cell? ⟨ga, 0, none⟩ = some (.int .i64 ax) ∧ W.cell? ⟨ga, 1, none⟩ = some (.int .i64 ay) ∧ W.cell? ⟨gb, 0, none⟩ = some (.int .i64 bx) ∧ W.cell? ⟨gb, 1, none⟩ = some (.int .i64 by') ∧ W.cell? ⟨gc, 0, none⟩ = some (.int .i64 cx) ∧ W.cell? ⟨gc, 1, none⟩ = some (.int .i64 cy) ∧ W.cell? ⟨gd, 0, none⟩ = some (.int .i64 dx) ∧ W.cell? ⟨gd, 1, none⟩ = some (.int .i64 dy) := fun W hb => ⟨q_cell (blkC a_k 0 rfl) hb, q_cell (blkC a_k 1 rfl) hb, q_cell (blkC b_k 0 rfl) hb, q_cell (blkC b_k 1 rfl) hb, q_cell (blkC c_k 0 rfl) hb, q_cell (blkC c_k 1 rfl) hb, q_cell (blkC d_k 0 rfl) hb, q_cell (blkC d_k 1 rfl) hb⟩
  have hC1_0 := (bel_refl x0).drew
  have hs1_0 := (bel_refl x0).drew
  have hT1_0 : Below w.heap.size w x0.drew := hb0.drew
  have H_1_0 := H.keeps (bel_refl x0).drew
  go_region_held3 (fun W => W.cell? ⟨ga, 0, none⟩ = some (.int .i64 ax) ∧ W.cell? ⟨ga, 1, none⟩ = some (.int .i64 ay) ∧ W.cell? ⟨gb, 0, none⟩ = some (.int .i64 bx) ∧ W.cell? ⟨gb, 1, none⟩ = some (.int .i64 by') ∧ W.cell? ⟨gc, 0, none⟩ = some (.int .i64 cx) ∧ W.cell? ⟨gc, 1, none⟩ = some (.int .i64 cy) ∧ W.cell? ⟨gd, 0, none⟩ = some (.int .i64 dx) ∧ W.cell? ⟨gd, 1, none⟩ = some (.int .i64 dy))
    (with_reducible first | assumption | exact KK1 _ hC1_0 | exact KK1 _ hC1_1 | exact KK1 _ hC1_2 | exact ⟨cellS (KK1 _ hC1_2).1 ne_a _ _ _, cellS (KK1 _ hC1_2).2.1 ne_a _ _ _, cellS (KK1 _ hC1_2).2.2.1 ne_b _ _ _, cellS (KK1 _ hC1_2).2.2.2.1 ne_b _ _ _, cellS (KK1 _ hC1_2).2.2.2.2.1 ne_c _ _ _, cellS (KK1 _ hC1_2).2.2.2.2.2.1 ne_c _ _ _, cellS (KK1 _ hC1_2).2.2.2.2.2.2.1 ne_d _ _ _, cellS (KK1 _ hC1_2).2.2.2.2.2.2.2 ne_d _ _ _⟩ | fail)
    (first
      | (go_at_call 24; have _t := hs1_1; refine (CD.out _ (H_1_1.keeps (by with_reducible first | exact bel_refl _ | exact bel_alloc _ _ | exact bel_dr _ _))).mono ?_; rintro _ y1_2 ⟨v, V, rfl, na1, hV, hB⟩; obtain ⟨n_g, n_o, n_n, n_c, n_e, rfl⟩ := dans_shape na1; have hq1_2 := na1.below; have hs1_2 : Below y1_1.heap.size y1_1 y1_2 := (by with_reducible first | exact hq1_2 | exact bel_trans (bel_alloc _ _) hq1_2 | exact bel_trans (bel_dr _ _) hq1_2); have hT1_2 := bel_trans hT1_1 hs1_2; have hC1_2 := bel_trans hC1_1 hs1_2; have H_1_2 := H_1_1.keeps hs1_2; have hr := blk_on hs1_2 (blk_on hs1_1 (blk_on hs1_0 r_k)); have k0 := (fun _ => blkC hr 0 rfl) hs1_2; have z0 := (fun _ => blkF hr 0) hs1_2; have k1 := (fun _ => blkC hr 1 rfl) hs1_2; have z1 := (fun _ => blkF hr 1) hs1_2; have k2 := (fun _ => blkC hr 2 rfl) hs1_2; have z2 := (fun _ => blkF hr 2) hs1_2)
      | (go_at_call 23; refine (mexactNumbers _).mono ?_; rintro _ y1_1 ⟨rfl, hq1_1⟩; have hs1_1 : Below x0.drew.heap.size x0.drew y1_1 := (by with_reducible first | exact hq1_1 | exact bel_trans (bel_alloc _ _) hq1_1 | exact bel_trans (bel_dr _ _) hq1_1); have hT1_1 := bel_trans hT1_0 hs1_1; have hC1_1 := bel_trans hC1_0 hs1_1; have H_1_1 := H_1_0.keeps hs1_1))
  go_wp2
  refine bodyPost_ret (v := .agg #[.bool n_g, .slice n_o n_n n_c, .int .i64 n_e]) (by simp [results, Tryz.results22, go_sem, k0, k1, k2]) rfl ⟨_, V, rfl, ?_, hV, hB⟩
  exact dans_res3 (g := w.heap.size) na1 (bel_trans hb0 (by first | exact hs1_1 | exact bel_trans hs1_0 hs1_1)) (Nat.le_refl _) (Nat.lt_of_lt_of_le hrs (bel_trans hs1_0 hs1_1).size) _ _ _
end Go.Proofs.YthpachmmjjlomaaGreatDoor
namespace Go.Proofs.YthpachmmjjlomaaGreatDoor
open Go Go.RowKit Go.Proofs.YthpachmmjjlomaaGreatDoor.M Ieee
set_option linter.unusedSimpArgs false
set_option linter.unusedVariables false
theorem fprod_near {p q C : Int} (hp : M.rng p) (hq : M.rng q) (pp : pok p = true) (pq : pok q = true) (hC : C * 2 ^ 4194304 = patV p * patV q) : (C = 0 ∧ fprod p q = patS (xsg p q) 0) ∨ (C ≠ 0 ∧ fprod p q = nearP C) := by
  obtain ⟨a1, a2⟩ := fin_cls hp pp
  obtain ⟨b1, b2⟩ := fin_cls hq pq
  have hz := two_pos 4194304
  have hs : patV p * patV q / 2 ^ 4194304 = C := by rw [<- hC]; exact Int.mul_ediv_cancel _ (Int.ne_of_gt hz)
  have e : fprod p q = if sg (xsg p q) C = 0 then patS (xsg p q) 0 else nearP (sg (xsg p q) (sg (xsg p q) C)) := by
    unfold fprod fsize
    rw [if_neg (fun c => c.elim a1 b1), if_neg (fun c => c.elim a2 b2), hs]
  rw [k_sgsg] at e
  by_cases c : C = 0
  . left
    refine ⟨c, ?_⟩
    rw [e, if_pos (by rw [c]; exact sg_zero _)]
  . right
    refine ⟨c, ?_⟩
    rw [e, if_neg (fun d => c (sg_eq_zero d))]
end Go.Proofs.YthpachmmjjlomaaGreatDoor
namespace Go.Proofs.YthpachmmjjlomaaGreatDoor
open Go Go.RowKit Go.Proofs.YthpachmmjjlomaaGreatDoor.M
set_option linter.unusedSimpArgs false
set_option linter.unusedVariables false
theorem un_nonneg {S h : Int} (u : Un S h) (s : 0 <= S) : 0 <= h := by
  have := u.1
  omega
theorem f_k1 {E1 E2 P u : Int} (h1 : 100 * (9007199254740992 * E1) <= 201 * u) (h2 : 9007199254740992 * E2 <= P) (hu : 100 * u <= 101 * P) (p : 0 <= P) : 100 * (9007199254740992 * (E1 + E2)) <= 305 * P := by
  have : 9007199254740992 * (E1 + E2) = 9007199254740992 * E1 + 9007199254740992 * E2 := by rw [Int.mul_add]
  rw [this]
  generalize 9007199254740992 * E1 = a at *
  generalize 9007199254740992 * E2 = b at *
  omega
theorem sq_dev {x u P : Int} (h : Un x u) (hP : Un (u * u) P) : 0 <= P ∧ 100 * (9007199254740992 * ((x * x - P).natAbs : Int)) <= 305 * P := by
  have uu : 0 <= u * u := by
    rcases Int.le_total 0 u with c | c
    . exact Int.mul_nonneg c c
    . exact Int.mul_nonneg_of_nonpos_of_nonpos c c
  have p0 := un_nonneg hP uu
  refine ⟨p0, ?_⟩
  have d := m_k1 (dev_prod h h) (by omega)
  have e2 := hP.2
  have k : ((x * x - P).natAbs : Int) <= ((x * x - u * u).natAbs : Int) + ((P - u * u).natAbs : Int) := by omega
  have hu : 100 * ((u * u).natAbs : Int) <= 101 * P := by
    have := hP.2
    omega
  have e3 : 9007199254740992 * ((P - u * u).natAbs : Int) <= P := by omega
  have := f_k1 d e3 hu p0
  omega
theorem f_k2 {A B E P1 P2 Q : Int} (a : 100 * (9007199254740992 * A) <= 305 * P1) (b : 100 * (9007199254740992 * B) <= 305 * P2) (e : 9007199254740992 * E <= Q) (q : 100 * (P1 + P2) <= 101 * Q) (q0 : 0 <= Q) : 100 * (9007199254740992 * (A + B + E)) <= 410 * Q := by
  have : 9007199254740992 * (A + B + E) = 9007199254740992 * A + 9007199254740992 * B + 9007199254740992 * E := by rw [Int.mul_add, Int.mul_add]
  rw [this]
  generalize 9007199254740992 * A = a' at *
  generalize 9007199254740992 * B = b' at *
  generalize 9007199254740992 * E = e' at *
  omega
theorem two_dev {x1 x2 u1 u2 P1 P2 Q : Int} (h1 : Un x1 u1) (h2 : Un x2 u2) (p1 : Un (u1 * u1) P1) (p2 : Un (u2 * u2) P2) (q : Un (P1 + P2) Q) : 0 <= Q ∧ 100 * (9007199254740992 * (((x1 * x1 + x2 * x2) - Q).natAbs : Int)) <= 410 * Q := by
  obtain ⟨a0, a1⟩ := sq_dev h1 p1
  obtain ⟨b0, b1⟩ := sq_dev h2 p2
  have q0 := un_nonneg q (by omega)
  refine ⟨q0, ?_⟩
  have e := q.2
  have e' : 9007199254740992 * ((Q - (P1 + P2)).natAbs : Int) <= Q := by omega
  have hq : 100 * (P1 + P2) <= 101 * Q := by omega
  have k := f_k2 a1 b1 e' hq q0
  have t : (((x1 * x1 + x2 * x2) - Q).natAbs : Int) <= ((x1 * x1 - P1).natAbs : Int) + ((x2 * x2 - P2).natAbs : Int) + ((Q - (P1 + P2)).natAbs : Int) := by omega
  generalize (((x1 * x1 + x2 * x2) - Q).natAbs : Int) = y at *
  generalize ((x1 * x1 - P1).natAbs : Int) + ((x2 * x2 - P2).natAbs : Int) + ((Q - (P1 + P2)).natAbs : Int) = z at *
  omega
theorem f_k3 {Y A B Q R S T M d z : Int} (y : Y <= A + B) (a : 100 * (9007199254740992 * A) <= 410 * Q) (b : 100 * (9007199254740992 * B) <= 410 * R) (s : 100 * (Q + R) <= 101 * S) (s0 : 0 < S) (dz : 100 * d <= 101 * z) (md : M <= d) (tm : 99 * T <= 100 * M) (ts : 9007199254740992 * T = 16 * S) : Y < z := by
  have a1 : 9007199254740992 * Y <= 9007199254740992 * A + 9007199254740992 * B := by omega
  have a2 : 100 * (9007199254740992 * d) <= 101 * (9007199254740992 * z) := by omega
  have a3 : 9007199254740992 * M <= 9007199254740992 * d := by omega
  have a4 : 99 * (9007199254740992 * T) <= 100 * (9007199254740992 * M) := by omega
  have a5 : 9007199254740992 * Y < 9007199254740992 * z := by
    generalize 9007199254740992 * Y = e1 at *
    generalize 9007199254740992 * A = e2 at *
    generalize 9007199254740992 * B = e3 at *
    generalize 9007199254740992 * d = e4 at *
    generalize 9007199254740992 * z = e5 at *
    generalize 9007199254740992 * M = e6 at *
    generalize 9007199254740992 * T = e7 at *
    omega
  omega
theorem far_flt {x1 x2 y1 y2 u1 u2 v1 v2 P1 P2 R1 R2 Q R D S T M : Int} (h1 : Un x1 u1) (h2 : Un x2 u2) (h3 : Un y1 v1) (h4 : Un y2 v2) (p1 : Un (u1 * u1) P1) (p2 : Un (u2 * u2) P2) (r1 : Un (v1 * v1) R1) (r2 : Un (v2 * v2) R2) (hQ : Un (P1 + P2) Q) (hR : Un (R1 + R2) R) (hD : Un (Q - R) D) (hS : Un (Q + R) S)
    (hT : 9007199254740992 * T = 16 * S) (hM : Un T M) (h : M < (D.natAbs : Int)) : (0 < (x1 * x1 + x2 * x2) - (y1 * y1 + y2 * y2) ↔ 0 < D) ∧ ((x1 * x1 + x2 * x2) - (y1 * y1 + y2 * y2) < 0 ↔ D < 0) := by
  obtain ⟨q0, qd⟩ := two_dev h1 h2 p1 p2 hQ
  obtain ⟨r0, rd⟩ := two_dev h3 h4 r1 r2 hR
  have s0 := un_nonneg hS (by omega)
  have t0 : 0 <= T := by omega
  have m0 := un_nonneg hM t0
  have hqs : 100 * (Q + R) <= 101 * S := by
    have := hS.2
    omega
  have s1 : 0 < S := by
    rcases Int.lt_or_eq_of_le s0 with c | c
    . exact c
    . exfalso
      have q1 : Q = 0 := by omega
      have q2 : R = 0 := by omega
      have := hD.1
      rw [q1, q2] at this
      omega
  refine k_sg hD (f_k3 ?_ qd rd hqs s1 (m_k3 hD) (Int.le_of_lt h) (m_k4 hM t0) hT)
  omega
theorem key_absL {m d : Int} (hm : rng m) (hd : rng d) (h : key m < rg d) : iV m < ((iV d).natAbs : Int) := by
  obtain ⟨q1, q2⟩ := q_rg hd
  have e : iV (rg d) = ((iV d).natAbs : Int) := by
    rw [iV_abs, iV, decide_eq_false (by omega), rg_rg hd]
    rfl
  rw [<- e]
  exact iV_mono hm q1 (by rw [q_key q2]; exact h)
def farX (ax ay bx by' cx cy dx dy : Int) : Int := dotX ax ay bx by' ax ay - dotX cx cy dx dy cx cy
theorem far_sign {ax ay bx by' cx cy dx dy : Int} (hax : Mz ax) (hay : Mz ay) (hbx : Mz bx) (hby : Mz by') (hcx : Mz cx) (hcy : Mz cy) (hdx : Mz dx) (hdy : Mz dy) :
    Fx 568 1336 (fprod m49 (faS ax ay bx by' cx cy dx dy)) ∧ (iV (fprod m49 (faS ax ay bx by' cx cy dx dy)) < ((iV (faD ax ay bx by' cx cy dx dy)).natAbs : Int) ->
    (0 < farX ax ay bx by' cx cy dx dy ↔ 0 < iV (faD ax ay bx by' cx cy dx dy)) ∧ (farX ax ay bx by' cx cy dx dy < 0 ↔ iV (faD ax ay bx by' cx cy dx dy) < 0)) := by
  obtain ⟨f1, n1⟩ := hax.diff hbx
  obtain ⟨f2, n2⟩ := hay.diff hby
  obtain ⟨f3, n3⟩ := hcx.diff hdx
  obtain ⟨f4, n4⟩ := hcy.diff hdy
  obtain ⟨l1, lu1, _⟩ := f1.prod f1 (by decide) (by decide) (by decide)
  obtain ⟨l2, lu2, _⟩ := f2.prod f2 (by decide) (by decide) (by decide)
  obtain ⟨l3, lu3, _⟩ := f3.prod f3 (by decide) (by decide) (by decide)
  obtain ⟨l4, lu4, _⟩ := f4.prod f4 (by decide) (by decide) (by decide)
  obtain ⟨q, qu⟩ := l1.sum l2 (by decide)
  obtain ⟨r, ru⟩ := l3.sum l4 (by decide)
  obtain ⟨rn, re⟩ := r.neg
  obtain ⟨d, du⟩ := q.sum rn (by decide)
  obtain ⟨s, su⟩ := q.sum r (by decide)
  rw [re, <- Int.sub_eq_add_neg] at du
  obtain ⟨m, _, T, hT, uT⟩ := fx_m49.prod s (by decide) (by decide) (by decide)
  refine ⟨m, fun h => ?_⟩
  have e1 : faD ax ay bx by' cx cy dx dy = fsum (fsum (fprod (fsum ax (neg bx)) (fsum ax (neg bx))) (fprod (fsum ay (neg by')) (fsum ay (neg by')))) (neg (fsum (fprod (fsum cx (neg dx)) (fsum cx (neg dx))) (fprod (fsum cy (neg dy)) (fsum cy (neg dy))))) := rfl
  have e2 : faS ax ay bx by' cx cy dx dy = fsum (fsum (fprod (fsum ax (neg bx)) (fsum ax (neg bx))) (fprod (fsum ay (neg by')) (fsum ay (neg by')))) (fsum (fprod (fsum cx (neg dx)) (fsum cx (neg dx))) (fprod (fsum cy (neg dy)) (fsum cy (neg dy)))) := rfl
  rw [e1] at h ⊢
  rw [e2] at h
  have p := p2 1074
  have p0 := Int.le_of_lt p
  have qu' := qu.scale p0
  rw [Int.mul_add] at qu'
  have ru' := ru.scale p0
  rw [Int.mul_add] at ru'
  have du' := du.scale p0
  rw [Int.mul_sub] at du'
  have su' := su.scale p0
  rw [Int.mul_add] at su'
  generalize fsum (fsum (fprod (fsum ax (neg bx)) (fsum ax (neg bx))) (fprod (fsum ay (neg by')) (fsum ay (neg by')))) (neg (fsum (fprod (fsum cx (neg dx)) (fsum cx (neg dx))) (fprod (fsum cy (neg dy)) (fsum cy (neg dy))))) = D at *
  generalize fsum (fsum (fprod (fsum ax (neg bx)) (fsum ax (neg bx))) (fprod (fsum ay (neg by')) (fsum ay (neg by')))) (fsum (fprod (fsum cx (neg dx)) (fsum cx (neg dx))) (fprod (fsum cy (neg dy)) (fsum cy (neg dy)))) = S at *
  have hT' : 9007199254740992 * (2 ^ 1074 * T) = 16 * (2 ^ 1074 * iV S) := by
    rw [hT, iV_m49, show (2 : Int) ^ 1074 = 2 ^ 99 * 2 ^ 975 by rw [<- Int.pow_add], show (2 : Int) ^ 99 = 633825300114114700748351602688 by decide]
    generalize (2 : Int) ^ 975 = z
    generalize iV S = x
    rw [Int.mul_assoc, Int.mul_assoc]
    generalize z * x = y
    omega
  have hM : 2 ^ 1074 * iV (fprod m49 S) < ((2 ^ 1074 * iV D).natAbs : Int) := by
    rw [sc_abs p0]
    exact Int.mul_lt_mul_of_pos_left h p
  obtain ⟨r1, r2⟩ := far_flt n1 n2 n3 n4 lu1 lu2 lu3 lu4 qu' ru' du' su' hT' (uT.scale p0) hM
  unfold farX dotX
  rw [r1, r2]
  exact sc_sgn p
set_option maxRecDepth 100000 in
set_option maxHeartbeats 2000000 in
theorem mFarther_walk {ax ay bx by' cx cy dx dy : Int} {V U E : Int} (w : World) (H : Hold4 w) (hV : ∀ (W : World) (ga gb gc gd gl : Nat), Hold4 W -> W.heap[ga]? = some (.cells #[.int .i64 ax, .int .i64 ay] 23) -> W.heap[gb]? = some (.cells #[.int .i64 bx, .int .i64 by'] 23) -> W.heap[gc]? = some (.cells #[.int .i64 cx, .int .i64 cy] 23) -> W.heap[gd]? = some (.cells #[.int .i64 dx, .int .i64 dy] 23) -> W.heap[gl]? = some (.cells #[.int .i64 ax, .int .i64 ay, .int .i64 bx, .int .i64 by', .int .i64 cx, .int .i64 cy, .int .i64 dx, .int .i64 dy] 23) -> Calls Tryz.prog 25 #[.agg #[.func (.func 14) #[] #[.pointer (some ⟨ga, 0, none⟩), .pointer (some ⟨gb, 0, none⟩), .pointer (some ⟨gc, 0, none⟩), .pointer (some ⟨gd, 0, none⟩)], .func (.func 16) #[] #[.pointer (some ⟨ga, 0, none⟩), .pointer (some ⟨gb, 0, none⟩), .pointer (some ⟨gc, 0, none⟩), .pointer (some ⟨gd, 0, none⟩)], .func (.func 19) #[] #[.pointer (some ⟨ga, 0, none⟩), .pointer (some ⟨gb, 0, none⟩), .pointer (some ⟨gc, 0, none⟩), .pointer (some ⟨gd, 0, none⟩)], .func (.func 22) #[] #[.pointer (some ⟨ga, 0, none⟩), .pointer (some ⟨gb, 0, none⟩), .pointer (some ⟨gc, 0, none⟩), .pointer (some ⟨gd, 0, none⟩)]], .slice (some ⟨gl, 0, none⟩) 4 4] W fun r w' => r = .returned (.tuple #[.agg #[.int .i64 V, .int .i64 U], .int .i64 E]) ∧ Below W.heap.size W w') :
    Calls Tryz.prog 6 #[.agg #[.int .i64 ax, .int .i64 ay], .agg #[.int .i64 bx, .int .i64 by'], .agg #[.int .i64 cx, .int .i64 cy], .agg #[.int .i64 dx, .int .i64 dy]] w fun r w' => r = .returned (.tuple #[.agg #[.int .i64 V, .int .i64 U], .int .i64 E]) ∧ Below w.heap.size w w' := by
  have HV : Hid (∀ (W : World) (ga gb gc gd gl : Nat), Hold4 W -> W.heap[ga]? = some (.cells #[.int .i64 ax, .int .i64 ay] 23) -> W.heap[gb]? = some (.cells #[.int .i64 bx, .int .i64 by'] 23) -> W.heap[gc]? = some (.cells #[.int .i64 cx, .int .i64 cy] 23) -> W.heap[gd]? = some (.cells #[.int .i64 dx, .int .i64 dy] 23) -> W.heap[gl]? = some (.cells #[.int .i64 ax, .int .i64 ay, .int .i64 bx, .int .i64 by', .int .i64 cx, .int .i64 cy, .int .i64 dx, .int .i64 dy] 23) -> Calls Tryz.prog 25 #[.agg #[.func (.func 14) #[] #[.pointer (some ⟨ga, 0, none⟩), .pointer (some ⟨gb, 0, none⟩), .pointer (some ⟨gc, 0, none⟩), .pointer (some ⟨gd, 0, none⟩)], .func (.func 16) #[] #[.pointer (some ⟨ga, 0, none⟩), .pointer (some ⟨gb, 0, none⟩), .pointer (some ⟨gc, 0, none⟩), .pointer (some ⟨gd, 0, none⟩)], .func (.func 19) #[] #[.pointer (some ⟨ga, 0, none⟩), .pointer (some ⟨gb, 0, none⟩), .pointer (some ⟨gc, 0, none⟩), .pointer (some ⟨gd, 0, none⟩)], .func (.func 22) #[] #[.pointer (some ⟨ga, 0, none⟩), .pointer (some ⟨gb, 0, none⟩), .pointer (some ⟨gc, 0, none⟩), .pointer (some ⟨gd, 0, none⟩)]], .slice (some ⟨gl, 0, none⟩) 4 4] W fun r w' => r = .returned (.tuple #[.agg #[.int .i64 V, .int .i64 U], .int .i64 E]) ∧ Below W.heap.size W w') := hV
  clear hV
  have hst : ∀ p F c m w, (store p (.func (.func F) #[] c) m).run Tryz.prog w = stored Tryz.prog w p (.func (.func F) #[] c) m := fun p F c m w => run_store _ w p _ m rfl
  obtain ⟨hb0, a_k, b_k, c_k, d_k, r_k, s_k, hsz0⟩ := blks6 w (.cells #[.int .i64 ax, .int .i64 ay] 23) (.cells #[.int .i64 bx, .int .i64 by'] 23) (.cells #[.int .i64 cx, .int .i64 cy] 23) (.cells #[.int .i64 dx, .int .i64 dy] 23) (.cells #[.int .i64 0, .int .i64 0] 28) (.cells #[.func (.func 14) #[] #[.pointer (some ⟨w.heap.size, 0, none⟩), .pointer (some ⟨w.heap.size + 1, 0, none⟩), .pointer (some ⟨w.heap.size + 1 + 1, 0, none⟩), .pointer (some ⟨w.heap.size + 1 + 1 + 1, 0, none⟩)], .func (.func 16) #[] #[.pointer (some ⟨w.heap.size, 0, none⟩), .pointer (some ⟨w.heap.size + 1, 0, none⟩), .pointer (some ⟨w.heap.size + 1 + 1, 0, none⟩), .pointer (some ⟨w.heap.size + 1 + 1 + 1, 0, none⟩)], .func (.func 19) #[] #[.pointer (some ⟨w.heap.size, 0, none⟩), .pointer (some ⟨w.heap.size + 1, 0, none⟩), .pointer (some ⟨w.heap.size + 1 + 1, 0, none⟩), .pointer (some ⟨w.heap.size + 1 + 1 + 1, 0, none⟩)], .func (.func 22) #[] #[.pointer (some ⟨w.heap.size, 0, none⟩), .pointer (some ⟨w.heap.size + 1, 0, none⟩), .pointer (some ⟨w.heap.size + 1 + 1, 0, none⟩), .pointer (some ⟨w.heap.size + 1 + 1 + 1, 0, none⟩)]] 71)
  have hsz : Hid _ := hideIt hsz0
  clear hsz0
  have f_a0 := blkC a_k 0 rfl
  have f_a1 := blkC a_k 1 rfl
  have f_b0 := blkC b_k 0 rfl
  have f_b1 := blkC b_k 1 rfl
  have f_c0 := blkC c_k 0 rfl
  have f_c1 := blkC c_k 1 rfl
  have f_d0 := blkC d_k 0 rfl
  have f_d1 := blkC d_k 1 rfl
  have f_s0 := blkC s_k 0 rfl
  have f_s1 := blkC s_k 1 rfl
  have f_s2 := blkC s_k 2 rfl
  have f_s3 := blkC s_k 3 rfl
  go_enter Tryz.func6, Tryz.ntmps6
  go_wp2_with fail
  clear f_a0 f_a1 f_b0 f_b1 f_c0 f_c1 f_d0 f_d1 f_s0 f_s1 f_s2 f_s3
  generalize ((((((w.alloc (.cells #[.int .i64 ax, .int .i64 ay] 23)).alloc (.cells #[.int .i64 bx, .int .i64 by'] 23)).alloc (.cells #[.int .i64 cx, .int .i64 cy] 23)).alloc (.cells #[.int .i64 dx, .int .i64 dy] 23)).alloc (.cells #[.int .i64 0, .int .i64 0] 28)).alloc (.cells #[.func (.func 14) #[] #[.pointer (some ⟨w.heap.size, 0, none⟩), .pointer (some ⟨w.heap.size + 1, 0, none⟩), .pointer (some ⟨w.heap.size + 1 + 1, 0, none⟩), .pointer (some ⟨w.heap.size + 1 + 1 + 1, 0, none⟩)], .func (.func 16) #[] #[.pointer (some ⟨w.heap.size, 0, none⟩), .pointer (some ⟨w.heap.size + 1, 0, none⟩), .pointer (some ⟨w.heap.size + 1 + 1, 0, none⟩), .pointer (some ⟨w.heap.size + 1 + 1 + 1, 0, none⟩)], .func (.func 19) #[] #[.pointer (some ⟨w.heap.size, 0, none⟩), .pointer (some ⟨w.heap.size + 1, 0, none⟩), .pointer (some ⟨w.heap.size + 1 + 1, 0, none⟩), .pointer (some ⟨w.heap.size + 1 + 1 + 1, 0, none⟩)], .func (.func 22) #[] #[.pointer (some ⟨w.heap.size, 0, none⟩), .pointer (some ⟨w.heap.size + 1, 0, none⟩), .pointer (some ⟨w.heap.size + 1 + 1, 0, none⟩), .pointer (some ⟨w.heap.size + 1 + 1 + 1, 0, none⟩)]] 71)) = x0 at hb0 a_k b_k c_k d_k r_k s_k hsz ⊢
  have l_k := heap_new (.cells #[.int .i64 ax, .int .i64 ay, .int .i64 bx, .int .i64 by', .int .i64 cx, .int .i64 cy, .int .i64 dx, .int .i64 dy] 23) hsz.out.symm
  replace a_k := heap_past (.cells #[.int .i64 ax, .int .i64 ay, .int .i64 bx, .int .i64 by', .int .i64 cx, .int .i64 cy, .int .i64 dx, .int .i64 dy] 23) a_k
  replace b_k := heap_past (.cells #[.int .i64 ax, .int .i64 ay, .int .i64 bx, .int .i64 by', .int .i64 cx, .int .i64 cy, .int .i64 dx, .int .i64 dy] 23) b_k
  replace c_k := heap_past (.cells #[.int .i64 ax, .int .i64 ay, .int .i64 bx, .int .i64 by', .int .i64 cx, .int .i64 cy, .int .i64 dx, .int .i64 dy] 23) c_k
  replace d_k := heap_past (.cells #[.int .i64 ax, .int .i64 ay, .int .i64 bx, .int .i64 by', .int .i64 cx, .int .i64 cy, .int .i64 dx, .int .i64 dy] 23) d_k
  replace r_k := heap_past (.cells #[.int .i64 ax, .int .i64 ay, .int .i64 bx, .int .i64 by', .int .i64 cx, .int .i64 cy, .int .i64 dx, .int .i64 dy] 23) r_k
  replace hb0 := bel_trans hb0 (bel_alloc x0 (.cells #[.int .i64 ax, .int .i64 ay, .int .i64 bx, .int .i64 by', .int .i64 cx, .int .i64 cy, .int .i64 dx, .int .i64 dy] 23))
  replace H := H.keeps hb0
  refine (HV.out _ _ _ _ _  _ H a_k b_k c_k d_k l_k).mono ?_
  rintro _ y1 ⟨rfl, hw1⟩
  replace r_k := blk_on hw1 r_k
  replace hb0 := bel_trans hb0 hw1
  have k0 := blkC r_k 0 rfl
  have k1 := blkC r_k 1 rfl
  have z0 := blkF r_k 0
  have z1 := blkF r_k 1
  go_wp2
  exact bodyPost_ret (v := .tuple #[.agg #[.int .i64 V, .int .i64 U], .int .i64 E]) (by simp [results, Tryz.results6, go_sem, k0, k1]) rfl ⟨rfl, ((hb0.setCell (p := ⟨w.heap.size + 4, 0, none⟩) (show w.heap.size <= w.heap.size + 4 by omega) _).setCell (p := ⟨w.heap.size + 4, 1, none⟩) (show w.heap.size <= w.heap.size + 4 by omega) _)⟩
theorem farV_X {ax ay bx by' cx cy dx dy : Int} (rax : rng ax) (ray : rng ay) (rbx : rng bx) (rby : rng by') (rcx : rng cx) (rcy : rng cy) (rdx : rng dx) (rdy : rng dy) (pax : pok ax = true) (pay : pok ay = true) (pbx : pok bx = true) (pby : pok by' = true) (pcx : pok cx = true) (pcy : pok cy = true) (pdx : pok dx = true) (pdy : pok dy = true) :
    FarV ax ay bx by' cx cy dx dy (farX ax ay bx by' cx cy dx dy * pw (-2148)) :=
  ⟨_, _, dot2_X rax ray rbx rby rax ray pax pay pbx pby pax pay, dot2_X rcx rcy rdx rdy rcx rcy pcx pcy pdx pdy pcx pcy, by unfold farX; rw [Int.sub_mul]⟩
theorem dot_mulS {a1 a2 c1 c2 V : Int} (h : Dot2 a1 a2 c1 c2 V) : mulS a1 c1 + mulS a2 c2 = V := by
  obtain ⟨C, D, h1, h2, h3⟩ := h
  rw [h3, mulS_of h1, mulS_of h2]
theorem f_okk {ax ay bx by' cx cy dx dy : Int} (rax : rng ax) (ray : rng ay) (rbx : rng bx) (rby : rng by') (rcx : rng cx) (rcy : rng cy) (rdx : rng dx) (rdy : rng dy) (pax : pok ax = true) (pay : pok ay = true) (pbx : pok bx = true) (pby : pok by' = true) (pcx : pok cx = true) (pcy : pok cy = true) (pdx : pok dx = true) (pdy : pok dy = true) :
    Okk (fLo ax ay bx by' cx cy dx dy) (fHi ax ay bx by' cx cy dx dy) (farX ax ay bx by' cx cy dx dy * pw (-2148)) := by
  have h := (subX (okk_pin (d_okk rax ray rbx rby rax ray pax pay pbx pby pax pay)) (okk_pin (d_okk rcx rcy rdx rdy rcx rcy pcx pcy pdx pdy pcx pcy))).2
  rw [dot_mulS (dot2_X rax ray rbx rby rax ray pax pay pbx pby pax pay), dot_mulS (dot2_X rcx rcy rdx rdy rcx rcy pcx pcy pdx pdy pcx pcy), <- Int.sub_mul] at h
  exact h
def allT4 (ax ay bx by' cx cy dx dy : Int) : Bool := pttame ax ay && pttame bx by' && pttame cx cy && pttame dx dy
def faSt (ax ay bx by' cx cy dx dy : Int) : Int :=
  if allT4 ax ay bx by' cx cy dx dy then (if key (fprod c49 (faS ax ay bx by' cx cy dx dy)) < rg (faD ax ay bx by' cx cy dx dy) then 1 else 4)
  else (if sgK (fLo ax ay bx by' cx cy dx dy) (fHi ax ay bx by' cx cy dx dy) then 5 else 6)
theorem tame4 {ax ay bx by' cx cy dx dy : Int} (rax : rng ax) (ray : rng ay) (rbx : rng bx) (rby : rng by') (rcx : rng cx) (rcy : rng cy) (rdx : rng dx) (rdy : rng dy) (h : allT4 ax ay bx by' cx cy dx dy = true) : Mz ax ∧ Mz ay ∧ Mz bx ∧ Mz by' ∧ Mz cx ∧ Mz cy ∧ Mz dx ∧ Mz dy := by
  unfold allT4 pttame at h
  simp only [Bool.and_eq_true] at h
  obtain ⟨⟨⟨⟨a1, a2⟩, b1, b2⟩, c1, c2⟩, d1, d2⟩ := h
  exact ⟨tame_Mz rax a1, tame_Mz ray a2, tame_Mz rbx b1, tame_Mz rby b2, tame_Mz rcx c1, tame_Mz rcy c2, tame_Mz rdx d1, tame_Mz rdy d2⟩
set_option maxRecDepth 100000 in
theorem mFarther_t {ax ay bx by' cx cy dx dy : Int} (rax : rng ax) (ray : rng ay) (rbx : rng bx) (rby : rng by') (rcx : rng cx) (rcy : rng cy) (rdx : rng dx) (rdy : rng dy) (hT : allT4 ax ay bx by' cx cy dx dy = true) (w : World) (H : Hold4 w) :
    Calls Tryz.prog 6 #[.agg #[.int .i64 ax, .int .i64 ay], .agg #[.int .i64 bx, .int .i64 by'], .agg #[.int .i64 cx, .int .i64 cy], .agg #[.int .i64 dx, .int .i64 dy]] w fun r w' => r = .returned (.tuple #[.agg #[.int .i64 (ord (farX ax ay bx by' cx cy dx dy) 0), .int .i64 (faSt ax ay bx by' cx cy dx dy)], .int .i64 0]) ∧ Below w.heap.size w w' := by
  obtain ⟨hax, hay, hbx, hby, hcx, hcy, hdx, hdy⟩ := tame4 rax ray rbx rby rcx rcy rdx rdy hT
  have hE1 : ∀ (cap : Array Value) (w : World), (callFunc 14 cap).run Tryz.prog w = .ok (.enter 14 cap) w := by intro cap w; simp [go_sem]
  have hE2 : ∀ (cap : Array Value) (w : World), (callFunc 16 cap).run Tryz.prog w = .ok (.enter 16 cap) w := by intro cap w; simp [go_sem]
  have fS := faS_fx hax hay hbx hby hcx hcy hdx hdy
  have fD := faD_fx hax hay hbx hby hcx hcy hdx hdy
  obtain ⟨fM, hsg⟩ := far_sign hax hay hbx hby hcx hcy hdx hdy
  refine mFarther_walk w H fun W ga gb gc gd gl HW ha hb hc hd hl => ?_
  refine mVerdict_tame _ _ _ _ _ _ _ _ W (fun W' hw => ?_) (fun W' hw => ?_)
  . have := mtame_any _ _ _ _ _ W' ((pts4 W hl).keeps hw) (rng4 rax rbx rcx rdx) (rng4 ray rby rcy rdy)
    rw [allB4 pttame, show (pttame ax ay && pttame bx by' && pttame cx cy && pttame dx dy) = true from hT] at this
    exact this
  . have hst : faSt ax ay bx by' cx cy dx dy = if key (fprod c49 (faS ax ay bx by' cx cy dx dy)) < rg (faD ax ay bx by' cx cy dx dy) then 1 else 4 := by
      unfold faSt; rw [hT]; rfl
    have C0 : ∀ W2, Below W'.heap.size W' W2 -> Calls Tryz.prog 14 #[.pointer (some ⟨ga, 0, none⟩), .pointer (some ⟨gb, 0, none⟩), .pointer (some ⟨gc, 0, none⟩), .pointer (some ⟨gd, 0, none⟩)] W2 fun r w' => r = .returned (.tuple #[.float .f64 (wd (faD ax ay bx by' cx cy dx dy)), .float .f64 (wd (faS ax ay bx by' cx cy dx dy))]) ∧ Below W2.heap.size W2 w' := fun W2 h2 =>
      mFar1 hax hay hbx hby hcx hcy hdx hdy W2 (blk_on (bel_trans hw h2) ha) (blk_on (bel_trans hw h2) hb) (blk_on (bel_trans hw h2) hc) (blk_on (bel_trans hw h2) hd)
    by_cases hc1 : key (fprod c49 (faS ax ay bx by' cx cy dx dy)) < rg (faD ax ay bx by' cx cy dx dy)
    . have e : ord (farX ax ay bx by' cx cy dx dy) 0 = sgP (faD ax ay bx by' cx cy dx dy) := by
        obtain ⟨r1, r2⟩ := hsg (key_absL fM.r fD.r hc1)
        rw [sgP_iV fD.r]
        exact ord_iff r1 r2
      rw [hst, if_pos hc1, e]
      exact mTame_yes _ _ _ _ _ _ _ _ fD.r fD.p fS.r fS.p fM.p hc1 W' hE1 C0
    . rw [hst, if_neg hc1]
      refine mTame_no _ _ _ _ _ _ _ _ fD.r fD.p fS.r fS.p fM.p (Int.not_lt.1 hc1) W' hE1 C0 hE2 (fun W2 h2 => ?_)
      have H2 := HW.keeps (bel_trans hw h2)
      refine (mFarther2 hax hay hbx hby hcx hcy hdx hdy W2 H2 (blk_on (bel_trans hw h2) ha) (blk_on (bel_trans hw h2) hb) (blk_on (bel_trans hw h2) hc) (blk_on (bel_trans hw h2) hd)).mono ?_
      rintro _ w3 ⟨o, c', rfl, hL, hb3⟩
      refine ⟨o, _, c', rfl, fun W4 h4 => ?_, hb3⟩
      obtain ⟨_, xv, xs⟩ := frL_all hax hay hbx hby hcx hcy hdx hdy
      have := xSign W4 (hL.keeps h4) xv ((H2.keeps hb3).keeps h4)
      have e : ord (lsm (frL ax ay bx by' cx cy dx dy).d (frL ax ay bx by' cx cy dx dy).n) 0 = ord (farX ax ay bx by' cx cy dx dy) 0 := by
        unfold farX dotX
        rw [<- xs, Int.mul_comm, ord_mulP (p2 1074)]
      rw [e] at this
      exact this
set_option maxRecDepth 100000 in
theorem mFarther_w {ax ay bx by' cx cy dx dy : Int} (rax : rng ax) (ray : rng ay) (rbx : rng bx) (rby : rng by') (rcx : rng cx) (rcy : rng cy) (rdx : rng dx) (rdy : rng dy) (pax : pok ax = true) (pay : pok ay = true) (pbx : pok bx = true) (pby : pok by' = true) (pcx : pok cx = true) (pcy : pok cy = true) (pdx : pok dx = true) (pdy : pok dy = true) (hT : allT4 ax ay bx by' cx cy dx dy = false) (w : World) (H : Hold4 w) :
    Calls Tryz.prog 6 #[.agg #[.int .i64 ax, .int .i64 ay], .agg #[.int .i64 bx, .int .i64 by'], .agg #[.int .i64 cx, .int .i64 cy], .agg #[.int .i64 dx, .int .i64 dy]] w fun r w' => r = .returned (.tuple #[.agg #[.int .i64 (ord (farX ax ay bx by' cx cy dx dy) 0), .int .i64 (faSt ax ay bx by' cx cy dx dy)], .int .i64 0]) ∧ Below w.heap.size w w' := by
  have hE3 : ∀ (cap : Array Value) (w : World), (callFunc 19 cap).run Tryz.prog w = .ok (.enter 19 cap) w := by intro cap w; simp [go_sem]
  have hE4 : ∀ (cap : Array Value) (w : World), (callFunc 22 cap).run Tryz.prog w = .ok (.enter 22 cap) w := by intro cap w; simp [go_sem]
  have hD := farV_X rax ray rbx rby rcx rcy rdx rdy pax pay pbx pby pcx pcy pdx pdy
  have ok := f_okk rax ray rbx rby rcx rcy rdx rdy pax pay pbx pby pcx pcy pdx pdy
  have hst : faSt ax ay bx by' cx cy dx dy = if sgK (fLo ax ay bx by' cx cy dx dy) (fHi ax ay bx by' cx cy dx dy) then 5 else 6 := by
    unfold faSt; rw [hT]; rfl
  refine mFarther_walk w H fun W ga gb gc gd gl HW ha hb hc hd hl => ?_
  refine mVerdict_wild _ _ _ _ _ _ _ _ W (fun W' hw => ?_) (fun W' hw => ?_) (fun W' hw => ?_)
  . have := mtame_any _ _ _ _ _ W' ((pts4 W hl).keeps hw) (rng4 rax rbx rcx rdx) (rng4 ray rby rcy rdy)
    rw [allB4 pttame, show (pttame ax ay && pttame bx by' && pttame cx cy && pttame dx dy) = false from hT] at this
    exact this
  . have := mgood_any _ _ _ _ _ W' ((pts4 W hl).keeps hw) (rng4 rax rbx rcx rdx) (rng4 ray rby rcy rdy)
    rw [allB4 ptok, show (ptok ax ay && ptok bx by' && ptok cx cy && ptok dx dy) = true by unfold ptok; rw [pax, pay, pbx, pby, pcx, pcy, pdx, pdy]; rfl] at this
    exact this
  . have C2 : ∀ W2, Below W'.heap.size W' W2 -> Calls Tryz.prog 19 #[.pointer (some ⟨ga, 0, none⟩), .pointer (some ⟨gb, 0, none⟩), .pointer (some ⟨gc, 0, none⟩), .pointer (some ⟨gd, 0, none⟩)] W2 fun r w' => r = .returned (.agg #[.int .i64 (fLo ax ay bx by' cx cy dx dy), .int .i64 (fHi ax ay bx by' cx cy dx dy)]) ∧ Below W2.heap.size W2 w' := fun W2 h2 =>
      mFarther3 rax ray rbx rby rcx rcy rdx rdy pax pay pbx pby pcx pcy pdx pdy W2 (HW.keeps (bel_trans hw h2)) (blk_on (bel_trans hw h2) ha) (blk_on (bel_trans hw h2) hb) (blk_on (bel_trans hw h2) hc) (blk_on (bel_trans hw h2) hd)
    have CS := fun W2 => spanSignE ok.lo.1 ok.hi.1 W2
    have hso := sgn_has ok
    rw [ord_mulP (pw_pos _)] at hso
    cases hk : sgK (fLo ax ay bx by' cx cy dx dy) (fHi ax ay bx by' cx cy dx dy)
    . rw [hk] at CS hst
      rw [hst]
      refine mWild_no _ _ _ _ _ _ _ _ W' hE3 C2 CS hE4 (fun W2 h2 => ?_)
      have H2 := HW.keeps (bel_trans hw h2)
      refine (mFarther4 pax pay pbx pby pcx pcy pdx pdy W2 H2 (blk_on (bel_trans hw h2) ha) (blk_on (bel_trans hw h2) hb) (blk_on (bel_trans hw h2) hc) (blk_on (bel_trans hw h2) hd)).mono ?_
      rintro _ w3 ⟨v, V, rfl, hA, hV, hB⟩
      obtain ⟨n_g, n_o, n_n, n_c, n_e, rfl⟩ := dans_shape hA
      refine ⟨n_g, n_o, n_n, n_c, n_e, rfl, fun W4 h4 => ?_, hA.below⟩
      have := sign_D (hA.num.keeps h4) (hB.ok (by omega))
      rw [hV.unique hD, ord_mulP (pw_pos _)] at this
      exact this
    . rw [hk] at CS hst
      rw [hso hk] at CS
      rw [hst]
      exact mWild_yes (U := 0) _ _ _ _ _ _ _ _ W' hE3 C2 CS
theorem mFarther_ok {ax ay bx by' cx cy dx dy : Int} (rax : rng ax) (ray : rng ay) (rbx : rng bx) (rby : rng by') (rcx : rng cx) (rcy : rng cy) (rdx : rng dx) (rdy : rng dy) (pax : pok ax = true) (pay : pok ay = true) (pbx : pok bx = true) (pby : pok by' = true) (pcx : pok cx = true) (pcy : pok cy = true) (pdx : pok dx = true) (pdy : pok dy = true) (w : World) (H : Hold4 w) :
    Calls Tryz.prog 6 #[.agg #[.int .i64 ax, .int .i64 ay], .agg #[.int .i64 bx, .int .i64 by'], .agg #[.int .i64 cx, .int .i64 cy], .agg #[.int .i64 dx, .int .i64 dy]] w fun r w' => r = .returned (.tuple #[.agg #[.int .i64 (ord (farX ax ay bx by' cx cy dx dy) 0), .int .i64 (faSt ax ay bx by' cx cy dx dy)], .int .i64 0]) ∧ Below w.heap.size w w' := by
  cases hT : allT4 ax ay bx by' cx cy dx dy
  . exact mFarther_w rax ray rbx rby rcx rcy rdx rdy pax pay pbx pby pcx pcy pdx pdy hT w H
  . exact mFarther_t rax ray rbx rby rcx rcy rdx rdy hT w H
end Go.Proofs.YthpachmmjjlomaaGreatDoor
