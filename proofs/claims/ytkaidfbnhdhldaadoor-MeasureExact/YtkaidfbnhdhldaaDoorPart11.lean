/-
  Parts of the proof, one behind another.
-/
import Derived.Test.YtkaidfbnhdhldaaDoorPart10
import Derived.Test.YtkaidfbnhdhldaaDoorPart7
import Derived.Deep.RegionHeld3
import Derived.Test.YtkaidfbnhdhldaaDoorPart6
import Derived.Test.YtkaidfbnhdhldaaDoorPart8
import Derived.Test.YtkaidfbnhdhldaaDoorPart5
import Derived.Test.YtkaidfbnhdhldaaDoorPart9
/-
  Package measure: Dot, Square, by their contracts.
-/
namespace Go.Proofs.YtkaidfbnhdhldaaDoor
open Go Go.RowKit Go.Proofs.YtkaidfbnhdhldaaDoor.M
set_option linter.unusedSimpArgs false
set_option linter.unusedVariables false

set_option maxRecDepth 100000 in
set_option maxHeartbeats 1000000 in
theorem mDot_no {ax ay bx by' cx cy : Int} (rax : rng ax) (ray : rng ay) (rbx : rng bx) (rby : rng by') (rcx : rng cx) (rcy : rng cy) (hno : (ptok ax ay && ptok bx by' && ptok cx cy) = false) (w : World) :
    Calls Tryd.prog 6 #[.agg #[.int .i64 ax, .int .i64 ay], .agg #[.int .i64 bx, .int .i64 by'], .agg #[.int .i64 cx, .int .i64 cy]] w fun r w' => r = .returned (.tuple #[.agg #[.bool false, .slice none 0 0, .int .i64 0], .int .i64 10]) ∧ Below w.heap.size w w' := by
  have CG : Hid (∀ W g, W.heap[g]? = some (.cells #[.int .i64 ax, .int .i64 ay, .int .i64 bx, .int .i64 by', .int .i64 cx, .int .i64 cy] 23) → Calls Tryd.prog 13 #[.slice (some ⟨g, 0, none⟩) 3 3] W fun x w' => x = .returned (.bool false) ∧ Below W.heap.size W w') := fun W g h => by
    have := mgood_any _ _ _ _ _ W (pts3 W h) (rng3 rax rbx rcx) (rng3 ray rby rcy)
    rw [allB3] at this
    rw [hno] at this
    exact this
  clear rax ray rbx rby rcx rcy hno
  have a_k : (w.alloc (.cells #[.int .i64 ax, .int .i64 ay] 23)).heap[w.heap.size]? = some (.cells #[.int .i64 ax, .int .i64 ay] 23) := heap_new (.cells #[.int .i64 ax, .int .i64 ay] 23) (by rfl)
  have hb0 := bel_alloc w (.cells #[.int .i64 ax, .int .i64 ay] 23)
  replace a_k := heap_past (.cells #[.int .i64 bx, .int .i64 by'] 23) a_k
  have b_k : ((w.alloc (.cells #[.int .i64 ax, .int .i64 ay] 23)).alloc (.cells #[.int .i64 bx, .int .i64 by'] 23)).heap[w.heap.size + 1]? = some (.cells #[.int .i64 bx, .int .i64 by'] 23) := heap_new (.cells #[.int .i64 bx, .int .i64 by'] 23) (by simp only [size_alloc])
  replace hb0 := bel_trans hb0 (bel_alloc (w.alloc (.cells #[.int .i64 ax, .int .i64 ay] 23)) (.cells #[.int .i64 bx, .int .i64 by'] 23))
  replace a_k := heap_past (.cells #[.int .i64 cx, .int .i64 cy] 23) a_k
  replace b_k := heap_past (.cells #[.int .i64 cx, .int .i64 cy] 23) b_k
  have c_k : (((w.alloc (.cells #[.int .i64 ax, .int .i64 ay] 23)).alloc (.cells #[.int .i64 bx, .int .i64 by'] 23)).alloc (.cells #[.int .i64 cx, .int .i64 cy] 23)).heap[w.heap.size + 1 + 1]? = some (.cells #[.int .i64 cx, .int .i64 cy] 23) := heap_new (.cells #[.int .i64 cx, .int .i64 cy] 23) (by simp only [size_alloc])
  replace hb0 := bel_trans hb0 (bel_alloc ((w.alloc (.cells #[.int .i64 ax, .int .i64 ay] 23)).alloc (.cells #[.int .i64 bx, .int .i64 by'] 23)) (.cells #[.int .i64 cx, .int .i64 cy] 23))
  replace a_k := heap_past (.cells #[.bool false, .slice none 0 0, .int .i64 0] 27) a_k
  replace b_k := heap_past (.cells #[.bool false, .slice none 0 0, .int .i64 0] 27) b_k
  replace c_k := heap_past (.cells #[.bool false, .slice none 0 0, .int .i64 0] 27) c_k
  have r_k : ((((w.alloc (.cells #[.int .i64 ax, .int .i64 ay] 23)).alloc (.cells #[.int .i64 bx, .int .i64 by'] 23)).alloc (.cells #[.int .i64 cx, .int .i64 cy] 23)).alloc (.cells #[.bool false, .slice none 0 0, .int .i64 0] 27)).heap[w.heap.size + 1 + 1 + 1]? = some (.cells #[.bool false, .slice none 0 0, .int .i64 0] 27) := heap_new (.cells #[.bool false, .slice none 0 0, .int .i64 0] 27) (by simp only [size_alloc])
  replace hb0 := bel_trans hb0 (bel_alloc (((w.alloc (.cells #[.int .i64 ax, .int .i64 ay] 23)).alloc (.cells #[.int .i64 bx, .int .i64 by'] 23)).alloc (.cells #[.int .i64 cx, .int .i64 cy] 23)) (.cells #[.bool false, .slice none 0 0, .int .i64 0] 27))
  have hsz0 : ((((w.alloc (.cells #[.int .i64 ax, .int .i64 ay] 23)).alloc (.cells #[.int .i64 bx, .int .i64 by'] 23)).alloc (.cells #[.int .i64 cx, .int .i64 cy] 23)).alloc (.cells #[.bool false, .slice none 0 0, .int .i64 0] 27)).heap.size = w.heap.size + 1 + 1 + 1 + 1 := by simp only [size_alloc]
  have hsz : Hid (((((w.alloc (.cells #[.int .i64 ax, .int .i64 ay] 23)).alloc (.cells #[.int .i64 bx, .int .i64 by'] 23)).alloc (.cells #[.int .i64 cx, .int .i64 cy] 23)).alloc (.cells #[.bool false, .slice none 0 0, .int .i64 0] 27)).heap.size = w.heap.size + 1 + 1 + 1 + 1) := hsz0
  clear hsz0
  have f_a0 := blkC a_k 0 rfl
  have f_a1 := blkC a_k 1 rfl
  have f_b0 := blkC b_k 0 rfl
  have f_b1 := blkC b_k 1 rfl
  have f_c0 := blkC c_k 0 rfl
  have f_c1 := blkC c_k 1 rfl
  go_enter Tryd.func6, Tryd.ntmps6
  go_wp2_with fail
  clear f_a0 f_a1 f_b0 f_b1 f_c0 f_c1
  generalize ((((w.alloc (.cells #[.int .i64 ax, .int .i64 ay] 23)).alloc (.cells #[.int .i64 bx, .int .i64 by'] 23)).alloc (.cells #[.int .i64 cx, .int .i64 cy] 23)).alloc (.cells #[.bool false, .slice none 0 0, .int .i64 0] 27)) = x0 at hb0 a_k b_k c_k r_k hsz ⊢
  refine (CG.out _ _ (heap_new _ hsz.out.symm)).mono ?_
  rintro _ y1 ⟨rfl, hw1⟩
  replace a_k := blk_on hw1 (heap_past (.cells #[.int .i64 ax, .int .i64 ay, .int .i64 bx, .int .i64 by', .int .i64 cx, .int .i64 cy] 23) a_k)
  replace b_k := blk_on hw1 (heap_past (.cells #[.int .i64 ax, .int .i64 ay, .int .i64 bx, .int .i64 by', .int .i64 cx, .int .i64 cy] 23) b_k)
  replace c_k := blk_on hw1 (heap_past (.cells #[.int .i64 ax, .int .i64 ay, .int .i64 bx, .int .i64 by', .int .i64 cx, .int .i64 cy] 23) c_k)
  replace r_k := blk_on hw1 (heap_past (.cells #[.int .i64 ax, .int .i64 ay, .int .i64 bx, .int .i64 by', .int .i64 cx, .int .i64 cy] 23) r_k)
  replace hb0 := bel_trans (bel_trans hb0 (bel_alloc x0 (.cells #[.int .i64 ax, .int .i64 ay, .int .i64 bx, .int .i64 by', .int .i64 cx, .int .i64 cy] 23))) hw1
  have k0 := blkC r_k 0 rfl
  have z0 := blkF r_k 0
  have k1 := blkC r_k 1 rfl
  have z1 := blkF r_k 1
  have k2 := blkC r_k 2 rfl
  have z2 := blkF r_k 2
  go_wp2
  refine bodyPost_ret (v := .tuple #[.agg #[.bool false, .slice none 0 0, .int .i64 0], .int .i64 10]) (by simp [results, Tryd.results6, go_sem, k0, k1, k2]) rfl ⟨rfl, by first | exact bel_set3 hb0 (by omega) _ _ _ | exact hb0⟩
set_option maxRecDepth 100000 in
set_option maxHeartbeats 2000000 in
theorem mDot_yes {ax ay bx by' cx cy : Int} (rax : rng ax) (ray : rng ay) (rbx : rng bx) (rby : rng by') (rcx : rng cx) (rcy : rng cy) (pax : pok ax = true) (pay : pok ay = true) (pbx : pok bx = true) (pby : pok by' = true) (pcx : pok cx = true) (pcy : pok cy = true) (w : World) (H : Hold4 w) :
    Calls Tryd.prog 6 #[.agg #[.int .i64 ax, .int .i64 ay], .agg #[.int .i64 bx, .int .i64 by'], .agg #[.int .i64 cx, .int .i64 cy]] w fun r w' => ∃ v V, r = .returned (.tuple #[v, .int .i64 0]) ∧ DAns w w' V v ∧ Dot2 (patV ax - patV bx) (patV ay - patV by') (patV cx - patV bx) (patV cy - patV by') V ∧ Bd 8100 V := by
  have CG : Hid (∀ W g, W.heap[g]? = some (.cells #[.int .i64 ax, .int .i64 ay, .int .i64 bx, .int .i64 by', .int .i64 cx, .int .i64 cy] 23) → Calls Tryd.prog 13 #[.slice (some ⟨g, 0, none⟩) 3 3] W fun x w' => x = .returned (.bool true) ∧ Below W.heap.size W w') := fun W g h => by
    have := mgood_any _ _ _ _ _ W (pts3 W h) (rng3 rax rbx rcx) (rng3 ray rby rcy)
    rw [allB3] at this
    have e : (ptok ax ay && ptok bx by' && ptok cx cy) = true := by unfold ptok; rw [pax, pay, pbx, pby, pcx, pcy]; rfl
    rw [e] at this
    exact this
  have CD : Hid (∀ W, Hold4 W → Calls Tryd.prog 15 #[.agg #[.func (.func 21) #[] #[], .func (.func 22) #[] #[], .func (.func 23) #[] #[], .func (.func 24) #[] #[]], .agg #[.int .i64 ax, .int .i64 ay], .agg #[.int .i64 bx, .int .i64 by'], .agg #[.int .i64 cx, .int .i64 cy]] W fun r w' => ∃ v V, r = .returned v ∧ DAns W w' V v ∧ Dot2 (patV ax - patV bx) (patV ay - patV by') (patV cx - patV bx) (patV cy - patV by') V ∧ Bd 8100 V) := fun W h => mdotN_any pax pay pbx pby pcx pcy W h
  clear rax ray rbx rby rcx rcy pax pay pbx pby pcx pcy
  have a_k : (w.alloc (.cells #[.int .i64 ax, .int .i64 ay] 23)).heap[w.heap.size]? = some (.cells #[.int .i64 ax, .int .i64 ay] 23) := heap_new (.cells #[.int .i64 ax, .int .i64 ay] 23) (by rfl)
  have hb0 := bel_alloc w (.cells #[.int .i64 ax, .int .i64 ay] 23)
  replace a_k := heap_past (.cells #[.int .i64 bx, .int .i64 by'] 23) a_k
  have b_k : ((w.alloc (.cells #[.int .i64 ax, .int .i64 ay] 23)).alloc (.cells #[.int .i64 bx, .int .i64 by'] 23)).heap[w.heap.size + 1]? = some (.cells #[.int .i64 bx, .int .i64 by'] 23) := heap_new (.cells #[.int .i64 bx, .int .i64 by'] 23) (by simp only [size_alloc])
  replace hb0 := bel_trans hb0 (bel_alloc (w.alloc (.cells #[.int .i64 ax, .int .i64 ay] 23)) (.cells #[.int .i64 bx, .int .i64 by'] 23))
  replace a_k := heap_past (.cells #[.int .i64 cx, .int .i64 cy] 23) a_k
  replace b_k := heap_past (.cells #[.int .i64 cx, .int .i64 cy] 23) b_k
  have c_k : (((w.alloc (.cells #[.int .i64 ax, .int .i64 ay] 23)).alloc (.cells #[.int .i64 bx, .int .i64 by'] 23)).alloc (.cells #[.int .i64 cx, .int .i64 cy] 23)).heap[w.heap.size + 1 + 1]? = some (.cells #[.int .i64 cx, .int .i64 cy] 23) := heap_new (.cells #[.int .i64 cx, .int .i64 cy] 23) (by simp only [size_alloc])
  replace hb0 := bel_trans hb0 (bel_alloc ((w.alloc (.cells #[.int .i64 ax, .int .i64 ay] 23)).alloc (.cells #[.int .i64 bx, .int .i64 by'] 23)) (.cells #[.int .i64 cx, .int .i64 cy] 23))
  replace a_k := heap_past (.cells #[.bool false, .slice none 0 0, .int .i64 0] 27) a_k
  replace b_k := heap_past (.cells #[.bool false, .slice none 0 0, .int .i64 0] 27) b_k
  replace c_k := heap_past (.cells #[.bool false, .slice none 0 0, .int .i64 0] 27) c_k
  have r_k : ((((w.alloc (.cells #[.int .i64 ax, .int .i64 ay] 23)).alloc (.cells #[.int .i64 bx, .int .i64 by'] 23)).alloc (.cells #[.int .i64 cx, .int .i64 cy] 23)).alloc (.cells #[.bool false, .slice none 0 0, .int .i64 0] 27)).heap[w.heap.size + 1 + 1 + 1]? = some (.cells #[.bool false, .slice none 0 0, .int .i64 0] 27) := heap_new (.cells #[.bool false, .slice none 0 0, .int .i64 0] 27) (by simp only [size_alloc])
  replace hb0 := bel_trans hb0 (bel_alloc (((w.alloc (.cells #[.int .i64 ax, .int .i64 ay] 23)).alloc (.cells #[.int .i64 bx, .int .i64 by'] 23)).alloc (.cells #[.int .i64 cx, .int .i64 cy] 23)) (.cells #[.bool false, .slice none 0 0, .int .i64 0] 27))
  have hsz0 : ((((w.alloc (.cells #[.int .i64 ax, .int .i64 ay] 23)).alloc (.cells #[.int .i64 bx, .int .i64 by'] 23)).alloc (.cells #[.int .i64 cx, .int .i64 cy] 23)).alloc (.cells #[.bool false, .slice none 0 0, .int .i64 0] 27)).heap.size = w.heap.size + 1 + 1 + 1 + 1 := by simp only [size_alloc]
  have hsz : Hid (((((w.alloc (.cells #[.int .i64 ax, .int .i64 ay] 23)).alloc (.cells #[.int .i64 bx, .int .i64 by'] 23)).alloc (.cells #[.int .i64 cx, .int .i64 cy] 23)).alloc (.cells #[.bool false, .slice none 0 0, .int .i64 0] 27)).heap.size = w.heap.size + 1 + 1 + 1 + 1) := hsz0
  clear hsz0
  have f_a0 := blkC a_k 0 rfl
  have f_a1 := blkC a_k 1 rfl
  have f_b0 := blkC b_k 0 rfl
  have f_b1 := blkC b_k 1 rfl
  have f_c0 := blkC c_k 0 rfl
  have f_c1 := blkC c_k 1 rfl
  go_enter Tryd.func6, Tryd.ntmps6
  go_wp2_with fail
  clear f_a0 f_a1 f_b0 f_b1 f_c0 f_c1
  generalize ((((w.alloc (.cells #[.int .i64 ax, .int .i64 ay] 23)).alloc (.cells #[.int .i64 bx, .int .i64 by'] 23)).alloc (.cells #[.int .i64 cx, .int .i64 cy] 23)).alloc (.cells #[.bool false, .slice none 0 0, .int .i64 0] 27)) = x0 at hb0 a_k b_k c_k r_k hsz ⊢
  refine (CG.out _ _ (heap_new _ hsz.out.symm)).mono ?_
  rintro _ y1 ⟨rfl, hw1⟩
  replace a_k := blk_on hw1 (heap_past (.cells #[.int .i64 ax, .int .i64 ay, .int .i64 bx, .int .i64 by', .int .i64 cx, .int .i64 cy] 23) a_k)
  replace b_k := blk_on hw1 (heap_past (.cells #[.int .i64 ax, .int .i64 ay, .int .i64 bx, .int .i64 by', .int .i64 cx, .int .i64 cy] 23) b_k)
  replace c_k := blk_on hw1 (heap_past (.cells #[.int .i64 ax, .int .i64 ay, .int .i64 bx, .int .i64 by', .int .i64 cx, .int .i64 cy] 23) c_k)
  replace r_k := blk_on hw1 (heap_past (.cells #[.int .i64 ax, .int .i64 ay, .int .i64 bx, .int .i64 by', .int .i64 cx, .int .i64 cy] 23) r_k)
  replace hb0 := bel_trans (bel_trans hb0 (bel_alloc x0 (.cells #[.int .i64 ax, .int .i64 ay, .int .i64 bx, .int .i64 by', .int .i64 cx, .int .i64 cy] 23))) hw1
  have H := H.keeps hb0
  go_wp2_with fail
  have KK1 : ∀ W, Below y1.heap.size y1 W → W.cell? ⟨w.heap.size, 0, none⟩ = some (.int .i64 ax) ∧ W.cell? ⟨w.heap.size, 1, none⟩ = some (.int .i64 ay) ∧ W.cell? ⟨w.heap.size + 1, 0, none⟩ = some (.int .i64 bx) ∧ W.cell? ⟨w.heap.size + 1, 1, none⟩ = some (.int .i64 by') ∧ W.cell? ⟨w.heap.size + 2, 0, none⟩ = some (.int .i64 cx) ∧ W.cell? ⟨w.heap.size + 2, 1, none⟩ = some (.int .i64 cy) := fun W hb => ⟨q_cell (blkC a_k 0 rfl) hb, q_cell (blkC a_k 1 rfl) hb, q_cell (blkC b_k 0 rfl) hb, q_cell (blkC b_k 1 rfl) hb, q_cell (blkC c_k 0 rfl) hb, q_cell (blkC c_k 1 rfl) hb⟩
  have ne_a : w.heap.size ≠ w.heap.size + 1 + 1 + 1 := by omega
  have ne_b : w.heap.size + 1 ≠ w.heap.size + 1 + 1 + 1 := by omega
  have ne_c : w.heap.size + 2 ≠ w.heap.size + 1 + 1 + 1 := by omega
  have hC1_0 := (bel_refl y1).drew
  have hs1_0 := (bel_refl y1).drew
  have hT1_0 : Below w.heap.size w y1.drew := hb0.drew
  have H_1_0 := H.keeps (bel_refl y1).drew
  have hrs := (Array.getElem?_eq_some_iff.1 r_k).1
  go_region_held3 (fun W => W.cell? ⟨w.heap.size, 0, none⟩ = some (.int .i64 ax) ∧ W.cell? ⟨w.heap.size, 1, none⟩ = some (.int .i64 ay) ∧ W.cell? ⟨w.heap.size + 1, 0, none⟩ = some (.int .i64 bx) ∧ W.cell? ⟨w.heap.size + 1, 1, none⟩ = some (.int .i64 by') ∧ W.cell? ⟨w.heap.size + 2, 0, none⟩ = some (.int .i64 cx) ∧ W.cell? ⟨w.heap.size + 2, 1, none⟩ = some (.int .i64 cy))
    (with_reducible first | assumption | exact KK1 _ hC1_0 | exact KK1 _ hC1_1 | exact KK1 _ hC1_2 | exact ⟨cellS (KK1 _ hC1_2).1 ne_a _ _ _, cellS (KK1 _ hC1_2).2.1 ne_a _ _ _, cellS (KK1 _ hC1_2).2.2.1 ne_b _ _ _, cellS (KK1 _ hC1_2).2.2.2.1 ne_b _ _ _, cellS (KK1 _ hC1_2).2.2.2.2.1 ne_c _ _ _, cellS (KK1 _ hC1_2).2.2.2.2.2 ne_c _ _ _⟩ | fail)
    (first
      | (go_at_call 15; have _t := hs1_1; refine (CD.out _ (H_1_1.keeps (by with_reducible first | exact bel_refl _ | exact bel_alloc _ _ | exact bel_dr _ _))).mono ?_; rintro _ y1_2 ⟨v, V, rfl, na1, hV, hB⟩; obtain ⟨n_g, n_o, n_n, n_c, n_e, rfl⟩ := dans_shape na1; have hq1_2 := na1.below; have hs1_2 : Below y1_1.heap.size y1_1 y1_2 := (by with_reducible first | exact hq1_2 | exact bel_trans (bel_alloc _ _) hq1_2 | exact bel_trans (bel_dr _ _) hq1_2); have hT1_2 := bel_trans hT1_1 hs1_2; have hC1_2 := bel_trans hC1_1 hs1_2; have H_1_2 := H_1_1.keeps hs1_2; have hr := blk_on hs1_2 (blk_on hs1_1 (blk_on hs1_0 r_k)); have k0 := (fun _ => blkC hr 0 rfl) hs1_2; have z0 := (fun _ => blkF hr 0) hs1_2; have k1 := (fun _ => blkC hr 1 rfl) hs1_2; have z1 := (fun _ => blkF hr 1) hs1_2; have k2 := (fun _ => blkC hr 2 rfl) hs1_2; have z2 := (fun _ => blkF hr 2) hs1_2)
      | (go_at_call 14; refine (mexactNumbers _).mono ?_; rintro _ y1_1 ⟨rfl, hq1_1⟩; have hs1_1 : Below y1.drew.heap.size y1.drew y1_1 := (by with_reducible first | exact hq1_1 | exact bel_trans (bel_alloc _ _) hq1_1 | exact bel_trans (bel_dr _ _) hq1_1); have hT1_1 := bel_trans hT1_0 hs1_1; have hC1_1 := bel_trans hC1_0 hs1_1; have H_1_1 := H_1_0.keeps hs1_1))
  go_wp2
  refine bodyPost_ret (v := .tuple #[.agg #[.bool n_g, .slice n_o n_n n_c, .int .i64 n_e], .int .i64 0]) (by simp [results, Tryd.results6, go_sem, k0, k1, k2]) rfl ⟨_, V, rfl, ?_, hV, hB⟩
  exact dans_res3 (g := w.heap.size + 3) na1 (bel_trans hb0 (by first | exact hs1_1 | exact bel_trans hs1_0 hs1_1)) (by omega) (Nat.lt_of_lt_of_le hrs (bel_trans hs1_0 hs1_1).size) _ _ _
end Go.Proofs.YtkaidfbnhdhldaaDoor

/-
  plumblaw10.SameNum, by its contract.
-/
namespace Go.Proofs.YtkaidfbnhdhldaaDoor
open Go Go.RowKit Go.Proofs.YtkaidfbnhdhldaaDoor.M
set_option linter.unusedSimpArgs false
set_option linter.unusedVariables false

set_option maxRecDepth 100000 in
set_option maxHeartbeats 4000000 in
theorem osame_D {w : World} {x y : Value} {A B : Int} (hx : DNum w x A) (hy : DNum w y B) :
    Calls Tryd.prog 10 #[x, y] w fun r w' => r = .returned (.bool (decide (A = B))) ∧ Below w.heap.size w w' := by
  obtain ⟨g, s, m, e, rfl, dx, ao, n, ca, a, rfl, hR, hN, rfl⟩ := hx
  obtain ⟨g', s', m', e', rfl, dy, bo, n', cb, b, rfl, hR', hN', rfl⟩ := hy
  have hu : A = B → g = g' ∧ val a n = val b n' ∧ e = e' := fun q => by subst q; exact dx.unique dy
  have hm1 := hR.max
  have hl1 := hR.le
  have hm2 := hR'.max
  have hl2 := hR'.le
  have hb2 := bel_alloc2 w (.cells #[.bool g, .slice ao n ca, .int .i64 e] 27) (.cells #[.bool g', .slice bo n' cb, .int .i64 e'] 27)
  by_cases hg : g = g' ∧ e = e' ∧ n = n'
  · obtain ⟨rfl, rfl, rfl⟩ := hg
    have q0 := heap_a2 w (.cells #[.bool g, .slice ao n ca, .int .i64 e] 27) (.cells #[.bool g, .slice bo n cb, .int .i64 e] 27)
    have q1 := heap_b2 w (.cells #[.bool g, .slice ao n ca, .int .i64 e] 27) (.cells #[.bool g, .slice bo n cb, .int .i64 e] 27)
    have HR := hR.keeps hb2
    have HR' := hR'.keeps hb2
    have hAB : (∀ i, i < n → a i = b i) → A = B := fun q => by rw [dx.val, dy.val, val_congr q]
    go_enter Tryd.func10, Tryd.ntmps10
    go_wp2_with fail
    have k1 := blkC q0 1 rfl
    have j1 := blkC q1 1 rfl
    clear q0 q1 hu hR hR'
    generalize (w.alloc (.cells #[.bool g, .slice ao n ca, .int .i64 e] 27)).alloc (.cells #[.bool g, .slice bo n cb, .int .i64 e] 27) = wx at hb2 k1 j1 HR HR' ⊢
    have HNa : Hid (Nrm a n) := hN
    have HNb : Hid (Nrm b n) := hN'
    have HAB : Hid ((∀ i, i < n → a i = b i) → A = B) := hAB
    have HBA : Hid (A = B → ∀ i, i < n → a i = b i) := fun q => val_inj hN.1 hN'.1 (by subst q; exact (dx.unique dy).2.1)
    clear hN hN' hAB dx dy
    go_loopw [5] (fun i wr => ∃ k : Nat, k ≤ n ∧ i = .int .i64 k ∧ Hid (∀ i, i < k → a i = b i) ∧ Below wx.heap.size wx wr) (fun i _ => n - (intOf i).toNat)
    case atStart => exact ⟨0, Nat.zero_le _, rfl, fun i hi => by omega, bel_refl _⟩
    case round =>
      obtain ⟨k, hk, rfl, HS, hbw⟩ := hrel
      have k1' := cell_keeps k1 hbw
      have j1' := cell_keeps j1 hbw
      by_cases hlt : k < n
      · obtain ⟨ba, fa, rfl, hba, hca⟩ := HR.spot (by omega)
        obtain ⟨bb, fb, rfl, hbb, hcb⟩ := HR'.spot (by omega)
        have c1 := (hbw.cell (p := ⟨ba, fa + k, none⟩) hba).trans (hca k (by omega))
        have c2 := (hbw.cell (p := ⟨bb, fb + k, none⟩) hbb).trans (hcb k (by omega))
        clear hca hcb
        by_cases h1 : a k = b k
        · have h2 : (a k == b k) = true := by simpa using h1
          rw [h1] at c1
          go_wp2_with fail
          go_quiet (fail)
          go_wp2
          go_roundw
          case rel => exact ⟨k + 1, by omega, by go_num, fun i hi => by by_cases e : i = k; (· rw [e]; exact h1); (· exact HS.out i (by omega)), bDrewN hbw _⟩
          case measure => simp [intOf]; try omega
        · have h2 : (a k == b k) = false := by simpa using h1
          have hne : A ≠ B := fun q => h1 (HBA.out q k hlt)
          have hdd : Hid (false = decide (A = B)) := (decide_eq_false hne).symm
          clear hne
          go_wp2_with fail
          go_quiet (fail)
          go_wp2
          go_ret
          exact ⟨ret_bool hdd.out, bel_trans hb2 (bDrewN hbw _)⟩
      · obtain rfl : k = n := by omega
        have hdd : Hid (true = decide (A = B)) := (decide_eq_true (HAB.out HS.out)).symm
        go_wp2
        go_ret
        exact ⟨ret_bool hdd.out, bel_trans hb2 hbw⟩
  · have hne : A ≠ B := fun q => hg ⟨(hu q).1, (hu q).2.2, nrm_len hN hN' (hu q).2.1⟩
    rw [decide_eq_false hne]
    by_cases c1 : g = g'
    · subst c1
      by_cases c2 : e = e'
      · subst c2
        have c3 : n ≠ n' := fun q => hg ⟨rfl, rfl, q⟩
        have c4 : ((n : Int) == (n' : Int)) = false := by simp; omega
        clear hu
        go_enter Tryd.func10, Tryd.ntmps10
        go_wp2
        all_goals go_ret
        all_goals exact ⟨rfl, hb2⟩
      · have c4 : (e == e') = false := by simpa using c2
        clear hu
        go_enter Tryd.func10, Tryd.ntmps10
        go_wp2
        all_goals go_ret
        all_goals exact ⟨rfl, hb2⟩
    · have c4 : (g == g') = false := by simpa using c1
      clear hu
      go_enter Tryd.func10, Tryd.ntmps10
      go_wp2
      all_goals go_ret
      all_goals exact ⟨rfl, hb2⟩
end Go.Proofs.YtkaidfbnhdhldaaDoor

/-
  Package measure: Square, by its contract; plumblaw13's num, alive.
-/
namespace Go.Proofs.YtkaidfbnhdhldaaDoor
open Go Go.RowKit Go.Proofs.YtkaidfbnhdhldaaDoor.M
set_option linter.unusedSimpArgs false
set_option linter.unusedVariables false

set_option maxRecDepth 100000 in
set_option maxHeartbeats 1000000 in
theorem mSquare_yes {ax ay bx by' : Int} (rax : rng ax) (ray : rng ay) (rbx : rng bx) (rby : rng by') (pax : pok ax = true) (pay : pok ay = true) (pbx : pok bx = true) (pby : pok by' = true) (w : World) (H : Hold4 w) :
    Calls Tryd.prog 5 #[.agg #[.int .i64 ax, .int .i64 ay], .agg #[.int .i64 bx, .int .i64 by']] w fun r w' => ∃ v V, r = .returned (.tuple #[v, .int .i64 0]) ∧ DAns w w' V v ∧ Dot2 (patV ax - patV bx) (patV ay - patV by') (patV ax - patV bx) (patV ay - patV by') V ∧ Bd 8100 V := by
  have CD : Hid (∀ W, Hold4 W → Calls Tryd.prog 6 #[.agg #[.int .i64 ax, .int .i64 ay], .agg #[.int .i64 bx, .int .i64 by'], .agg #[.int .i64 ax, .int .i64 ay]] W fun r w' => ∃ v V, r = .returned (.tuple #[v, .int .i64 0]) ∧ DAns W w' V v ∧ Dot2 (patV ax - patV bx) (patV ay - patV by') (patV ax - patV bx) (patV ay - patV by') V ∧ Bd 8100 V) := fun W h => mDot_yes rax ray rbx rby rax ray pax pay pbx pby pax pay W h
  clear rax ray rbx rby pax pay pbx pby
  have a_k : (w.alloc (.cells #[.int .i64 ax, .int .i64 ay] 23)).heap[w.heap.size]? = some (.cells #[.int .i64 ax, .int .i64 ay] 23) := heap_new (.cells #[.int .i64 ax, .int .i64 ay] 23) (by rfl)
  have hb0 := bel_alloc w (.cells #[.int .i64 ax, .int .i64 ay] 23)
  replace a_k := heap_past (.cells #[.int .i64 bx, .int .i64 by'] 23) a_k
  have b_k : ((w.alloc (.cells #[.int .i64 ax, .int .i64 ay] 23)).alloc (.cells #[.int .i64 bx, .int .i64 by'] 23)).heap[w.heap.size + 1]? = some (.cells #[.int .i64 bx, .int .i64 by'] 23) := heap_new (.cells #[.int .i64 bx, .int .i64 by'] 23) (by simp only [size_alloc])
  replace hb0 := bel_trans hb0 (bel_alloc (w.alloc (.cells #[.int .i64 ax, .int .i64 ay] 23)) (.cells #[.int .i64 bx, .int .i64 by'] 23))
  replace a_k := heap_past (.cells #[.bool false, .slice none 0 0, .int .i64 0] 27) a_k
  replace b_k := heap_past (.cells #[.bool false, .slice none 0 0, .int .i64 0] 27) b_k
  have r_k : (((w.alloc (.cells #[.int .i64 ax, .int .i64 ay] 23)).alloc (.cells #[.int .i64 bx, .int .i64 by'] 23)).alloc (.cells #[.bool false, .slice none 0 0, .int .i64 0] 27)).heap[w.heap.size + 1 + 1]? = some (.cells #[.bool false, .slice none 0 0, .int .i64 0] 27) := heap_new (.cells #[.bool false, .slice none 0 0, .int .i64 0] 27) (by simp only [size_alloc])
  replace hb0 := bel_trans hb0 (bel_alloc ((w.alloc (.cells #[.int .i64 ax, .int .i64 ay] 23)).alloc (.cells #[.int .i64 bx, .int .i64 by'] 23)) (.cells #[.bool false, .slice none 0 0, .int .i64 0] 27))
  have f_a0 := blkC a_k 0 rfl
  have f_a1 := blkC a_k 1 rfl
  have f_b0 := blkC b_k 0 rfl
  have f_b1 := blkC b_k 1 rfl
  go_enter Tryd.func5, Tryd.ntmps5
  go_wp2_with fail
  clear f_a0 f_a1 f_b0 f_b1
  generalize (((w.alloc (.cells #[.int .i64 ax, .int .i64 ay] 23)).alloc (.cells #[.int .i64 bx, .int .i64 by'] 23)).alloc (.cells #[.bool false, .slice none 0 0, .int .i64 0] 27)) = x0 at hb0 a_k b_k r_k ⊢
  have H := H.keeps hb0
  have hs0 := (Array.getElem?_eq_some_iff.1 r_k).1
  refine (CD.out _ H).mono ?_
  rintro _ y2 ⟨v, V, rfl, h2, hD, hB⟩
  obtain ⟨n_g, n_o, n_n, n_c, n_e, rfl⟩ := dans_shape h2
  have hw2 := h2.below
  replace r_k := blk_on hw2 r_k
  have k0 := blkC r_k 0 rfl
  have z0 := blkF r_k 0
  have k1 := blkC r_k 1 rfl
  have z1 := blkF r_k 1
  have k2 := blkC r_k 2 rfl
  have z2 := blkF r_k 2
  go_wp2
  refine bodyPost_ret (v := .tuple #[.agg #[.bool n_g, .slice n_o n_n n_c, .int .i64 n_e], .int .i64 0]) (by simp [results, Tryd.results5, go_sem, k0, k1, k2]) rfl ⟨_, V, rfl, ?_, hD, hB⟩
  exact dans_res3 (g := w.heap.size + 2) h2 hb0 (by omega) hs0 _ _ _
set_option maxRecDepth 100000 in
set_option maxHeartbeats 1000000 in
theorem mSquare_no {ax ay bx by' : Int} (rax : rng ax) (ray : rng ay) (rbx : rng bx) (rby : rng by') (hno : (ptok ax ay && ptok bx by') = false) (w : World) :
    Calls Tryd.prog 5 #[.agg #[.int .i64 ax, .int .i64 ay], .agg #[.int .i64 bx, .int .i64 by']] w fun r w' => r = .returned (.tuple #[.agg #[.bool false, .slice none 0 0, .int .i64 0], .int .i64 10]) ∧ Below w.heap.size w w' := by
  have CD : Hid (∀ W, Calls Tryd.prog 6 #[.agg #[.int .i64 ax, .int .i64 ay], .agg #[.int .i64 bx, .int .i64 by'], .agg #[.int .i64 ax, .int .i64 ay]] W fun r w' => r = .returned (.tuple #[.agg #[.bool false, .slice none 0 0, .int .i64 0], .int .i64 10]) ∧ Below W.heap.size W w') := fun W => mDot_no rax ray rbx rby rax ray (by rw [hno, Bool.false_and]) W
  clear rax ray rbx rby hno
  have a_k : (w.alloc (.cells #[.int .i64 ax, .int .i64 ay] 23)).heap[w.heap.size]? = some (.cells #[.int .i64 ax, .int .i64 ay] 23) := heap_new (.cells #[.int .i64 ax, .int .i64 ay] 23) (by rfl)
  have hb0 := bel_alloc w (.cells #[.int .i64 ax, .int .i64 ay] 23)
  replace a_k := heap_past (.cells #[.int .i64 bx, .int .i64 by'] 23) a_k
  have b_k : ((w.alloc (.cells #[.int .i64 ax, .int .i64 ay] 23)).alloc (.cells #[.int .i64 bx, .int .i64 by'] 23)).heap[w.heap.size + 1]? = some (.cells #[.int .i64 bx, .int .i64 by'] 23) := heap_new (.cells #[.int .i64 bx, .int .i64 by'] 23) (by simp only [size_alloc])
  replace hb0 := bel_trans hb0 (bel_alloc (w.alloc (.cells #[.int .i64 ax, .int .i64 ay] 23)) (.cells #[.int .i64 bx, .int .i64 by'] 23))
  replace a_k := heap_past (.cells #[.bool false, .slice none 0 0, .int .i64 0] 27) a_k
  replace b_k := heap_past (.cells #[.bool false, .slice none 0 0, .int .i64 0] 27) b_k
  have r_k : (((w.alloc (.cells #[.int .i64 ax, .int .i64 ay] 23)).alloc (.cells #[.int .i64 bx, .int .i64 by'] 23)).alloc (.cells #[.bool false, .slice none 0 0, .int .i64 0] 27)).heap[w.heap.size + 1 + 1]? = some (.cells #[.bool false, .slice none 0 0, .int .i64 0] 27) := heap_new (.cells #[.bool false, .slice none 0 0, .int .i64 0] 27) (by simp only [size_alloc])
  replace hb0 := bel_trans hb0 (bel_alloc ((w.alloc (.cells #[.int .i64 ax, .int .i64 ay] 23)).alloc (.cells #[.int .i64 bx, .int .i64 by'] 23)) (.cells #[.bool false, .slice none 0 0, .int .i64 0] 27))
  have f_a0 := blkC a_k 0 rfl
  have f_a1 := blkC a_k 1 rfl
  have f_b0 := blkC b_k 0 rfl
  have f_b1 := blkC b_k 1 rfl
  go_enter Tryd.func5, Tryd.ntmps5
  go_wp2_with fail
  clear f_a0 f_a1 f_b0 f_b1
  generalize (((w.alloc (.cells #[.int .i64 ax, .int .i64 ay] 23)).alloc (.cells #[.int .i64 bx, .int .i64 by'] 23)).alloc (.cells #[.bool false, .slice none 0 0, .int .i64 0] 27)) = x0 at hb0 a_k b_k r_k ⊢
  refine (CD.out _).mono ?_
  rintro _ y2 ⟨rfl, hw2⟩
  replace r_k := blk_on hw2 r_k
  replace hb0 := bel_trans hb0 hw2
  have k0 := blkC r_k 0 rfl
  have z0 := blkF r_k 0
  have k1 := blkC r_k 1 rfl
  have z1 := blkF r_k 1
  have k2 := blkC r_k 2 rfl
  have z2 := blkF r_k 2
  go_wp2
  refine bodyPost_ret (v := .tuple #[.agg #[.bool false, .slice none 0 0, .int .i64 0], .int .i64 10]) (by simp [results, Tryd.results5, go_sem, k0, k1, k2]) rfl ⟨rfl, by first | exact bel_set3 hb0 (by omega) _ _ _ | exact hb0⟩
theorem mnum (x : Int) (w : World) :
    Calls Tryd.prog 9 #[.int .i64 x] w fun e w' => e = .returned (.int .i64 x) ∧ w' = w := by
  go_enter Tryd.func9, Tryd.ntmps9
  go_wp2
  go_ret
  exact ⟨b_ret_int (by first | rfl | omega), rfl⟩
theorem pv_0 : patV 0 = 0 := by
  unfold patV
  rw [show pmag 0 = 0 by decide, show pneg 0 = false by decide]
  show (0 : Int) * _ = 0
  rw [Int.zero_mul]
theorem pv_3 : patV 4613937818241073152 = 3 * pw 0 := by
  unfold patV
  rw [show pneg 4613937818241073152 = false by decide, show pmag 4613937818241073152 = 6755399441055744 by decide, show pexp 4613937818241073152 = -51 by decide, pw_step (e := -51) (k := 0) (l := 51) (by omega) (by omega)]
  generalize pw (-51) = p
  show 6755399441055744 * p = 3 * (p * 2 ^ 51)
  rw [show (2 : Int) ^ 51 = 2251799813685248 by decide]
  omega
theorem pv_4 : patV 4616189618054758400 = 4 * pw 0 := by
  unfold patV
  rw [show pneg 4616189618054758400 = false by decide, show pmag 4616189618054758400 = 4503599627370496 by decide, show pexp 4616189618054758400 = -50 by decide, pw_step (e := -50) (k := 0) (l := 50) (by omega) (by omega)]
  generalize pw (-50) = p
  show 4503599627370496 * p = 4 * (p * 2 ^ 50)
  rw [show (2 : Int) ^ 50 = 1125899906842624 by decide]
  omega
theorem sq_of {C Y S k : Int} (h : C * S = (0 - k * Y) * (0 - k * Y)) (e : Y = S) : C * S = (k * k * Y) * S := by
  subst e
  rw [h]
  grind
theorem pw_0M : pw 0 = 2 ^ 4194304 := by unfold pw; congr 1
theorem sq_3_4 {V : Int} (h : Dot2 (patV 0 - patV 4613937818241073152) (patV 0 - patV 4616189618054758400) (patV 0 - patV 4613937818241073152) (patV 0 - patV 4616189618054758400) V) : V = sg false 25 * pw 0 := by
  obtain ⟨C, D, h1, h2, rfl⟩ := h
  rw [pv_0, pv_3] at h1
  rw [pv_0, pv_4] at h2
  rw [scale_inj (sq_of h1 pw_0M), scale_inj (sq_of h2 pw_0M)]
  generalize pw 0 = p
  show 3 * 3 * p + 4 * 4 * p = 25 * p
  omega
set_option maxRecDepth 100000 in
set_option maxHeartbeats 1000000 in
theorem alive13 (w : World) (H : Hold4 w) : Calls Tryd.prog 4 #[] w fun e w' => e = .returned (.bool true) ∧ Below w.heap.size w w' := by
  have CS : Hid (∀ W, Hold4 W → Calls Tryd.prog 5 #[.agg #[.int .i64 0, .int .i64 0], .agg #[.int .i64 4613937818241073152, .int .i64 4616189618054758400]] W fun r w' => ∃ v V, r = .returned (.tuple #[v, .int .i64 0]) ∧ DAns W w' V v ∧ Dot2 (patV 0 - patV 4613937818241073152) (patV 0 - patV 4616189618054758400) (patV 0 - patV 4613937818241073152) (patV 0 - patV 4616189618054758400) V ∧ Bd 8100 V) := fun W h => mSquare_yes (by unfold rng; decide) (by unfold rng; decide) (by unfold rng; decide) (by unfold rng; decide) (by decide) (by decide) (by decide) (by decide) W h
  go_enter Tryd.func4, Tryd.ntmps4
  go_wp2_with fail
  refine (CS.out _ H).mono ?_
  rintro _ y1 ⟨v, V, rfl, h1, hD, hB⟩
  replace hD : Hid (V = sg false 25 * pw 0) := sq_3_4 hD
  obtain ⟨x_g, x_o, x_n, x_c, x_e, rfl⟩ := dans_shape h1
  have hw1 := h1.below
  have x_D := h1.num
  clear h1 hB CS
  have x_k := heap_a1 y1 (.cells #[.bool x_g, .slice x_o x_n x_c, .int .i64 x_e] 27)
  have x_D := x_D.keeps (bel_alloc y1 (.cells #[.bool x_g, .slice x_o x_n x_c, .int .i64 x_e] 27))
  have hb1 := bel_trans hw1 (bel_alloc y1 (.cells #[.bool x_g, .slice x_o x_n x_c, .int .i64 x_e] 27))
  go_wp2_with (go_at_call 9; refine (mnum _ _).mono ?_; rintro _ wz ⟨rfl, hwz⟩; replace hwz := hwz.symm; subst hwz)
  have hl := dnum_lit (w := (y1.alloc (.cells #[.bool x_g, .slice x_o x_n x_c, .int .i64 x_e] 27)).alloc (.cells #[.int .i64 25] 3)) (g := y1.heap.size + 1) false (m := 25) (e := 0) (by decide) (by decide) (by decide) (by decide) (heap_new _ (by simp only [size_alloc]))
  have x_E := x_D.keeps (bel_alloc (y1.alloc (.cells #[.bool x_g, .slice x_o x_n x_c, .int .i64 x_e] 27)) (.cells #[.int .i64 25] 3))
  refine (osame_D x_E hl).mono ?_
  rintro _ y2 ⟨rfl, hw2⟩
  have he : decide (V = sg false 25 * pw 0) = true := decide_eq_true hD.out
  rw [he]
  have hb2 := bel_trans (bel_trans hb1 (bel_alloc _ _)) hw2
  clear he hD hl x_E
  go_wp2
  go_ret
  exact ⟨rfl, hb2⟩
end Go.Proofs.YtkaidfbnhdhldaaDoor

/-
  Package plumbref3: Of, Of32, Mul, by contracts.
-/
namespace Go.Proofs.YtkaidfbnhdhldaaDoor
open Go Go.RowKit Go.Proofs.YtkaidfbnhdhldaaDoor.M
set_option linter.unusedSimpArgs false
set_option linter.unusedVariables false

set_option maxRecDepth 100000 in
set_option maxHeartbeats 1000000 in
theorem rof_any (b : Int) (w : World) (hb : rng b) (hp : pok b = true) :
    Calls Tryd.prog 41 #[.int .i64 b] w fun r w' => ∃ v, r = .returned v ∧ DAns w w' (sg (pneg b) (pmag b) * pw (pexp b)) v := by
  obtain ⟨i0, i1, i2, i3⟩ := pmag_in hp
  have hF := fun W => rfrom_any (pmag b) W i0 (by omega)
  have hN := fun W ao n cap d (h : Row W ao n cap d) (hd : Dig d n) (hn : n ≤ 40000) => rnorm_any (pneg b) ao n cap d (pexp b) W h hd hn (by omega) (by omega)
  have hP := fun W => refParts b W hb
  generalize pneg b = ng at *
  generalize pexp b = ex at *
  generalize pmag b = mg at *
  rw [hp] at hP
  go_enter Tryd.func41, Tryd.ntmps41
  go_wp2_with fail
  refine (hP _).mono ?_
  rintro r w1 ⟨rfl, rfl⟩
  go_wp2_with fail
  refine (hF _).mono ?_
  rintro r w2 ⟨v, rfl, hA⟩
  obtain ⟨so, sn, sc, d, rfl, hR, hNr, hv⟩ := hA.num
  have hsn : sn ≤ 100 := hA.num.len (k := 100) (by have := P_le (show 3 ≤ 100 by omega); have : P 3 = 1237940039285380274899124224 := rfl; omega)
  have hbw := bel_trans (bel_alloc w _) hA.below
  go_wp2_with fail
  refine (hN _ _ _ _ _ hR hNr.1 (by omega)).mono ?_
  rw [hv]
  rintro r w3 ⟨v, rfl, hD⟩
  obtain ⟨ng', s', m', e', rfl, hyy, hA2⟩ := id hD
  obtain ⟨so', sn', sc', rfl⟩ := hA2.num.shape
  have q0 := ((bel_trans hA.below hD.below).block w.heap.size (by rw [size1]; omega)).trans (heap_a1 _ _)
  have x0 := blkC q0 0 rfl
  have x1 := blkC q0 1 rfl
  have x2 := blkC q0 2 rfl
  have z0 := blkF q0 0
  have z1 := blkF q0 1
  have z2 := blkF q0 2
  go_wp2
  refine bodyPost_ret (v := .agg #[.bool ng', .slice so' sn' sc', .int .i64 e']) (by simp [results, Tryd.results41, go_sem, x0, x1, x2]) rfl ⟨_, rfl, ?_⟩
  exact dans_res3 (g := w.heap.size) hD hbw (Nat.le_refl _) (Nat.lt_of_lt_of_le (by rw [size1]; omega) hA.below.size) _ _ _
end Go.Proofs.YtkaidfbnhdhldaaDoor

/-
  Package plumbref3: Exact, Minus, Times, by their contracts.
-/
namespace Go.Proofs.YtkaidfbnhdhldaaDoor
open Go Go.RowKit Go.Proofs.YtkaidfbnhdhldaaDoor.M
set_option linter.unusedSimpArgs false
set_option linter.unusedVariables false

set_option maxRecDepth 100000 in
theorem r3exact_any (b : Int) (w : World) (hb : rng b) (hp : pok b = true) :
    Calls Tryd.prog 27 #[.int .i64 b] w fun r w' => ∃ v, r = .returned v ∧ DAns w w' (patV b) v := by
  have r_k := heap_a1 w (.cells #[.bool false, .slice none 0 0, .int .i64 0] 27)
  have hb0 := bel_alloc w (.cells #[.bool false, .slice none 0 0, .int .i64 0] 27)
  have CO : Hid (∀ W, Calls Tryd.prog 41 #[.int .i64 b] W fun r w' => ∃ v, r = .returned v ∧ DAns W w' (patV b) v) := fun W => rof_any b W hb hp
  go_enter Tryd.func27, Tryd.ntmps27
  go_wp2_with fail
  generalize w.alloc (.cells #[.bool false, .slice none 0 0, .int .i64 0] 27) = x0 at r_k hb0 ⊢
  have hs0 := (Array.getElem?_eq_some_iff.1 r_k).1
  refine (CO.out _).mono ?_
  rintro _ y1 ⟨v, rfl, h1⟩
  obtain ⟨n_g, n_o, n_n, n_c, n_e, rfl⟩ := dans_shape h1
  have hw := h1.below
  have r_k := (hw.block _ (Array.getElem?_eq_some_iff.1 r_k).1).trans r_k
  have k0 := blkC r_k 0 rfl
  have k1 := blkC r_k 1 rfl
  have k2 := blkC r_k 2 rfl
  have z0 := blkF r_k 0
  have z1 := blkF r_k 1
  have z2 := blkF r_k 2
  go_wp2
  refine bodyPost_ret (v := .agg #[.bool n_g, .slice n_o n_n n_c, .int .i64 n_e]) (by simp [results, Tryd.results27, go_sem, k0, k1, k2]) rfl ⟨_, rfl, ?_⟩
  exact dans_res3 (g := w.heap.size) h1 hb0 (Nat.le_refl _) hs0 _ _ _
theorem dan_opp {B : Nat} {w : World} {y : NumR} (h : DAn B w y.V y.v) (ok : okR y = true) : DAn B w (-y.V) y.opp.v := by
  obtain ⟨m, h1, h2⟩ := DAn.parts h
  obtain ⟨e1, e2⟩ := opp_V ok
  rw [e1] at e2
  obtain ⟨_, rfl, _⟩ := h1.unique (okR_dy ok).1
  exact ⟨_, _, _, _, rfl, e2, h2⟩
theorem DAn.shape {B : Nat} {w : World} {V : Int} {v : Value} (h : DAn B w V v) : ∃ ng so sn sc e, v = .agg #[.bool ng, .slice so sn sc, .int .i64 e] := h.three
set_option maxRecDepth 100000 in
theorem r3minus_any {B : Nat} {w : World} {x y : Value} {A C : Int} {K : Nat} (hx : DAn B w A x) (hy : DAn B w C y) (hB : B ≤ w.heap.size) (bA : Bd K A) (bC : Bd K C) (hK : K ≤ 28000) :
    Calls Tryd.prog 26 #[x, y] w fun r w' => ∃ v, r = .returned v ∧ DAn B w' (A - C) v ∧ Below w.heap.size w w' := by
  have CS : ∀ W, Below w.heap.size w W → Calls Tryd.prog 40 #[x, y] W fun r w' => ∃ v, r = .returned v ∧ DAn B w' (A - C) v ∧ Below W.heap.size W w' := fun W hW => by
    have hx' := hx.keeps hW
    have hy' := hy.keeps hW
    obtain ⟨x, rfl, hR, ok, rfl⟩ := hx'.num.open (bA.ok (by omega))
    obtain ⟨y, rfl, hR', ok', rfl⟩ := hy'.num.open (bC.ok (by omega))
    refine (rsub3_any x y W hR hR' ok ok' (K := K) (by omega) bA bC).mono ?_
    rintro r w' ⟨v, rfl, h⟩
    refine ⟨v, rfl, ?_, h.1⟩
    rw [Int.sub_eq_add_neg]
    rcases h.2 with h1 | ⟨h1, rfl⟩ | ⟨h1, rfl⟩
    · exact h1.dan.lower (Nat.le_trans hB hW.size)
    · rw [h1, Int.zero_add]; exact (dan_opp hy' ok').keeps h.1
    · rw [h1, Int.add_zero]; exact hx'.keeps h.1
  obtain ⟨p_g, p_o, p_n, p_c, p_e, rfl⟩ := hx.shape
  obtain ⟨q_g, q_o, q_n, q_c, q_e, rfl⟩ := hy.shape
  clear hx hy bA bC
  have hb0 := bel_a3 w (.cells #[.bool p_g, .slice p_o p_n p_c, .int .i64 p_e] 27) (.cells #[.bool q_g, .slice q_o q_n q_c, .int .i64 q_e] 27) (.cells #[.bool false, .slice none 0 0, .int .i64 0] 27)
  have r_k := h3_2 w (.cells #[.bool p_g, .slice p_o p_n p_c, .int .i64 p_e] 27) (.cells #[.bool q_g, .slice q_o q_n q_c, .int .i64 q_e] 27) (.cells #[.bool false, .slice none 0 0, .int .i64 0] 27)
  go_enter Tryd.func26, Tryd.ntmps26
  go_wp2_with fail
  generalize ((w.alloc (.cells #[.bool p_g, .slice p_o p_n p_c, .int .i64 p_e] 27)).alloc (.cells #[.bool q_g, .slice q_o q_n q_c, .int .i64 q_e] 27)).alloc (.cells #[.bool false, .slice none 0 0, .int .i64 0] 27) = x0 at r_k hb0 ⊢
  refine (CS _ hb0).mono ?_
  rintro _ y1 ⟨v, rfl, h1, hw⟩
  obtain ⟨n_g, n_o, n_n, n_c, n_e, rfl⟩ := h1.shape
  have r_k := (hw.block _ (Array.getElem?_eq_some_iff.1 r_k).1).trans r_k
  have k0 := blkC r_k 0 rfl
  have k1 := blkC r_k 1 rfl
  have k2 := blkC r_k 2 rfl
  have z0 := blkF r_k 0
  have z1 := blkF r_k 1
  have z2 := blkF r_k 2
  go_wp2
  refine bodyPost_ret (v := .agg #[.bool n_g, .slice n_o n_n n_c, .int .i64 n_e]) (by simp [results, Tryd.results26, go_sem, k0, k1, k2]) rfl ⟨_, rfl, dan_res3 h1 r_k _ _ _, bel_set3 (bel_trans hb0 hw) (by omega) _ _ _⟩
set_option maxRecDepth 100000 in
theorem r3times_any {w : World} {x y : Value} {A C : Int} {K : Nat} (hx : DNum w x A) (hy : DNum w y C) (bA : Bd K A) (bC : Bd K C) (hK : K ≤ 14000) :
    Calls Tryd.prog 19 #[x, y] w fun r w' => ∃ v V, r = .returned v ∧ DAns w w' V v ∧ V * 2 ^ 4194304 = A * C ∧ Bd (2 * K) V := by
  have CS : ∀ W, Below w.heap.size w W → Calls Tryd.prog 29 #[x, y] W fun r w' => ∃ v V, r = .returned v ∧ DAns W w' V v ∧ V * 2 ^ 4194304 = A * C ∧ Bd (2 * K) V := fun W hW => by
    have hx' := hx.keeps hW
    have hy' := hy.keeps hW
    obtain ⟨x, rfl, hR, ok, rfl⟩ := hx'.open (bA.ok (by omega))
    obtain ⟨y, rfl, hR', ok', rfl⟩ := hy'.open (bC.ok (by omega))
    refine (rmul3_any x y W hR hR' (okR_sane ok) (okR_sane ok')).mono ?_
    rintro r w' ⟨v, rfl, h⟩
    have hC := mulV_eq (x := x) (y := y) (by have := (okR_sane ok).2.2.1; omega) (by have := (okR_sane ok').2.2.1; omega)
    exact ⟨v, _, rfl, h, hC, bA.mul bC hC (by omega)⟩
  obtain ⟨p, rfl, _, _, _⟩ := hx.open (bA.ok (by omega))
  obtain ⟨q, rfl, _, _, _⟩ := hy.open (bC.ok (by omega))
  obtain ⟨p_g, p_o, p_n, p_c, p_d, p_e⟩ := p
  obtain ⟨q_g, q_o, q_n, q_c, q_d, q_e⟩ := q
  unfold NumR.v at *
  simp only at *
  clear hx hy bA bC
  have hb0 := bel_a3 w (.cells #[.bool p_g, .slice p_o p_n p_c, .int .i64 p_e] 27) (.cells #[.bool q_g, .slice q_o q_n q_c, .int .i64 q_e] 27) (.cells #[.bool false, .slice none 0 0, .int .i64 0] 27)
  have r_k := h3_2 w (.cells #[.bool p_g, .slice p_o p_n p_c, .int .i64 p_e] 27) (.cells #[.bool q_g, .slice q_o q_n q_c, .int .i64 q_e] 27) (.cells #[.bool false, .slice none 0 0, .int .i64 0] 27)
  go_enter Tryd.func19, Tryd.ntmps19
  go_wp2_with fail
  generalize ((w.alloc (.cells #[.bool p_g, .slice p_o p_n p_c, .int .i64 p_e] 27)).alloc (.cells #[.bool q_g, .slice q_o q_n q_c, .int .i64 q_e] 27)).alloc (.cells #[.bool false, .slice none 0 0, .int .i64 0] 27) = x0 at r_k hb0 ⊢
  have hs0 := (Array.getElem?_eq_some_iff.1 r_k).1
  refine (CS _ hb0).mono ?_
  rintro _ y1 ⟨v, V, rfl, h1, hE, hBd⟩
  obtain ⟨n_g, n_o, n_n, n_c, n_e, rfl⟩ := dans_shape h1
  have hw := h1.below
  have r_k := (hw.block _ (Array.getElem?_eq_some_iff.1 r_k).1).trans r_k
  have k0 := blkC r_k 0 rfl
  have k1 := blkC r_k 1 rfl
  have k2 := blkC r_k 2 rfl
  have z0 := blkF r_k 0
  have z1 := blkF r_k 1
  have z2 := blkF r_k 2
  go_wp2
  refine bodyPost_ret (v := .agg #[.bool n_g, .slice n_o n_n n_c, .int .i64 n_e]) (by simp [results, Tryd.results19, go_sem, k0, k1, k2]) rfl ⟨_, V, rfl, ?_, hE, hBd⟩
  exact dans_res3 (g := w.heap.size + 2) h1 hb0 (by omega) hs0 _ _ _
end Go.Proofs.YtkaidfbnhdhldaaDoor
