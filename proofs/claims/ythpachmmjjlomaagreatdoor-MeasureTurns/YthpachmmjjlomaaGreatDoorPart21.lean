/-
  Parts of the proof, one behind another.
-/
import Derived.Test.YthpachmmjjlomaaGreatDoorPart20
import Derived.Test.YthpachmmjjlomaaGreatDoorPart17
import Derived.Test.YthpachmmjjlomaaGreatDoorPart13
import Derived.Test.YthpachmmjjlomaaGreatDoorPart8
import Derived.Test.YthpachmmjjlomaaGreatDoorPart9
import Derived.Test.YthpachmmjjlomaaGreatDoorPart16
import Derived.Test.YthpachmmjjlomaaGreatDoorPart19
namespace Go.Proofs.YthpachmmjjlomaaGreatDoor
open Go Go.RowKit Go.Proofs.YthpachmmjjlomaaGreatDoor.M
set_option linter.unusedSimpArgs false
set_option linter.unusedVariables false
def pL (a b c : Int) : Ls := prS (dfL a b).d (dfL a b).n (dfL c b).d (dfL c b).n
def dL (ax ay bx by' cx cy : Int) : Ls := gaS ⟨(pL ax bx cx).n, (pL ax bx cx).d⟩ (pL ay by' cy).d (pL ay by' cy).n
theorem pL_all {a b c : Int} (ha : Mz a) (hb : Mz b) (hc : Mz c) : prX (dfL a b).d (dfL a b).n (dfL c b).d (dfL c b).n = true ∧ XV (pL a b c).d (pL a b c).n ∧ LB (pL a b c) 1552 ∧ (pL a b c).n <= 8 ∧ 2 ^ 1074 * lsm (pL a b c).d (pL a b c).n = (iV a - iV b) * (iV c - iV b) := by
  obtain ⟨u1, u2, u3, u4⟩ := dfL_mid ha hb
  obtain ⟨v1, v2, v3, v4⟩ := dfL_mid hc hb
  obtain ⟨l1, l2, l3, l4⟩ := pr_all u1 u2 (by omega) v2 (by omega) (dfL c b).n (Nat.le_refl _)
  rw [u4, v4] at l4
  refine ⟨l1, l2, fun i hi => p2_up (l3 i hi) (by omega), Nat.le_trans (prS_le _ _ _ _) ?_, l4⟩
  have : 2 * (dfL a b).n * (dfL c b).n <= 2 * 2 * 2 := Nat.mul_le_mul (by omega) (by omega)
  omega
theorem dL_all {ax ay bx by' cx cy : Int} (hax : Mz ax) (hay : Mz ay) (hbx : Mz bx) (hby : Mz by') (hcx : Mz cx) (hcy : Mz cy) :
    gaX ⟨(pL ax bx cx).n, (pL ax bx cx).d⟩ (pL ay by' cy).d (pL ay by' cy).n = true ∧ XV (dL ax ay bx by' cx cy).d (dL ax ay bx by' cx cy).n ∧ LB (dL ax ay bx by' cx cy) 1576 ∧
    2 ^ 1074 * lsm (dL ax ay bx by' cx cy).d (dL ax ay bx by' cx cy).n = (iV ax - iV bx) * (iV cx - iV bx) + (iV ay - iV by') * (iV cy - iV by') := by
  obtain ⟨a1, a2, a3, a4, a5⟩ := pL_all hax hbx hcx
  obtain ⟨b1, b2, b3, b4, b5⟩ := pL_all hay hby hcy
  obtain ⟨g1, g2, g3, g4⟩ := gaS_all3 (s := ⟨(pL ax bx cx).n, (pL ax bx cx).d⟩) (f := (pL ay by' cy).d) (m := (pL ay by' cy).n) (b := 1552) a2 b2.fn a3 b3 (by omega) (pL ay by' cy).n (Nat.le_refl _)
  refine ⟨g1, g2, fun i hi => p2_up (g3 i hi) (by omega), ?_⟩
  show 2 ^ 1074 * lsm (gaS ⟨(pL ax bx cx).n, (pL ax bx cx).d⟩ (pL ay by' cy).d (pL ay by' cy).n).d (gaS ⟨(pL ax bx cx).n, (pL ax bx cx).d⟩ (pL ay by' cy).d (pL ay by' cy).n).n = _
  rw [g4, Int.mul_add, b5]
  have : 2 ^ 1074 * lsm (pL ax bx cx).d (pL ax bx cx).n = _ := a5
  rw [<- this]
theorem xProdM {a b c : Int} (ha : Mz a) (hb : Mz b) (hc : Mz c) {x y : Value} (w : World) (hx : XLs w x (dfL a b)) (hy : XLs w y (dfL c b)) (H : Hold4 w) :
    Calls Tryz.prog 40 #[x, y] w fun r w' => ∃ o c', r = .returned (.tuple #[.slice o (pL a b c).n c', .int .i64 0]) ∧ XLs w' (.slice o (pL a b c).n c') (pL a b c) ∧ Below w.heap.size w w' := by
  obtain ⟨xo, xc, rfl, hR⟩ := hx
  obtain ⟨yo, yc, rfl, hS⟩ := hy
  obtain ⟨u1, u2, u3, u4⟩ := dfL_mid ha hb
  obtain ⟨v1, v2, v3, v4⟩ := dfL_mid hc hb
  refine (xProduct w hR hS (fun i hi => (u1.fin i hi).1) (fun i hi => (v1.fin i hi).1) (xval_of u1) (xval_of v1) (by omega) (by omega) H).mono ?_
  intro r w' h
  obtain ⟨ao, cap, e, hQ, hb'⟩ := h.yes (pL_all ha hb hc).1
  exact ⟨ao, cap, e, ⟨ao, cap, rfl, hQ⟩, hb'⟩
theorem xSumM {ax ay bx by' cx cy : Int} (hax : Mz ax) (hay : Mz ay) (hbx : Mz bx) (hby : Mz by') (hcx : Mz cx) (hcy : Mz cy) {x y : Value} (w : World) (hx : XLs w x (pL ax bx cx)) (hy : XLs w y (pL ay by' cy)) (H : Hold4 w) :
    Calls Tryz.prog 38 #[x, y] w fun r w' => ∃ o c', r = .returned (.tuple #[.slice o (dL ax ay bx by' cx cy).n c', .int .i64 0]) ∧ XLs w' (.slice o (dL ax ay bx by' cx cy).n c') (dL ax ay bx by' cx cy) ∧ Below w.heap.size w w' := by
  obtain ⟨xo, xc, rfl, hR⟩ := hx
  obtain ⟨yo, yc, rfl, hS⟩ := hy
  obtain ⟨a1, a2, a3, a4, a5⟩ := pL_all hax hbx hcx
  obtain ⟨b1, b2, b3, b4, b5⟩ := pL_all hay hby hcy
  refine (xSum w hR hS (fun i hi => (a2.fin i hi).1) (fun i hi => (b2.fin i hi).1) (xval_of a2) (xval_of b2) (by omega) H).mono ?_
  intro r w' h
  obtain ⟨ao, cap, e, hQ, hb'⟩ := h.yes (dL_all hax hay hbx hby hcx hcy).1
  exact ⟨ao, cap, e, ⟨ao, cap, rfl, hQ⟩, hb'⟩
set_option maxRecDepth 100000 in
set_option maxHeartbeats 8000000 in
theorem mdotL_any {ax ay bx by' cx cy : Int} (hax : Mz ax) (hay : Mz ay) (hbx : Mz bx) (hby : Mz by') (hcx : Mz cx) (hcy : Mz cy) (w : World) (H : Hold4 w) :
    Calls Tryz.prog 30 #[.agg #[.func (.func 37) #[] #[], .func (.func 38) #[] #[], .func (.func 39) #[] #[], .func (.func 40) #[] #[]], .agg #[.int .i64 ax, .int .i64 ay], .agg #[.int .i64 bx, .int .i64 by'], .agg #[.int .i64 cx, .int .i64 cy]] w fun r w' => ∃ o c', r = .returned (.slice o (dL ax ay bx by' cx cy).n c') ∧ XLs w' (.slice o (dL ax ay bx by' cx cy).n c') (dL ax ay bx by' cx cy) ∧ Below w.heap.size w w' := by
  have A1 : Hid (∀ W, Hold4 W -> Calls Tryz.prog 37 #[.int .i64 ax, .int .i64 bx] W fun r w' => ∃ o c, r = .returned (.slice o (dfL ax bx).n c) ∧ XLs w' (.slice o (dfL ax bx).n c) (dfL ax bx) ∧ Below W.heap.size W w') := fun W h => aExp hax hbx W h
  have A2 : Hid (∀ W, Hold4 W -> Calls Tryz.prog 37 #[.int .i64 cx, .int .i64 bx] W fun r w' => ∃ o c, r = .returned (.slice o (dfL cx bx).n c) ∧ XLs w' (.slice o (dfL cx bx).n c) (dfL cx bx) ∧ Below W.heap.size W w') := fun W h => aExp hcx hbx W h
  have A3 : Hid (∀ W, Hold4 W -> Calls Tryz.prog 37 #[.int .i64 ay, .int .i64 by'] W fun r w' => ∃ o c, r = .returned (.slice o (dfL ay by').n c) ∧ XLs w' (.slice o (dfL ay by').n c) (dfL ay by') ∧ Below W.heap.size W w') := fun W h => aExp hay hby W h
  have A4 : Hid (∀ W, Hold4 W -> Calls Tryz.prog 37 #[.int .i64 cy, .int .i64 by'] W fun r w' => ∃ o c, r = .returned (.slice o (dfL cy by').n c) ∧ XLs w' (.slice o (dfL cy by').n c) (dfL cy by') ∧ Below W.heap.size W w') := fun W h => aExp hcy hby W h
  have M1 : Hid (∀ (x y : Value) W, XLs W x (dfL ax bx) -> XLs W y (dfL cx bx) -> Hold4 W -> Calls Tryz.prog 40 #[x, y] W fun r w' => ∃ o c', r = .returned (.tuple #[.slice o (pL ax bx cx).n c', .int .i64 0]) ∧ XLs w' (.slice o (pL ax bx cx).n c') (pL ax bx cx) ∧ Below W.heap.size W w') := fun x y W hx hy h => xProdM hax hbx hcx W hx hy h
  have M2 : Hid (∀ (x y : Value) W, XLs W x (dfL ay by') -> XLs W y (dfL cy by') -> Hold4 W -> Calls Tryz.prog 40 #[x, y] W fun r w' => ∃ o c', r = .returned (.tuple #[.slice o (pL ay by' cy).n c', .int .i64 0]) ∧ XLs w' (.slice o (pL ay by' cy).n c') (pL ay by' cy) ∧ Below W.heap.size W w') := fun x y W hx hy h => xProdM hay hby hcy W hx hy h
  have S1 : Hid (∀ (x y : Value) W, XLs W x (pL ax bx cx) -> XLs W y (pL ay by' cy) -> Hold4 W -> Calls Tryz.prog 38 #[x, y] W fun r w' => ∃ o c', r = .returned (.tuple #[.slice o (dL ax ay bx by' cx cy).n c', .int .i64 0]) ∧ XLs w' (.slice o (dL ax ay bx by' cx cy).n c') (dL ax ay bx by' cx cy) ∧ Below W.heap.size W w') := fun x y W hx hy h => xSumM hax hay hbx hby hcx hcy W hx hy h
  clear hax hay hbx hby hcx hcy
  generalize dL ax ay bx by' cx cy = D at *
  generalize pL ax bx cx = P1 at *
  generalize pL ay by' cy = P2 at *
  generalize dfL ax bx = E1 at *
  generalize dfL cx bx = E2 at *
  generalize dfL ay by' = E3 at *
  generalize dfL cy by' = E4 at *
  have k_k : (w.alloc (.cells #[.func (.func 37) #[] #[], .func (.func 38) #[] #[], .func (.func 39) #[] #[], .func (.func 40) #[] #[]] 50)).heap[w.heap.size]? = some (.cells #[.func (.func 37) #[] #[], .func (.func 38) #[] #[], .func (.func 39) #[] #[], .func (.func 40) #[] #[]] 50) := heap_new (.cells #[.func (.func 37) #[] #[], .func (.func 38) #[] #[], .func (.func 39) #[] #[], .func (.func 40) #[] #[]] 50) (by rfl)
  have hb0 := bel_alloc w (.cells #[.func (.func 37) #[] #[], .func (.func 38) #[] #[], .func (.func 39) #[] #[], .func (.func 40) #[] #[]] 50)
  replace k_k := heap_past (.cells #[.int .i64 ax, .int .i64 ay] 23) k_k
  have a_k : ((w.alloc (.cells #[.func (.func 37) #[] #[], .func (.func 38) #[] #[], .func (.func 39) #[] #[], .func (.func 40) #[] #[]] 50)).alloc (.cells #[.int .i64 ax, .int .i64 ay] 23)).heap[w.heap.size + 1]? = some (.cells #[.int .i64 ax, .int .i64 ay] 23) := heap_new (.cells #[.int .i64 ax, .int .i64 ay] 23) (by simp only [size_alloc])
  replace hb0 := bel_trans hb0 (bel_alloc (w.alloc (.cells #[.func (.func 37) #[] #[], .func (.func 38) #[] #[], .func (.func 39) #[] #[], .func (.func 40) #[] #[]] 50)) (.cells #[.int .i64 ax, .int .i64 ay] 23))
  replace k_k := heap_past (.cells #[.int .i64 bx, .int .i64 by'] 23) k_k
  replace a_k := heap_past (.cells #[.int .i64 bx, .int .i64 by'] 23) a_k
  have b_k : (((w.alloc (.cells #[.func (.func 37) #[] #[], .func (.func 38) #[] #[], .func (.func 39) #[] #[], .func (.func 40) #[] #[]] 50)).alloc (.cells #[.int .i64 ax, .int .i64 ay] 23)).alloc (.cells #[.int .i64 bx, .int .i64 by'] 23)).heap[w.heap.size + 1 + 1]? = some (.cells #[.int .i64 bx, .int .i64 by'] 23) := heap_new (.cells #[.int .i64 bx, .int .i64 by'] 23) (by simp only [size_alloc])
  replace hb0 := bel_trans hb0 (bel_alloc ((w.alloc (.cells #[.func (.func 37) #[] #[], .func (.func 38) #[] #[], .func (.func 39) #[] #[], .func (.func 40) #[] #[]] 50)).alloc (.cells #[.int .i64 ax, .int .i64 ay] 23)) (.cells #[.int .i64 bx, .int .i64 by'] 23))
  replace k_k := heap_past (.cells #[.int .i64 cx, .int .i64 cy] 23) k_k
  replace a_k := heap_past (.cells #[.int .i64 cx, .int .i64 cy] 23) a_k
  replace b_k := heap_past (.cells #[.int .i64 cx, .int .i64 cy] 23) b_k
  have c_k : ((((w.alloc (.cells #[.func (.func 37) #[] #[], .func (.func 38) #[] #[], .func (.func 39) #[] #[], .func (.func 40) #[] #[]] 50)).alloc (.cells #[.int .i64 ax, .int .i64 ay] 23)).alloc (.cells #[.int .i64 bx, .int .i64 by'] 23)).alloc (.cells #[.int .i64 cx, .int .i64 cy] 23)).heap[w.heap.size + 1 + 1 + 1]? = some (.cells #[.int .i64 cx, .int .i64 cy] 23) := heap_new (.cells #[.int .i64 cx, .int .i64 cy] 23) (by simp only [size_alloc])
  replace hb0 := bel_trans hb0 (bel_alloc (((w.alloc (.cells #[.func (.func 37) #[] #[], .func (.func 38) #[] #[], .func (.func 39) #[] #[], .func (.func 40) #[] #[]] 50)).alloc (.cells #[.int .i64 ax, .int .i64 ay] 23)).alloc (.cells #[.int .i64 bx, .int .i64 by'] 23)) (.cells #[.int .i64 cx, .int .i64 cy] 23))
  go_enter Tryz.func30, Tryz.ntmps30
  go_wp2_with fail
  generalize ((((w.alloc (.cells #[.func (.func 37) #[] #[], .func (.func 38) #[] #[], .func (.func 39) #[] #[], .func (.func 40) #[] #[]] 50)).alloc (.cells #[.int .i64 ax, .int .i64 ay] 23)).alloc (.cells #[.int .i64 bx, .int .i64 by'] 23)).alloc (.cells #[.int .i64 cx, .int .i64 cy] 23)) = x0 at hb0 k_k a_k b_k c_k ⊢
  have H := H.keeps hb0
  have KK1 : ∀ W, Below x0.heap.size x0 W -> W.cell? ⟨w.heap.size, 0, none⟩ = some (.func (.func 37) #[] #[]) ∧ W.cell? ⟨w.heap.size, 3, none⟩ = some (.func (.func 40) #[] #[]) ∧ W.cell? ⟨w.heap.size + 1, 0, none⟩ = some (.int .i64 ax) ∧ W.cell? ⟨w.heap.size + 2, 0, none⟩ = some (.int .i64 bx) ∧ W.cell? ⟨w.heap.size + 3, 0, none⟩ = some (.int .i64 cx) := fun W hb => ⟨q_cell (blkC k_k 0 rfl) hb, q_cell (blkC k_k 3 rfl) hb, q_cell (blkC a_k 0 rfl) hb, q_cell (blkC b_k 0 rfl) hb, q_cell (blkC c_k 0 rfl) hb⟩
  have hC1_0 := (bel_refl x0).drew
  have hs1_0 := (bel_refl x0).drew
  have hT1_0 : Below w.heap.size w x0.drew := hb0.drew
  have H_1_0 := H.keeps (bel_refl x0).drew
  go_region_held3 (fun W => W.cell? ⟨w.heap.size, 0, none⟩ = some (.func (.func 37) #[] #[]) ∧ W.cell? ⟨w.heap.size, 3, none⟩ = some (.func (.func 40) #[] #[]) ∧ W.cell? ⟨w.heap.size + 1, 0, none⟩ = some (.int .i64 ax) ∧ W.cell? ⟨w.heap.size + 2, 0, none⟩ = some (.int .i64 bx) ∧ W.cell? ⟨w.heap.size + 3, 0, none⟩ = some (.int .i64 cx))
    (with_reducible first | assumption | exact KK1 _ hC1_0 | exact KK1 _ hC1_1 | exact KK1 _ hC1_2 | exact KK1 _ hC1_3 | exact KK1 _ hC1_4 | fail)
    (first
      | (go_at_call 41; have _t := hs1_3; refine (msureL _ _ _ _ _).mono ?_; rintro _ y1_4 ⟨rfl, hq1_4⟩; have hs1_4 : Below y1_3.heap.size y1_3 y1_4 := (by with_reducible first | exact hq1_4 | exact bel_trans (bel_alloc _ _) hq1_4 | exact bel_trans (bel_dr _ _) hq1_4); have hT1_4 := bel_trans hT1_3 hs1_4; have hC1_4 := bel_trans hC1_3 hs1_4; have H_1_4 := H_1_3.keeps hs1_4; have l_D := nm1.keeps hs1_4)
      | (go_at_call 40; have _t := hs1_2; refine (M1.out _ _ _ np1 nb1 (H_1_2.keeps (by with_reducible first | exact bel_refl _ | exact bel_alloc _ _ | exact bel_dr _ _))).mono ?_; rintro _ y1_3 ⟨l_o, l_c, rfl, nm1, hq1_3⟩; have hs1_3 : Below y1_2.heap.size y1_2 y1_3 := (by with_reducible first | exact hq1_3 | exact bel_trans (bel_alloc _ _) hq1_3 | exact bel_trans (bel_dr _ _) hq1_3); have hT1_3 := bel_trans hT1_2 hs1_3; have hC1_3 := bel_trans hC1_2 hs1_3; have H_1_3 := H_1_2.keeps hs1_3)
      | (go_at_call 37; have _t := hs1_1; refine (A2.out _ (H_1_1.keeps (by with_reducible first | exact bel_refl _ | exact bel_alloc _ _ | exact bel_dr _ _))).mono ?_; rintro _ y1_2 ⟨qo1, qc1, rfl, nb1, hq1_2⟩; have hs1_2 : Below y1_1.heap.size y1_1 y1_2 := (by with_reducible first | exact hq1_2 | exact bel_trans (bel_alloc _ _) hq1_2 | exact bel_trans (bel_dr _ _) hq1_2); have hT1_2 := bel_trans hT1_1 hs1_2; have hC1_2 := bel_trans hC1_1 hs1_2; have H_1_2 := H_1_1.keeps hs1_2; have np1 := na1.keeps hs1_2)
      | (go_at_call 37; refine (A1.out _ (H_1_0.keeps (by with_reducible first | exact bel_refl _ | exact bel_alloc _ _ | exact bel_dr _ _))).mono ?_; rintro _ y1_1 ⟨po1, pc1, rfl, na1, hq1_1⟩; have hs1_1 : Below x0.drew.heap.size x0.drew y1_1 := (by with_reducible first | exact hq1_1 | exact bel_trans (bel_alloc _ _) hq1_1 | exact bel_trans (bel_dr _ _) hq1_1); have hT1_1 := bel_trans hT1_0 hs1_1; have hC1_1 := bel_trans hC1_0 hs1_1; have H_1_1 := H_1_0.keeps hs1_1))
  have hw1 := bel_trans (bel_trans (bel_trans (bel_trans hs1_0 hs1_1) hs1_2) hs1_3) hs1_4
  have H := H.keeps hw1
  have k_k := (hw1.block _ (Array.getElem?_eq_some_iff.1 k_k).1).trans k_k
  have a_k := (hw1.block _ (Array.getElem?_eq_some_iff.1 a_k).1).trans a_k
  have b_k := (hw1.block _ (Array.getElem?_eq_some_iff.1 b_k).1).trans b_k
  have c_k := (hw1.block _ (Array.getElem?_eq_some_iff.1 c_k).1).trans c_k
  have hb1 := bel_trans hb0 hw1
  go_wp2_with fail
  have KK2 : ∀ W, Below y1_4.heap.size y1_4 W -> W.cell? ⟨w.heap.size, 0, none⟩ = some (.func (.func 37) #[] #[]) ∧ W.cell? ⟨w.heap.size, 3, none⟩ = some (.func (.func 40) #[] #[]) ∧ W.cell? ⟨w.heap.size + 1, 1, none⟩ = some (.int .i64 ay) ∧ W.cell? ⟨w.heap.size + 2, 1, none⟩ = some (.int .i64 by') ∧ W.cell? ⟨w.heap.size + 3, 1, none⟩ = some (.int .i64 cy) := fun W hb => ⟨q_cell (blkC k_k 0 rfl) hb, q_cell (blkC k_k 3 rfl) hb, q_cell (blkC a_k 1 rfl) hb, q_cell (blkC b_k 1 rfl) hb, q_cell (blkC c_k 1 rfl) hb⟩
  have hC2_0 := (bel_refl y1_4).drew
  have hs2_0 := (bel_refl y1_4).drew
  have hT2_0 : Below w.heap.size w y1_4.drew := hb1.drew
  have H_2_0 := H.keeps (bel_refl y1_4).drew
  go_region_held3 (fun W => W.cell? ⟨w.heap.size, 0, none⟩ = some (.func (.func 37) #[] #[]) ∧ W.cell? ⟨w.heap.size, 3, none⟩ = some (.func (.func 40) #[] #[]) ∧ W.cell? ⟨w.heap.size + 1, 1, none⟩ = some (.int .i64 ay) ∧ W.cell? ⟨w.heap.size + 2, 1, none⟩ = some (.int .i64 by') ∧ W.cell? ⟨w.heap.size + 3, 1, none⟩ = some (.int .i64 cy))
    (with_reducible first | assumption | exact KK2 _ hC2_0 | exact KK2 _ hC2_1 | exact KK2 _ hC2_2 | exact KK2 _ hC2_3 | exact KK2 _ hC2_4 | fail)
    (first
      | (go_at_call 41; have _t := hs2_3; refine (msureL _ _ _ _ _).mono ?_; rintro _ y2_4 ⟨rfl, hq2_4⟩; have hs2_4 : Below y2_3.heap.size y2_3 y2_4 := (by with_reducible first | exact hq2_4 | exact bel_trans (bel_alloc _ _) hq2_4 | exact bel_trans (bel_dr _ _) hq2_4); have hT2_4 := bel_trans hT2_3 hs2_4; have hC2_4 := bel_trans hC2_3 hs2_4; have H_2_4 := H_2_3.keeps hs2_4; have s_D := nm2.keeps hs2_4)
      | (go_at_call 40; have _t := hs2_2; refine (M2.out _ _ _ np2 nb2 (H_2_2.keeps (by with_reducible first | exact bel_refl _ | exact bel_alloc _ _ | exact bel_dr _ _))).mono ?_; rintro _ y2_3 ⟨s_o, s_c, rfl, nm2, hq2_3⟩; have hs2_3 : Below y2_2.heap.size y2_2 y2_3 := (by with_reducible first | exact hq2_3 | exact bel_trans (bel_alloc _ _) hq2_3 | exact bel_trans (bel_dr _ _) hq2_3); have hT2_3 := bel_trans hT2_2 hs2_3; have hC2_3 := bel_trans hC2_2 hs2_3; have H_2_3 := H_2_2.keeps hs2_3)
      | (go_at_call 37; have _t := hs2_1; refine (A4.out _ (H_2_1.keeps (by with_reducible first | exact bel_refl _ | exact bel_alloc _ _ | exact bel_dr _ _))).mono ?_; rintro _ y2_2 ⟨qo2, qc2, rfl, nb2, hq2_2⟩; have hs2_2 : Below y2_1.heap.size y2_1 y2_2 := (by with_reducible first | exact hq2_2 | exact bel_trans (bel_alloc _ _) hq2_2 | exact bel_trans (bel_dr _ _) hq2_2); have hT2_2 := bel_trans hT2_1 hs2_2; have hC2_2 := bel_trans hC2_1 hs2_2; have H_2_2 := H_2_1.keeps hs2_2; have np2 := na2.keeps hs2_2)
      | (go_at_call 37; refine (A3.out _ (H_2_0.keeps (by with_reducible first | exact bel_refl _ | exact bel_alloc _ _ | exact bel_dr _ _))).mono ?_; rintro _ y2_1 ⟨po2, pc2, rfl, na2, hq2_1⟩; have hs2_1 : Below y1_4.drew.heap.size y1_4.drew y2_1 := (by with_reducible first | exact hq2_1 | exact bel_trans (bel_alloc _ _) hq2_1 | exact bel_trans (bel_dr _ _) hq2_1); have hT2_1 := bel_trans hT2_0 hs2_1; have hC2_1 := bel_trans hC2_0 hs2_1; have H_2_1 := H_2_0.keeps hs2_1))
  have hw2 := bel_trans (bel_trans (bel_trans (bel_trans hs2_0 hs2_1) hs2_2) hs2_3) hs2_4
  have H := H.keeps hw2
  have l_D := l_D.keeps hw2
  have k_k := (hw2.block _ (Array.getElem?_eq_some_iff.1 k_k).1).trans k_k
  have a_k := (hw2.block _ (Array.getElem?_eq_some_iff.1 a_k).1).trans a_k
  have b_k := (hw2.block _ (Array.getElem?_eq_some_iff.1 b_k).1).trans b_k
  have c_k := (hw2.block _ (Array.getElem?_eq_some_iff.1 c_k).1).trans c_k
  have hb2 := bel_trans hb1 hw2
  have f_k1 := blkC k_k 1 rfl
  go_wp2_with fail
  clear f_k1
  refine (S1.out _ _ _ l_D s_D H).mono ?_
  rintro _ ye ⟨n_o, n_c, rfl, hn, hwe⟩
  have hbe := bel_trans hb2 hwe
  go_wp2_with fail
  refine (msureL _ _ _ _ _).mono ?_
  rintro _ yf ⟨rfl, hwf⟩
  replace hbe := bel_trans hbe hwf
  go_wp2
  go_ret
  exact ⟨n_o, n_c, rfl, hn.keeps hwf, hbe⟩
def cLo (V : Int) : Int := if V = 0 then 0 else canon (rdP 1 V)
def cHi (V : Int) : Int := if V = 0 then 0 else canon (rdP 2 V)
theorem canon_patS {g : Bool} {r : Int} (h0 : 0 <= r) (h1 : r <= 9218868437227405312) : canon (patS g r) = patS (g && decide (0 < r)) r := by
  obtain ⟨a, b, c⟩ := patS_parts (ng := g) h0 h1
  obtain ⟨d1, d2⟩ := cls_rg a
  rw [b] at d1 d2
  unfold canon
  have n4 : ¬ cls (patS g r) = 4 := fun q => by have := d1.1 q; omega
  rw [if_neg n4]
  by_cases hr : r = 0
  . rw [if_pos (d2.2 hr), hr]
    cases g <;> decide
  . rw [if_neg (fun q => hr (d2.1 q)), decide_eq_true (show 0 < r by omega), Bool.and_true]
theorem c_rung {V : Int} (h0 : V ≠ 0) : ∃ (g : Bool) (A : Int) (r0 : Nat) (left : Int), V = sg g A ∧ 0 < A ∧ Rung A r0 left ∧ cLo V = patS (g && decide (0 < rTo 1 g r0 left)) (rTo 1 g r0 left) ∧ cHi V = patS (g && decide (0 < rTo 2 g r0 left)) (rTo 2 g r0 left) := by
  obtain ⟨g, A, r0, left, e, hA, hR, _, e1, e2⟩ := dir_cases h0
  have r1 := rTo_range 1 g r0 left
  have r2 := rTo_range 2 g r0 left
  refine ⟨g, A, r0, left, e, hA, hR, ?_, ?_⟩
  . unfold cLo; rw [if_neg h0, e1, canon_patS r1.1 r1.2]
  . unfold cHi; rw [if_neg h0, e2, canon_patS r2.1 r2.2]
theorem around_c {V : Int} {ng : Bool} {f : Int -> Int × Bool} (h : RdOf V ng f) : (f 1).1 = cLo V ∧ (f 2).1 = cHi V := by
  obtain ⟨A, r0, left, e, hng, hR, hf⟩ := h
  rw [hf 1, hf 2]
  by_cases h0 : V = 0
  . have hA : A = 0 := by
      rw [h0] at e
      cases ng
      . exact e.symm
      . have : (0 : Int) = -A := e
        omega
    have hn : ng = false := by
      cases ng
      . rfl
      . have := hng rfl; omega
    subst hn
    rw [hA] at hR
    obtain ⟨u1, u2⟩ := hR.unique rung_zero
    subst u1 u2
    unfold cLo cHi
    rw [if_pos h0, if_pos h0]
    have t1 := rTo_zero 1
    have t2 := rTo_zero 2
    refine ⟨?_, ?_⟩
    . simp only [t1]; rfl
    . simp only [t2]; rfl
  . obtain ⟨g, B, s0, l, e', hB, hR', c1, c2⟩ := c_rung h0
    have hA : 0 < A := by
      have hA0 : 0 <= A := by
        have := hR.lo
        have hv : 0 <= vS r0 := Int.mul_nonneg (by omega) (Int.le_of_lt (pw_pos _))
        omega
      have : A ≠ 0 := fun q => h0 (by rw [e, q]; cases ng <;> rfl)
      omega
    have s1 : decide (V < 0) = ng := by rw [e]; exact sg_lt hA
    have s2 : decide (V < 0) = g := by rw [e']; exact sg_lt hB
    have hg : ng = g := s1.symm.trans s2
    subst hg
    have hAB := sg_inj (e.symm.trans e')
    subst hAB
    obtain ⟨u1, u2⟩ := hR.unique hR'
    subst u1 u2
    exact ⟨c1.symm, c2.symm⟩
theorem prod_c {p q : Int} (rp : rng p) (rq : rng q) (hp : pok p = true) (hq : pok q = true) : canon (prLo p q) = cLo (prV p q) ∧ canon (prHi p q) = cHi (prV p q) := by
  have h1 := (pok_rg rp).1 hp
  have h2 := (pok_rg rq).1 hq
  have i2 : ¬ (rg p = 9218868437227405312 ∨ rg q = 9218868437227405312) := by omega
  by_cases h0 : rg p = 0 ∨ rg q = 0
  . have hz : prV p q = 0 := by
      obtain ⟨_, _, _, _, hC⟩ := prV_parts rp rq hp hq
      have : patV p * patV q = 0 := by
        rcases h0 with h | h
        . have : patV p = 0 := by rw [patV_iV rp hp]; unfold iV; rw [h]; cases decide (p < 0) <;> exact Int.zero_mul _
          rw [this, Int.zero_mul]
        . have : patV q = 0 := by rw [patV_iV rq hq]; unfold iV; rw [h]; cases decide (q < 0) <;> exact Int.zero_mul _
          rw [this, Int.mul_zero]
      rw [this] at hC
      rcases Int.mul_eq_zero.1 hC with k | k
      . exact k
      . exact absurd k (Int.ne_of_gt (two_pos 4194304))
    unfold prLo prHi cLo cHi
    rw [if_pos h0, if_pos h0, if_pos hz, if_pos hz]
    exact ⟨by decide, by decide⟩
  . have hz := prV_nz rp rq hp hq (fun k => h0 (.inl k)) (fun k => h0 (.inr k))
    unfold prLo prHi cLo cHi
    rw [if_neg h0, if_neg h0, if_neg i2, if_neg i2, if_neg hz, if_neg hz]
    exact ⟨rfl, rfl⟩
theorem suN_near {p q : Int} (rp : rng p) (rq : rng q) (hp : pok p = true) (hq : pok q = true) : suN p q = if patV p + patV q = 0 then patS (decide (hiM p q < 0) && decide (loM p q < 0)) 0 else nearP (patV p + patV q) := by
  unfold suN hiM loM
  by_cases h : rg p < rg q
  . rw [if_pos h, if_pos h, fsum_eqn rq rp hq hp, Int.add_comm]
  . rw [if_neg h, if_neg h, fsum_eqn rp rq hp hq]
theorem sum_c {p q : Int} (rp : rng p) (rq : rng q) (hp : pok p = true) (hq : pok q = true) : nn (suN p q) ∧ canon (beLo (suN p q) (suL p q)) = cLo (patV p + patV q) ∧ canon (beHi (suN p q) (suL p q)) = cHi (patV p + patV q) := by
  have hN := suN_near rp rq hp hq
  have hVi : patV p + patV q = (iV p + iV q) * pw (-1074) := by rw [patV_iV rp hp, patV_iV rq hq, Int.add_mul]
  have hq0 := pw_pos (-1074)
  by_cases h0 : patV p + patV q = 0
  . rw [if_pos h0] at hN
    have hnn : nn (suN p q) := by rw [hN]; exact patS_nn (by decide) (by decide)
    have hz : iV p + iV q = 0 := by
      rcases Int.mul_eq_zero.1 (hVi.symm.trans h0) with k | k
      . exact k
      . omega
    have hpok : pok (suN p q) = true := by rw [hN]; cases (decide (hiM p q < 0) && decide (loM p q < 0)) <;> decide
    have hi0 : iV (suN p q) = 0 := by rw [hN]; cases (decide (hiM p q < 0) && decide (loM p q < 0)) <;> decide
    obtain ⟨_, _, hc⟩ := su_btw rp rq hp hq hpok hnn
    rw [hi0, hz] at hc
    refine ⟨hnn, ?_⟩
    rcases hc with ⟨_, b1, b2⟩ | ⟨k, _⟩ | ⟨k, _⟩
    . rw [b1, b2]
      unfold cLo cHi
      rw [if_pos h0, if_pos h0, hN]
      exact ⟨by cases (decide (hiM p q < 0) && decide (loM p q < 0)) <;> decide, by cases (decide (hiM p q < 0) && decide (loM p q < 0)) <;> decide⟩
    . omega
    . omega
  . rw [if_neg h0] at hN
    obtain ⟨g1, g2⟩ := nearP_pat h0
    have hnn : nn (suN p q) := by rw [hN]; exact ⟨g1, g2⟩
    refine ⟨hnn, ?_⟩
    unfold cLo cHi
    rw [if_neg h0, if_neg h0]
    cases hf : pok (nearP (patV p + patV q))
    . have hi := dir_inf h0 hf
      have hr : rg (suN p q) = 9218868437227405312 := by
        rw [hN]
        have k1 := nn_rg (show nn (nearP (patV p + patV q)) from ⟨g1, g2⟩)
        rcases Int.lt_or_le (rg (nearP (patV p + patV q))) 9218868437227405312 with k | k
        . rw [(pok_rg g1).2 k] at hf; cases hf
        . omega
      have h1 := (pok_rg rp).1 hp
      have h2 := (pok_rg rq).1 hq
      obtain ⟨o1, o2⟩ := su_over ⟨rp, pok_clsF rp hp⟩ ⟨rq, pok_clsF rq hq⟩ (by omega) (by omega) hnn hr
      rcases Int.lt_or_gt_of_ne h0 with k | k
      . obtain ⟨e0, e1, e2⟩ := hi.2 k
        obtain ⟨b1, b2⟩ := o2 (by rw [hN, e0]; decide)
        rw [b1, b2, hN, e0, e1, e2]
        exact ⟨by decide, by decide⟩
      . obtain ⟨e0, e1, e2⟩ := hi.1 k
        obtain ⟨b1, b2⟩ := o1 (by rw [hN, e0]; decide)
        rw [b1, b2, hN, e0, e1, e2]
        exact ⟨by decide, by decide⟩
    . obtain ⟨d1, d2, d3⟩ := dir_fin h0 hf
      rw [<- hN] at d1 d2 d3 hf
      obtain ⟨_, _, hc⟩ := su_btw rp rq hp hq hf hnn
      have hvn := patV_iV hnn.1 hf
      rw [hvn, hVi] at d1 d2 d3
      rw [hVi]
      generalize pw (-1074) = w at *
      rcases hc with ⟨k, b1, b2⟩ | ⟨k, b1, b2⟩ | ⟨k, b1, b2⟩
      . rw [b1, b2]
        obtain ⟨f1, f2⟩ := d3 (by rw [k])
        rw [<- f1, <- f2]
        exact ⟨rfl, rfl⟩
      . rw [b1, b2]
        obtain ⟨f1, f2⟩ := d1 (Int.mul_lt_mul_of_pos_right k hq0)
        rw [<- f1, <- f2]
        exact ⟨rfl, rfl⟩
      . rw [b1, b2]
        obtain ⟨f1, f2⟩ := d2 (Int.mul_lt_mul_of_pos_right k hq0)
        rw [<- f1, <- f2]
        exact ⟨rfl, rfl⟩
theorem rung_at (r : Nat) : Rung (vS r) r 0 := by
  have h := vS_lt (show r < r + 1 by omega)
  refine ⟨Int.le_refl _, h, ⟨fun _ => rfl, fun _ => rfl⟩, ⟨fun q => by omega, fun q => by omega⟩, ⟨fun q => by omega, fun q => by omega⟩, ⟨fun q => by omega, fun q => by omega⟩⟩
theorem rTo_at (way : Int) (g : Bool) {r : Nat} (h : (r : Int) < 9218868437227405312) : rTo way g r 0 = (r : Int) := by
  rw [rTo_low way h, (rUp_dn (decide (r % 2 = 1)) 0).2.2.2.2 way g rfl]
  simp
theorem c_at {g : Bool} {r : Nat} (h : (r : Int) < 9218868437227405312) (h0 : 0 < r) : cLo (sg g (vS r)) = patS g (r : Int) ∧ cHi (sg g (vS r)) = patS g (r : Int) := by
  have hp : 0 < vS r := by
    have := vS_lt h0
    have hz : vS 0 = 0 := by unfold vS; rw [V_zero]; exact Int.zero_mul _
    omega
  have hn : sg g (vS r) ≠ 0 := fun q => by
    generalize vS r = y at *
    cases g
    . rw [sgFF] at q; omega
    . rw [sgTT] at q; omega
  obtain ⟨g', A, r0, left, e, hA, hR, c1, c2⟩ := c_rung hn
  have s1 : decide (sg g (vS r) < 0) = g := sg_lt hp
  have s2 : decide (sg g (vS r) < 0) = g' := by rw [e]; exact sg_lt hA
  have hg : g = g' := s1.symm.trans s2
  subst hg
  have hAB := sg_inj e
  rw [<- hAB] at hR
  obtain ⟨u1, u2⟩ := hR.unique (rung_at r)
  subst u1 u2
  rw [c1, c2, rTo_at 1 g h, rTo_at 2 g h, decide_eq_true (show (0 : Int) < (r0 : Int) by omega), Bool.and_true]
  exact ⟨rfl, rfl⟩
theorem q_two_keep {p B : Nat} {x0 x1 : Value} {W W' : World} (h : p < B ∧ B <= W.heap.size ∧ W.cell? ⟨p, 0, none⟩ = some x0 ∧ W.cell? ⟨p, 1, none⟩ = some x1) (hb : Below W.heap.size W W') :
    p < B ∧ B <= W'.heap.size ∧ W'.cell? ⟨p, 0, none⟩ = some x0 ∧ W'.cell? ⟨p, 1, none⟩ = some x1 :=
  ⟨h.1, Nat.le_trans h.2.1 hb.size, q_cell h.2.2.1 hb, q_cell h.2.2.2 hb⟩
theorem Lays.below' {w w' : World} (h : Lays w) (hb : Below w.heap.size w w') : Lays w' :=
  ⟨q_cell h.a0 hb, q_cell h.a1 hb, q_cell h.a2 hb, trivial, trivial, trivial⟩
set_option maxRecDepth 100000 in
set_option maxHeartbeats 1000000 in
theorem spanTold {lo hi : Int} (hl : nn lo) (hh : nn hi) (w : World) (L : Lays w) :
    Calls Tryz.prog 96 #[ivl lo hi] w fun e w' => e = .returned (spn (canon lo) (canon hi)) ∧ Below w.heap.size w w' := by
  unfold ivl spn
  have CO1 : Hid (∀ W, Calls Tryz.prog 86 #[.float .f64 (wd lo)] W fun e w' => e = .returned (.int .i64 lo) ∧ w' = W) := fun W => by
    have := bitsOf lo W hl.1
    rw [show told lo = lo from if_neg hl.2] at this
    exact this
  have CO2 : Hid (∀ W, Calls Tryz.prog 86 #[.float .f64 (wd hi)] W fun e w' => e = .returned (.int .i64 hi) ∧ w' = W) := fun W => by
    have := bitsOf hi W hh.1
    rw [show told hi = hi from if_neg hh.2] at this
    exact this
  have CX' : Hid (∀ W, Lays W -> Calls Tryz.prog 129 #[.int .i64 lo] W fun e w' => e = .returned (.int .i64 (canon lo)) ∧ Gr W w') := fun W LW => bitsCanon lo W LW
  have CY' : Hid (∀ W, Lays W -> Calls Tryz.prog 129 #[.int .i64 hi] W fun e w' => e = .returned (.int .i64 (canon hi)) ∧ Gr W w') := fun W LW => bitsCanon hi W LW
  generalize canon lo = X at *
  generalize canon hi = Y at *
  generalize wd lo = A at *
  generalize wd hi = B at *
  have hb2 := bel_alloc2 w (.cells #[.float .f64 A, .float .f64 B] 102) (.cells #[.int .i64 0, .int .i64 0] 55)
  have p0 := heap_a2 w (.cells #[.float .f64 A, .float .f64 B] 102) (.cells #[.int .i64 0, .int .i64 0] 55)
  have p1 := heap_b2 w (.cells #[.float .f64 A, .float .f64 B] 102) (.cells #[.int .i64 0, .int .i64 0] 55)
  have hs := size2 w (.cells #[.float .f64 A, .float .f64 B] 102) (.cells #[.int .i64 0, .int .i64 0] 55)
  have c0 := blkC p0 0 rfl
  have c1 := blkC p0 1 rfl
  have hbd := hb2.drew
  have L1 := L.below' hbd
  clear hl hh
  go_enter Tryz.func96, Tryz.ntmps96
  go_wp2_with fail
  generalize (w.alloc (.cells #[.float .f64 A, .float .f64 B] 102)).alloc (.cells #[.int .i64 0, .int .i64 0] 55) = w1 at *
  have hc : w.heap.size < w.heap.size + 1 ∧ w.heap.size + 1 <= w1.drew.heap.size ∧ w1.drew.cell? ⟨w.heap.size, 0, none⟩ = some (.float .f64 A) ∧ w1.drew.cell? ⟨w.heap.size, 1, none⟩ = some (.float .f64 B) := ⟨by omega, by show _ <= w1.heap.size; omega, c0, c1⟩
  have hd : w1.drew.heap[w.heap.size + 1]? = some (.cells #[.int .i64 0, .int .i64 0] 55 (0, 0)) := p1
  go_region_held3 (fun W => w.heap.size < w.heap.size + 1 ∧ w.heap.size + 1 <= W.heap.size ∧ W.cell? ⟨w.heap.size, 0, none⟩ = some (.float .f64 A) ∧ W.cell? ⟨w.heap.size, 1, none⟩ = some (.float .f64 B))
    (first | assumption | (repeat (first | exact hc | exact hc1 | exact hc2 | refine q_two_set (by omega) ?_)))
    (first
      | (go_at_call 86; have _t := LA; refine (CO2.out _).mono ?_; rintro _ _ ⟨rfl, rfl⟩)
      | (go_at_call 86; refine (CO1.out _).mono ?_; rintro _ _ ⟨rfl, rfl⟩)
      | (go_at_call 129; have _t := LA; refine (CY'.out _ LA).mono ?_; rintro _ w3 ⟨rfl, g3⟩; have hc2 := q_two_keep hc1 g3.be; have d2 := (g3.be.block _ (Array.getElem?_eq_some_iff.1 d1).1).trans d1; have d3 := q_heap_set d2 0 (.int .i64 X); have d4 := q_heap_set d3 1 (.int .i64 Y); have f0 := blkC d2 0 rfl; have z0 := blkF d2 0; have f1 := blkC d3 1 rfl; have z1 := blkF d3 1)
      | (go_at_call 129; refine (CX'.out _ L1).mono ?_; rintro _ w2 ⟨rfl, g2⟩; have LA := L1.grown g2; have hc1 := q_two_keep hc g2.be; have d1 := (g2.be.block _ (Array.getElem?_eq_some_iff.1 hd).1).trans hd))
  have e0 := blkC d4 0 rfl
  have e1 := blkC d4 1 rfl
  have hbe : Below w.heap.size w ((w3.setCell ⟨w.heap.size + 1, 0, none⟩ (.int .i64 X)).setCell ⟨w.heap.size + 1, 1, none⟩ (.int .i64 Y)) := ((bel_trans hbd (bel_trans g2.be g3.be)).setCell (p := ⟨w.heap.size + 1, 0, none⟩) (Nat.le_succ _) _).setCell (p := ⟨w.heap.size + 1, 1, none⟩) (Nat.le_succ _) _
  clear d1 d2 d3 d4 f0 f1 z0 z1 hd hc hc1 hc2
  generalize (w3.setCell ⟨w.heap.size + 1, 0, none⟩ (.int .i64 X)).setCell ⟨w.heap.size + 1, 1, none⟩ (.int .i64 Y) = wy at *
  go_wp2
  refine bodyPost_ret (v := .agg #[.int .i64 X, .int .i64 Y]) (by simp [results, Tryz.results96, go_sem, e0, e1]) rfl ⟨rfl, hbe⟩
def twoV (ok : Bool) (v : Value) : Value := if ok then v else .agg #[.int .i64 0, .int .i64 0]
def errA (ok : Bool) : Int := if ok then 0 else 1
theorem hl_last {n : Nat} (w : World) (o : Obj) (h : n = w.heap.size) : (w.alloc o).heap[n]? = some o := by
  subst h
  show (w.heap.push o)[w.heap.size]? = _
  simp
theorem hl6 (w : World) (o0 o1 o2 o3 o4 o5 : Obj) : ((((((w.alloc o0).alloc o1).alloc o2).alloc o3).alloc o4).alloc o5).drew.drew.drew.heap = (((((w.heap.push o0).push o1).push o2).push o3).push o4).push o5 := rfl
theorem hl6_0 {n m : Nat} {w : World} {o0 o1 o2 o3 o4 o5 : Obj} (hs : w.heap.size = m) (h : n = m + 0) : (((((((w.alloc o0).alloc o1).alloc o2).alloc o3).alloc o4).alloc o5).drew.drew.drew).heap[n]? = some o0 := by
  subst hs
  subst h
  rw [hl6]
  rw [Array.getElem?_push, if_neg (by first | (simp; done) | (simp; omega))]
  rw [Array.getElem?_push, if_neg (by first | (simp; done) | (simp; omega))]
  rw [Array.getElem?_push, if_neg (by first | (simp; done) | (simp; omega))]
  rw [Array.getElem?_push, if_neg (by first | (simp; done) | (simp; omega))]
  rw [Array.getElem?_push, if_neg (by first | (simp; done) | (simp; omega))]
  rw [Array.getElem?_push, if_pos (by simp)]
theorem hl6_1 {n m : Nat} {w : World} {o0 o1 o2 o3 o4 o5 : Obj} (hs : w.heap.size = m) (h : n = m + 1) : (((((((w.alloc o0).alloc o1).alloc o2).alloc o3).alloc o4).alloc o5).drew.drew.drew).heap[n]? = some o1 := by
  subst hs
  subst h
  rw [hl6]
  rw [Array.getElem?_push, if_neg (by first | (simp; done) | (simp; omega))]
  rw [Array.getElem?_push, if_neg (by first | (simp; done) | (simp; omega))]
  rw [Array.getElem?_push, if_neg (by first | (simp; done) | (simp; omega))]
  rw [Array.getElem?_push, if_neg (by first | (simp; done) | (simp; omega))]
  rw [Array.getElem?_push, if_pos (by simp)]
theorem hl6_2 {n m : Nat} {w : World} {o0 o1 o2 o3 o4 o5 : Obj} (hs : w.heap.size = m) (h : n = m + 2) : (((((((w.alloc o0).alloc o1).alloc o2).alloc o3).alloc o4).alloc o5).drew.drew.drew).heap[n]? = some o2 := by
  subst hs
  subst h
  rw [hl6]
  rw [Array.getElem?_push, if_neg (by first | (simp; done) | (simp; omega))]
  rw [Array.getElem?_push, if_neg (by first | (simp; done) | (simp; omega))]
  rw [Array.getElem?_push, if_neg (by first | (simp; done) | (simp; omega))]
  rw [Array.getElem?_push, if_pos (by simp)]
theorem hl6_3 {n m : Nat} {w : World} {o0 o1 o2 o3 o4 o5 : Obj} (hs : w.heap.size = m) (h : n = m + 3) : (((((((w.alloc o0).alloc o1).alloc o2).alloc o3).alloc o4).alloc o5).drew.drew.drew).heap[n]? = some o3 := by
  subst hs
  subst h
  rw [hl6]
  rw [Array.getElem?_push, if_neg (by first | (simp; done) | (simp; omega))]
  rw [Array.getElem?_push, if_neg (by first | (simp; done) | (simp; omega))]
  rw [Array.getElem?_push, if_pos (by simp)]
theorem hl6_4 {n m : Nat} {w : World} {o0 o1 o2 o3 o4 o5 : Obj} (hs : w.heap.size = m) (h : n = m + 4) : (((((((w.alloc o0).alloc o1).alloc o2).alloc o3).alloc o4).alloc o5).drew.drew.drew).heap[n]? = some o4 := by
  subst hs
  subst h
  rw [hl6]
  rw [Array.getElem?_push, if_neg (by first | (simp; done) | (simp; omega))]
  rw [Array.getElem?_push, if_pos (by simp)]
theorem hl6_5 {n m : Nat} {w : World} {o0 o1 o2 o3 o4 o5 : Obj} (hs : w.heap.size = m) (h : n = m + 5) : (((((((w.alloc o0).alloc o1).alloc o2).alloc o3).alloc o4).alloc o5).drew.drew.drew).heap[n]? = some o5 := by
  subst hs
  subst h
  rw [hl6]
  rw [Array.getElem?_push, if_pos (by simp)]
theorem hl6_b {w : World} {o0 o1 o2 o3 o4 o5 : Obj} : Below w.heap.size w (((((((w.alloc o0).alloc o1).alloc o2).alloc o3).alloc o4).alloc o5).drew.drew.drew) :=
  (bel_trans (bel_alloc2 w o0 o1) (bel_trans (bel_alloc2 _ o2 o3) (bel_alloc2 _ o4 o5))).drew.drew.drew
theorem s4_keep {a b B : Nat} {x0 x1 x2 x3 : Value} {W W' : World} (h : (a < B ∧ b < B ∧ B <= W.heap.size) ∧ W.cell? ⟨a, 0, none⟩ = some x0 ∧ W.cell? ⟨a, 1, none⟩ = some x1 ∧ W.cell? ⟨b, 0, none⟩ = some x2 ∧ W.cell? ⟨b, 1, none⟩ = some x3) (hb : Below W.heap.size W W') :
    (a < B ∧ b < B ∧ B <= W'.heap.size) ∧ W'.cell? ⟨a, 0, none⟩ = some x0 ∧ W'.cell? ⟨a, 1, none⟩ = some x1 ∧ W'.cell? ⟨b, 0, none⟩ = some x2 ∧ W'.cell? ⟨b, 1, none⟩ = some x3 :=
  ⟨⟨h.1.1, h.1.2.1, Nat.le_trans h.1.2.2 hb.size⟩, q_cell h.2.1 hb, q_cell h.2.2.1 hb, q_cell h.2.2.2.1 hb, q_cell h.2.2.2.2 hb⟩
theorem s4_alloc {a b B : Nat} {x0 x1 x2 x3 : Value} {W : World} (o : Obj) (h : (a < B ∧ b < B ∧ B <= W.heap.size) ∧ W.cell? ⟨a, 0, none⟩ = some x0 ∧ W.cell? ⟨a, 1, none⟩ = some x1 ∧ W.cell? ⟨b, 0, none⟩ = some x2 ∧ W.cell? ⟨b, 1, none⟩ = some x3) :
    (a < B ∧ b < B ∧ B <= (W.alloc o).heap.size) ∧ (W.alloc o).cell? ⟨a, 0, none⟩ = some x0 ∧ (W.alloc o).cell? ⟨a, 1, none⟩ = some x1 ∧ (W.alloc o).cell? ⟨b, 0, none⟩ = some x2 ∧ (W.alloc o).cell? ⟨b, 1, none⟩ = some x3 := s4_keep h (bel_alloc _ _)
theorem s4_drew {a b B : Nat} {x0 x1 x2 x3 : Value} {W : World} (h : (a < B ∧ b < B ∧ B <= W.heap.size) ∧ W.cell? ⟨a, 0, none⟩ = some x0 ∧ W.cell? ⟨a, 1, none⟩ = some x1 ∧ W.cell? ⟨b, 0, none⟩ = some x2 ∧ W.cell? ⟨b, 1, none⟩ = some x3) :
    (a < B ∧ b < B ∧ B <= W.drew.heap.size) ∧ W.drew.cell? ⟨a, 0, none⟩ = some x0 ∧ W.drew.cell? ⟨a, 1, none⟩ = some x1 ∧ W.drew.cell? ⟨b, 0, none⟩ = some x2 ∧ W.drew.cell? ⟨b, 1, none⟩ = some x3 := h
theorem mulP_dir {p q way : Int} (rp : rng p) (rq : rng q) (hp : pok p = true) (hq : pok q = true) (h : prV p q ≠ 0) (hw : way ≠ 0) : mulP way p q = rdP way (prV p q) := by
  unfold mulP
  have n1 : ¬ (way = 0 ∨ (pok p && pok q) = false) := fun k => by
    rcases k with k | k
    . exact hw k
    . rw [hp, hq] at k; cases k
  rw [if_neg n1, if_pos h]
theorem prLo_nn {p q : Int} (hp : nn p) (hq : nn q) : nn (prLo p q) ∧ nn (prHi p q) := by
  unfold prLo prHi
  by_cases h0 : rg p = 0 ∨ rg q = 0
  . rw [if_pos h0, if_pos h0]; exact ⟨nn0.1, nn0.1⟩
  . rw [if_neg h0, if_neg h0]
    by_cases hi : rg p = 9218868437227405312 ∨ rg q = 9218868437227405312
    . rw [if_pos hi, if_pos hi]; exact ⟨patS_nn (by decide) (by decide), patS_nn (by decide) (by decide)⟩
    . rw [if_neg hi, if_neg hi]
      have pp := rg_pat0 hp (fun k => hi (.inl k))
      have pq := rg_pat0 hq (fun k => hi (.inr k))
      have hz := prV_nz hp.1 hq.1 pp pq (fun k => h0 (.inl k)) (fun k => h0 (.inr k))
      exact ⟨⟨(rdP_pat 1 hz).1, (rdP_pat 1 hz).2⟩, ⟨(rdP_pat 2 hz).1, (rdP_pat 2 hz).2⟩⟩
theorem spProduct {p q : Int} (hp : nn p) (hq : nn q) (w : World) (H : Hold4 w) :
    Calls Tryz.prog 101 #[.float .f64 (wd p), .float .f64 (wd q)] w fun e w' => e = .returned (ivl (prLo p q) (prHi p q)) ∧ Below w.heap.size w w' := by
  by_cases h0 : rg p = 0 ∨ rg q = 0
  . have e1 : prLo p q = 0 := by unfold prLo; rw [if_pos h0]
    have e2 : prHi p q = 0 := by unfold prHi; rw [if_pos h0]
    rw [e1, e2]
    exact product_zero hp hq h0 w
  . have p0 : rg p ≠ 0 := fun k => h0 (.inl k)
    have q0 : rg q ≠ 0 := fun k => h0 (.inr k)
    by_cases hi : rg p = 9218868437227405312 ∨ rg q = 9218868437227405312
    . obtain ⟨f1, f2⟩ := pr_infE hp hq p0 q0 hi
      have hn : nn (fprod p q) := by rw [f1]; exact patS_nn (by decide) (by decide)
      have hd : 283726776524341248 <= rg (fprod p q) := by rw [f1, (patS_parts (by decide) (by decide)).2.1]; decide
      have := product_be hp hq p0 q0 hn hd w
      rw [f2, f1] at this
      have e1 : prLo p q = patS (xsg p q) 9218868437227405312 := by unfold prLo; rw [if_neg h0, if_pos hi]
      have e2 : prHi p q = patS (xsg p q) 9218868437227405312 := by unfold prHi; rw [if_neg h0, if_pos hi]
      have b1 : beLo (patS (xsg p q) 9218868437227405312) 9221120237041090561 = patS (xsg p q) 9218868437227405312 := by unfold beLo; rw [show less 9221120237041090561 0 = false by decide]; rfl
      have b2 : beHi (patS (xsg p q) 9218868437227405312) 9221120237041090561 = patS (xsg p q) 9218868437227405312 := by unfold beHi; rw [show less 9221120237041090561 0 = false by decide, show less 0 9221120237041090561 = false by decide]; rfl
      rw [b1, b2] at this
      rw [e1, e2]
      exact this
    . have pp := rg_pat0 hp (fun k => hi (.inl k))
      have pq := rg_pat0 hq (fun k => hi (.inr k))
      have hz := prV_nz hp.1 hq.1 pp pq p0 q0
      have e1 : prLo p q = rdP 1 (prV p q) := by unfold prLo; rw [if_neg h0, if_neg hi]
      have e2 : prHi p q = rdP 2 (prV p q) := by unfold prHi; rw [if_neg h0, if_neg hi]
      have hN := fprod_fin hp.1 hq.1 pp pq hz
      have hn : nn (fprod p q) := by rw [hN]; exact ⟨(nearP_pat hz).1, (nearP_pat hz).2⟩
      rw [e1, e2]
      by_cases hd : rg (fprod p q) < 283726776524341248
      . have := product_deep hp hq p0 q0 hn hd w H
        rwa [mulP_dir hp.1 hq.1 pp pq hz (by decide), mulP_dir hp.1 hq.1 pp pq hz (by decide)] at this
      . have := product_be hp hq p0 q0 hn (by omega) w
        obtain ⟨b1, b2⟩ := pr_fin hp.1 hq.1 pp pq p0 q0 (by omega)
        rwa [b1, b2] at this
theorem al1 {w W : World} (h : Below w.heap.size w W) (o : Obj) : Below w.heap.size w (W.alloc o) := h.alloc h.size o
theorem blk_up {w W : World} (h : Below w.heap.size w W) {g : Nat} {X : Obj} (k : w.heap[g]? = some X) : W.heap[g]? = some X := (h.block _ (Array.getElem?_eq_some_iff.1 k).1).trans k
end Go.Proofs.YthpachmmjjlomaaGreatDoor
