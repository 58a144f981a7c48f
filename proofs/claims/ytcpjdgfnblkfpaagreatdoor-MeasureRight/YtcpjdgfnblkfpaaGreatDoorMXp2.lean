/-
  Package measure: the expansions' dot, by its contract.
-/
import Derived.Test.YtcpjdgfnblkfpaaGreatDoorMXp
namespace Go.Proofs.YtcpjdgfnblkfpaaGreatDoor
open Go Go.RowKit Go.Proofs.YtcpjdgfnblkfpaaGreatDoor.M
set_option linter.unusedSimpArgs false
set_option linter.unusedVariables false

/-- The product of two differences; the sum of two products. -/
def pL (a b c : Int) : Ls := prS (dfL a b).d (dfL a b).n (dfL c b).d (dfL c b).n
def dL (ax ay bx by' cx cy : Int) : Ls := gaS ⟨(pL ax bx cx).n, (pL ax bx cx).d⟩ (pL ay by' cy).d (pL ay by' cy).n
theorem pL_all {a b c : Int} (ha : Mz a) (hb : Mz b) (hc : Mz c) : prX (dfL a b).d (dfL a b).n (dfL c b).d (dfL c b).n = true ∧ XV (pL a b c).d (pL a b c).n ∧ LB (pL a b c) 1552 ∧ (pL a b c).n ≤ 8 ∧ 2 ^ 1074 * lsm (pL a b c).d (pL a b c).n = (iV a - iV b) * (iV c - iV b) := by
  obtain ⟨u1, u2, u3, u4⟩ := dfL_mid ha hb
  obtain ⟨v1, v2, v3, v4⟩ := dfL_mid hc hb
  obtain ⟨l1, l2, l3, l4⟩ := pr_all u1 u2 (by omega) v2 (by omega) (dfL c b).n (Nat.le_refl _)
  rw [u4, v4] at l4
  refine ⟨l1, l2, fun i hi => p2_up (l3 i hi) (by omega), Nat.le_trans (prS_le _ _ _ _) ?_, l4⟩
  have : 2 * (dfL a b).n * (dfL c b).n ≤ 2 * 2 * 2 := Nat.mul_le_mul (by omega) (by omega)
  omega
theorem dL_all {ax ay bx by' cx cy : Int} (hax : Mz ax) (hay : Mz ay) (hbx : Mz bx) (hby : Mz by') (hcx : Mz cx) (hcy : Mz cy) :
    gaX ⟨(pL ax bx cx).n, (pL ax bx cx).d⟩ (pL ay by' cy).d (pL ay by' cy).n = true ∧ XV (dL ax ay bx by' cx cy).d (dL ax ay bx by' cx cy).n ∧ LB (dL ax ay bx by' cx cy) 1576 ∧
    2 ^ 1074 * lsm (dL ax ay bx by' cx cy).d (dL ax ay bx by' cx cy).n = (iV ax - iV bx) * (iV cx - iV bx) + (iV ay - iV by') * (iV cy - iV by') := by
  obtain ⟨a1, a2, a3, a4, a5⟩ := pL_all hax hbx hcx
  obtain ⟨b1, b2, b3, b4, b5⟩ := pL_all hay hby hcy
  obtain ⟨g1, g2, g3, g4⟩ := gaS_all3 (s := ⟨(pL ax bx cx).n, (pL ax bx cx).d⟩) (f := (pL ay by' cy).d) (m := (pL ay by' cy).n) (b := 1552) a2 b2.fn a3 b3 (by omega) (pL ay by' cy).n (Nat.le_refl _)
  refine ⟨g1, g2, fun i hi => p2_up (g3 i hi) (by omega), ?_⟩
  show 2 ^ 1074 * lsm (gaS ⟨(pL ax bx cx).n, (pL ax bx cx).d⟩ (pL ay by' cy).d (pL ay by' cy).n).d (gaS ⟨(pL ax bx cx).n, (pL ax bx cx).d⟩ (pL ay by' cy).d (pL ay by' cy).n).n = _
  rw [g4, Int.mul_add, b5]
  have : 2 ^ 1074 * lsm (pL ax bx cx).d (pL ax bx cx).n = _ := a5
  rw [← this]
theorem xProdM {a b c : Int} (ha : Mz a) (hb : Mz b) (hc : Mz c) {x y : Value} (w : World) (hx : XLs w x (dfL a b)) (hy : XLs w y (dfL c b)) (H : Hold4 w) :
    Calls Tryz.prog 34 #[x, y] w fun r w' => ∃ o c', r = .returned (.tuple #[.slice o (pL a b c).n c', .int .i64 0]) ∧ XLs w' (.slice o (pL a b c).n c') (pL a b c) ∧ Below w.heap.size w w' := by
  obtain ⟨xo, xc, rfl, hR⟩ := hx
  obtain ⟨yo, yc, rfl, hS⟩ := hy
  obtain ⟨u1, u2, u3, u4⟩ := dfL_mid ha hb
  obtain ⟨v1, v2, v3, v4⟩ := dfL_mid hc hb
  refine (xProduct w hR hS (fun i hi => (u1.fin i hi).1) (fun i hi => (v1.fin i hi).1) (xval_of u1) (xval_of v1) (by omega) (by omega) H).mono ?_
  intro r w' h
  obtain ⟨ao, cap, e, hQ, hb'⟩ := h.yes (pL_all ha hb hc).1
  exact ⟨ao, cap, e, ⟨ao, cap, rfl, hQ⟩, hb'⟩
theorem xSumM {ax ay bx by' cx cy : Int} (hax : Mz ax) (hay : Mz ay) (hbx : Mz bx) (hby : Mz by') (hcx : Mz cx) (hcy : Mz cy) {x y : Value} (w : World) (hx : XLs w x (pL ax bx cx)) (hy : XLs w y (pL ay by' cy)) (H : Hold4 w) :
    Calls Tryz.prog 32 #[x, y] w fun r w' => ∃ o c', r = .returned (.tuple #[.slice o (dL ax ay bx by' cx cy).n c', .int .i64 0]) ∧ XLs w' (.slice o (dL ax ay bx by' cx cy).n c') (dL ax ay bx by' cx cy) ∧ Below w.heap.size w w' := by
  obtain ⟨xo, xc, rfl, hR⟩ := hx
  obtain ⟨yo, yc, rfl, hS⟩ := hy
  obtain ⟨a1, a2, a3, a4, a5⟩ := pL_all hax hbx hcx
  obtain ⟨b1, b2, b3, b4, b5⟩ := pL_all hay hby hcy
  refine (xSum w hR hS (fun i hi => (a2.fin i hi).1) (fun i hi => (b2.fin i hi).1) (xval_of a2) (xval_of b2) (by omega) H).mono ?_
  intro r w' h
  obtain ⟨ao, cap, e, hQ, hb'⟩ := h.yes (dL_all hax hay hbx hby hcx hcy).1
  exact ⟨ao, cap, e, ⟨ao, cap, rfl, hQ⟩, hb'⟩
set_option maxRecDepth 100000 in
set_option maxHeartbeats 8000000 in
theorem mdotL_any {ax ay bx by' cx cy : Int} (hax : Mz ax) (hay : Mz ay) (hbx : Mz bx) (hby : Mz by') (hcx : Mz cx) (hcy : Mz cy) (w : World) (H : Hold4 w) :
    Calls Tryz.prog 17 #[.agg #[.func (.func 31) #[] #[], .func (.func 32) #[] #[], .func (.func 33) #[] #[], .func (.func 34) #[] #[]], .agg #[.int .i64 ax, .int .i64 ay], .agg #[.int .i64 bx, .int .i64 by'], .agg #[.int .i64 cx, .int .i64 cy]] w fun r w' => ∃ o c', r = .returned (.slice o (dL ax ay bx by' cx cy).n c') ∧ XLs w' (.slice o (dL ax ay bx by' cx cy).n c') (dL ax ay bx by' cx cy) ∧ Below w.heap.size w w' := by
  have A1 : Hid (∀ W, Hold4 W → Calls Tryz.prog 31 #[.int .i64 ax, .int .i64 bx] W fun r w' => ∃ o c, r = .returned (.slice o (dfL ax bx).n c) ∧ XLs w' (.slice o (dfL ax bx).n c) (dfL ax bx) ∧ Below W.heap.size W w') := fun W h => aExp hax hbx W h
  have A2 : Hid (∀ W, Hold4 W → Calls Tryz.prog 31 #[.int .i64 cx, .int .i64 bx] W fun r w' => ∃ o c, r = .returned (.slice o (dfL cx bx).n c) ∧ XLs w' (.slice o (dfL cx bx).n c) (dfL cx bx) ∧ Below W.heap.size W w') := fun W h => aExp hcx hbx W h
  have A3 : Hid (∀ W, Hold4 W → Calls Tryz.prog 31 #[.int .i64 ay, .int .i64 by'] W fun r w' => ∃ o c, r = .returned (.slice o (dfL ay by').n c) ∧ XLs w' (.slice o (dfL ay by').n c) (dfL ay by') ∧ Below W.heap.size W w') := fun W h => aExp hay hby W h
  have A4 : Hid (∀ W, Hold4 W → Calls Tryz.prog 31 #[.int .i64 cy, .int .i64 by'] W fun r w' => ∃ o c, r = .returned (.slice o (dfL cy by').n c) ∧ XLs w' (.slice o (dfL cy by').n c) (dfL cy by') ∧ Below W.heap.size W w') := fun W h => aExp hcy hby W h
  have M1 : Hid (∀ (x y : Value) W, XLs W x (dfL ax bx) → XLs W y (dfL cx bx) → Hold4 W → Calls Tryz.prog 34 #[x, y] W fun r w' => ∃ o c', r = .returned (.tuple #[.slice o (pL ax bx cx).n c', .int .i64 0]) ∧ XLs w' (.slice o (pL ax bx cx).n c') (pL ax bx cx) ∧ Below W.heap.size W w') := fun x y W hx hy h => xProdM hax hbx hcx W hx hy h
  have M2 : Hid (∀ (x y : Value) W, XLs W x (dfL ay by') → XLs W y (dfL cy by') → Hold4 W → Calls Tryz.prog 34 #[x, y] W fun r w' => ∃ o c', r = .returned (.tuple #[.slice o (pL ay by' cy).n c', .int .i64 0]) ∧ XLs w' (.slice o (pL ay by' cy).n c') (pL ay by' cy) ∧ Below W.heap.size W w') := fun x y W hx hy h => xProdM hay hby hcy W hx hy h
  have S1 : Hid (∀ (x y : Value) W, XLs W x (pL ax bx cx) → XLs W y (pL ay by' cy) → Hold4 W → Calls Tryz.prog 32 #[x, y] W fun r w' => ∃ o c', r = .returned (.tuple #[.slice o (dL ax ay bx by' cx cy).n c', .int .i64 0]) ∧ XLs w' (.slice o (dL ax ay bx by' cx cy).n c') (dL ax ay bx by' cx cy) ∧ Below W.heap.size W w') := fun x y W hx hy h => xSumM hax hay hbx hby hcx hcy W hx hy h
  clear hax hay hbx hby hcx hcy
  generalize dL ax ay bx by' cx cy = D at *
  generalize pL ax bx cx = P1 at *
  generalize pL ay by' cy = P2 at *
  generalize dfL ax bx = E1 at *
  generalize dfL cx bx = E2 at *
  generalize dfL ay by' = E3 at *
  generalize dfL cy by' = E4 at *
  have k_k : (w.alloc (.cells #[.func (.func 31) #[] #[], .func (.func 32) #[] #[], .func (.func 33) #[] #[], .func (.func 34) #[] #[]] 50)).heap[w.heap.size]? = some (.cells #[.func (.func 31) #[] #[], .func (.func 32) #[] #[], .func (.func 33) #[] #[], .func (.func 34) #[] #[]] 50) := heap_new (.cells #[.func (.func 31) #[] #[], .func (.func 32) #[] #[], .func (.func 33) #[] #[], .func (.func 34) #[] #[]] 50) (by rfl)
  have hb0 := bel_alloc w (.cells #[.func (.func 31) #[] #[], .func (.func 32) #[] #[], .func (.func 33) #[] #[], .func (.func 34) #[] #[]] 50)
  replace k_k := heap_past (.cells #[.int .i64 ax, .int .i64 ay] 25) k_k
  have a_k : ((w.alloc (.cells #[.func (.func 31) #[] #[], .func (.func 32) #[] #[], .func (.func 33) #[] #[], .func (.func 34) #[] #[]] 50)).alloc (.cells #[.int .i64 ax, .int .i64 ay] 25)).heap[w.heap.size + 1]? = some (.cells #[.int .i64 ax, .int .i64 ay] 25) := heap_new (.cells #[.int .i64 ax, .int .i64 ay] 25) (by simp only [size_alloc])
  replace hb0 := bel_trans hb0 (bel_alloc (w.alloc (.cells #[.func (.func 31) #[] #[], .func (.func 32) #[] #[], .func (.func 33) #[] #[], .func (.func 34) #[] #[]] 50)) (.cells #[.int .i64 ax, .int .i64 ay] 25))
  replace k_k := heap_past (.cells #[.int .i64 bx, .int .i64 by'] 25) k_k
  replace a_k := heap_past (.cells #[.int .i64 bx, .int .i64 by'] 25) a_k
  have b_k : (((w.alloc (.cells #[.func (.func 31) #[] #[], .func (.func 32) #[] #[], .func (.func 33) #[] #[], .func (.func 34) #[] #[]] 50)).alloc (.cells #[.int .i64 ax, .int .i64 ay] 25)).alloc (.cells #[.int .i64 bx, .int .i64 by'] 25)).heap[w.heap.size + 1 + 1]? = some (.cells #[.int .i64 bx, .int .i64 by'] 25) := heap_new (.cells #[.int .i64 bx, .int .i64 by'] 25) (by simp only [size_alloc])
  replace hb0 := bel_trans hb0 (bel_alloc ((w.alloc (.cells #[.func (.func 31) #[] #[], .func (.func 32) #[] #[], .func (.func 33) #[] #[], .func (.func 34) #[] #[]] 50)).alloc (.cells #[.int .i64 ax, .int .i64 ay] 25)) (.cells #[.int .i64 bx, .int .i64 by'] 25))
  replace k_k := heap_past (.cells #[.int .i64 cx, .int .i64 cy] 25) k_k
  replace a_k := heap_past (.cells #[.int .i64 cx, .int .i64 cy] 25) a_k
  replace b_k := heap_past (.cells #[.int .i64 cx, .int .i64 cy] 25) b_k
  have c_k : ((((w.alloc (.cells #[.func (.func 31) #[] #[], .func (.func 32) #[] #[], .func (.func 33) #[] #[], .func (.func 34) #[] #[]] 50)).alloc (.cells #[.int .i64 ax, .int .i64 ay] 25)).alloc (.cells #[.int .i64 bx, .int .i64 by'] 25)).alloc (.cells #[.int .i64 cx, .int .i64 cy] 25)).heap[w.heap.size + 1 + 1 + 1]? = some (.cells #[.int .i64 cx, .int .i64 cy] 25) := heap_new (.cells #[.int .i64 cx, .int .i64 cy] 25) (by simp only [size_alloc])
  replace hb0 := bel_trans hb0 (bel_alloc (((w.alloc (.cells #[.func (.func 31) #[] #[], .func (.func 32) #[] #[], .func (.func 33) #[] #[], .func (.func 34) #[] #[]] 50)).alloc (.cells #[.int .i64 ax, .int .i64 ay] 25)).alloc (.cells #[.int .i64 bx, .int .i64 by'] 25)) (.cells #[.int .i64 cx, .int .i64 cy] 25))
  go_enter Tryz.func17, Tryz.ntmps17
  go_wp2_with fail
  generalize ((((w.alloc (.cells #[.func (.func 31) #[] #[], .func (.func 32) #[] #[], .func (.func 33) #[] #[], .func (.func 34) #[] #[]] 50)).alloc (.cells #[.int .i64 ax, .int .i64 ay] 25)).alloc (.cells #[.int .i64 bx, .int .i64 by'] 25)).alloc (.cells #[.int .i64 cx, .int .i64 cy] 25)) = x0 at hb0 k_k a_k b_k c_k ⊢
  have H := H.keeps hb0
  have KK1 : ∀ W, Below x0.heap.size x0 W → W.cell? ⟨w.heap.size, 0, none⟩ = some (.func (.func 31) #[] #[]) ∧ W.cell? ⟨w.heap.size, 3, none⟩ = some (.func (.func 34) #[] #[]) ∧ W.cell? ⟨w.heap.size + 1, 0, none⟩ = some (.int .i64 ax) ∧ W.cell? ⟨w.heap.size + 2, 0, none⟩ = some (.int .i64 bx) ∧ W.cell? ⟨w.heap.size + 3, 0, none⟩ = some (.int .i64 cx) := fun W hb => ⟨q_cell (blkC k_k 0 rfl) hb, q_cell (blkC k_k 3 rfl) hb, q_cell (blkC a_k 0 rfl) hb, q_cell (blkC b_k 0 rfl) hb, q_cell (blkC c_k 0 rfl) hb⟩
  have hC1_0 := (bel_refl x0).drew
  have hs1_0 := (bel_refl x0).drew
  have hT1_0 : Below w.heap.size w x0.drew := hb0.drew
  have H_1_0 := H.keeps (bel_refl x0).drew
  go_region_held3 (fun W => W.cell? ⟨w.heap.size, 0, none⟩ = some (.func (.func 31) #[] #[]) ∧ W.cell? ⟨w.heap.size, 3, none⟩ = some (.func (.func 34) #[] #[]) ∧ W.cell? ⟨w.heap.size + 1, 0, none⟩ = some (.int .i64 ax) ∧ W.cell? ⟨w.heap.size + 2, 0, none⟩ = some (.int .i64 bx) ∧ W.cell? ⟨w.heap.size + 3, 0, none⟩ = some (.int .i64 cx))
    (with_reducible first | assumption | exact KK1 _ hC1_0 | exact KK1 _ hC1_1 | exact KK1 _ hC1_2 | exact KK1 _ hC1_3 | exact KK1 _ hC1_4 | fail)
    (first
      | (go_at_call 35; have _t := hs1_3; refine (msureL _ _ _ _ _).mono ?_; rintro _ y1_4 ⟨rfl, hq1_4⟩; have hs1_4 : Below y1_3.heap.size y1_3 y1_4 := (by with_reducible first | exact hq1_4 | exact bel_trans (bel_alloc _ _) hq1_4 | exact bel_trans (bel_dr _ _) hq1_4); have hT1_4 := bel_trans hT1_3 hs1_4; have hC1_4 := bel_trans hC1_3 hs1_4; have H_1_4 := H_1_3.keeps hs1_4; have l_D := nm1.keeps hs1_4)
      | (go_at_call 34; have _t := hs1_2; refine (M1.out _ _ _ np1 nb1 (H_1_2.keeps (by with_reducible first | exact bel_refl _ | exact bel_alloc _ _ | exact bel_dr _ _))).mono ?_; rintro _ y1_3 ⟨l_o, l_c, rfl, nm1, hq1_3⟩; have hs1_3 : Below y1_2.heap.size y1_2 y1_3 := (by with_reducible first | exact hq1_3 | exact bel_trans (bel_alloc _ _) hq1_3 | exact bel_trans (bel_dr _ _) hq1_3); have hT1_3 := bel_trans hT1_2 hs1_3; have hC1_3 := bel_trans hC1_2 hs1_3; have H_1_3 := H_1_2.keeps hs1_3)
      | (go_at_call 31; have _t := hs1_1; refine (A2.out _ (H_1_1.keeps (by with_reducible first | exact bel_refl _ | exact bel_alloc _ _ | exact bel_dr _ _))).mono ?_; rintro _ y1_2 ⟨qo1, qc1, rfl, nb1, hq1_2⟩; have hs1_2 : Below y1_1.heap.size y1_1 y1_2 := (by with_reducible first | exact hq1_2 | exact bel_trans (bel_alloc _ _) hq1_2 | exact bel_trans (bel_dr _ _) hq1_2); have hT1_2 := bel_trans hT1_1 hs1_2; have hC1_2 := bel_trans hC1_1 hs1_2; have H_1_2 := H_1_1.keeps hs1_2; have np1 := na1.keeps hs1_2)
      | (go_at_call 31; refine (A1.out _ (H_1_0.keeps (by with_reducible first | exact bel_refl _ | exact bel_alloc _ _ | exact bel_dr _ _))).mono ?_; rintro _ y1_1 ⟨po1, pc1, rfl, na1, hq1_1⟩; have hs1_1 : Below x0.drew.heap.size x0.drew y1_1 := (by with_reducible first | exact hq1_1 | exact bel_trans (bel_alloc _ _) hq1_1 | exact bel_trans (bel_dr _ _) hq1_1); have hT1_1 := bel_trans hT1_0 hs1_1; have hC1_1 := bel_trans hC1_0 hs1_1; have H_1_1 := H_1_0.keeps hs1_1))
  have hw1 := bel_trans (bel_trans (bel_trans (bel_trans hs1_0 hs1_1) hs1_2) hs1_3) hs1_4
  have H := H.keeps hw1
  have k_k := (hw1.block _ (Array.getElem?_eq_some_iff.1 k_k).1).trans k_k
  have a_k := (hw1.block _ (Array.getElem?_eq_some_iff.1 a_k).1).trans a_k
  have b_k := (hw1.block _ (Array.getElem?_eq_some_iff.1 b_k).1).trans b_k
  have c_k := (hw1.block _ (Array.getElem?_eq_some_iff.1 c_k).1).trans c_k
  have hb1 := bel_trans hb0 hw1
  go_wp2_with fail
  have KK2 : ∀ W, Below y1_4.heap.size y1_4 W → W.cell? ⟨w.heap.size, 0, none⟩ = some (.func (.func 31) #[] #[]) ∧ W.cell? ⟨w.heap.size, 3, none⟩ = some (.func (.func 34) #[] #[]) ∧ W.cell? ⟨w.heap.size + 1, 1, none⟩ = some (.int .i64 ay) ∧ W.cell? ⟨w.heap.size + 2, 1, none⟩ = some (.int .i64 by') ∧ W.cell? ⟨w.heap.size + 3, 1, none⟩ = some (.int .i64 cy) := fun W hb => ⟨q_cell (blkC k_k 0 rfl) hb, q_cell (blkC k_k 3 rfl) hb, q_cell (blkC a_k 1 rfl) hb, q_cell (blkC b_k 1 rfl) hb, q_cell (blkC c_k 1 rfl) hb⟩
  have hC2_0 := (bel_refl y1_4).drew
  have hs2_0 := (bel_refl y1_4).drew
  have hT2_0 : Below w.heap.size w y1_4.drew := hb1.drew
  have H_2_0 := H.keeps (bel_refl y1_4).drew
  go_region_held3 (fun W => W.cell? ⟨w.heap.size, 0, none⟩ = some (.func (.func 31) #[] #[]) ∧ W.cell? ⟨w.heap.size, 3, none⟩ = some (.func (.func 34) #[] #[]) ∧ W.cell? ⟨w.heap.size + 1, 1, none⟩ = some (.int .i64 ay) ∧ W.cell? ⟨w.heap.size + 2, 1, none⟩ = some (.int .i64 by') ∧ W.cell? ⟨w.heap.size + 3, 1, none⟩ = some (.int .i64 cy))
    (with_reducible first | assumption | exact KK2 _ hC2_0 | exact KK2 _ hC2_1 | exact KK2 _ hC2_2 | exact KK2 _ hC2_3 | exact KK2 _ hC2_4 | fail)
    (first
      | (go_at_call 35; have _t := hs2_3; refine (msureL _ _ _ _ _).mono ?_; rintro _ y2_4 ⟨rfl, hq2_4⟩; have hs2_4 : Below y2_3.heap.size y2_3 y2_4 := (by with_reducible first | exact hq2_4 | exact bel_trans (bel_alloc _ _) hq2_4 | exact bel_trans (bel_dr _ _) hq2_4); have hT2_4 := bel_trans hT2_3 hs2_4; have hC2_4 := bel_trans hC2_3 hs2_4; have H_2_4 := H_2_3.keeps hs2_4; have s_D := nm2.keeps hs2_4)
      | (go_at_call 34; have _t := hs2_2; refine (M2.out _ _ _ np2 nb2 (H_2_2.keeps (by with_reducible first | exact bel_refl _ | exact bel_alloc _ _ | exact bel_dr _ _))).mono ?_; rintro _ y2_3 ⟨s_o, s_c, rfl, nm2, hq2_3⟩; have hs2_3 : Below y2_2.heap.size y2_2 y2_3 := (by with_reducible first | exact hq2_3 | exact bel_trans (bel_alloc _ _) hq2_3 | exact bel_trans (bel_dr _ _) hq2_3); have hT2_3 := bel_trans hT2_2 hs2_3; have hC2_3 := bel_trans hC2_2 hs2_3; have H_2_3 := H_2_2.keeps hs2_3)
      | (go_at_call 31; have _t := hs2_1; refine (A4.out _ (H_2_1.keeps (by with_reducible first | exact bel_refl _ | exact bel_alloc _ _ | exact bel_dr _ _))).mono ?_; rintro _ y2_2 ⟨qo2, qc2, rfl, nb2, hq2_2⟩; have hs2_2 : Below y2_1.heap.size y2_1 y2_2 := (by with_reducible first | exact hq2_2 | exact bel_trans (bel_alloc _ _) hq2_2 | exact bel_trans (bel_dr _ _) hq2_2); have hT2_2 := bel_trans hT2_1 hs2_2; have hC2_2 := bel_trans hC2_1 hs2_2; have H_2_2 := H_2_1.keeps hs2_2; have np2 := na2.keeps hs2_2)
      | (go_at_call 31; refine (A3.out _ (H_2_0.keeps (by with_reducible first | exact bel_refl _ | exact bel_alloc _ _ | exact bel_dr _ _))).mono ?_; rintro _ y2_1 ⟨po2, pc2, rfl, na2, hq2_1⟩; have hs2_1 : Below y1_4.drew.heap.size y1_4.drew y2_1 := (by with_reducible first | exact hq2_1 | exact bel_trans (bel_alloc _ _) hq2_1 | exact bel_trans (bel_dr _ _) hq2_1); have hT2_1 := bel_trans hT2_0 hs2_1; have hC2_1 := bel_trans hC2_0 hs2_1; have H_2_1 := H_2_0.keeps hs2_1))
  have hw2 := bel_trans (bel_trans (bel_trans (bel_trans hs2_0 hs2_1) hs2_2) hs2_3) hs2_4
  have H := H.keeps hw2
  have l_D := l_D.keeps hw2
  have k_k := (hw2.block _ (Array.getElem?_eq_some_iff.1 k_k).1).trans k_k
  have a_k := (hw2.block _ (Array.getElem?_eq_some_iff.1 a_k).1).trans a_k
  have b_k := (hw2.block _ (Array.getElem?_eq_some_iff.1 b_k).1).trans b_k
  have c_k := (hw2.block _ (Array.getElem?_eq_some_iff.1 c_k).1).trans c_k
  have hb2 := bel_trans hb1 hw2
  have f_k1 := blkC k_k 1 rfl
  go_wp2_with fail
  clear f_k1
  refine (S1.out _ _ _ l_D s_D H).mono ?_
  rintro _ ye ⟨n_o, n_c, rfl, hn, hwe⟩
  have hbe := bel_trans hb2 hwe
  go_wp2_with fail
  refine (msureL _ _ _ _ _).mono ?_
  rintro _ yf ⟨rfl, hwf⟩
  replace hbe := bel_trans hbe hwf
  go_wp2
  go_ret
  exact ⟨n_o, n_c, rfl, hn.keeps hwf, hbe⟩
end Go.Proofs.YtcpjdgfnblkfpaaGreatDoor
