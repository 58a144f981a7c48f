/-
  Parts of the proof, one behind another.
-/
import Derived.Test.YtelnilmjhdneoaaGreatDoorPart10
import Derived.Test.YtelnilmjhdneoaaGreatDoorPart9
import Derived.Test.YtelnilmjhdneoaaGreatDoorPart6
import Derived.Test.YtelnilmjhdneoaaGreatDoorPart5
/-
  Package orient: Exact, by its contract.
-/
namespace Go.Proofs.YtelnilmjhdneoaaGreatDoor
open Go Go.RowKit Go.Proofs.YtelnilmjhdneoaaGreatDoor.M
set_option linter.unusedSimpArgs false
set_option linter.unusedVariables false

set_option maxRecDepth 100000 in
set_option maxHeartbeats 2000000 in
theorem oExactF_yes {ax ay bx by' cx cy : Int} (rax : rng ax) (ray : rng ay) (rbx : rng bx) (rby : rng by') (rcx : rng cx) (rcy : rng cy) (pax : pok ax = true) (pay : pok ay = true) (pbx : pok bx = true) (pby : pok by' = true) (pcx : pok cx = true) (pcy : pok cy = true) (w : World) (H : Hold4 w) :
    Calls Tryz.prog 5 #[.agg #[.int .i64 ax, .int .i64 ay], .agg #[.int .i64 bx, .int .i64 by'], .agg #[.int .i64 cx, .int .i64 cy]] w fun r w' => ∃ v V, r = .returned (.tuple #[v, .int .i64 0]) ∧ DAns w w' V v ∧ Det (patV ax - patV cx) (patV ay - patV cy) (patV bx - patV cx) (patV by' - patV cy) V ∧ Bd 8100 V := by
  have CP : Hid (∀ W, Calls Tryz.prog 11 #[.agg #[.int .i64 ax, .int .i64 ay], .agg #[.int .i64 bx, .int .i64 by'], .agg #[.int .i64 cx, .int .i64 cy]] W fun r w' => r = .returned (.bool true) ∧ Below W.heap.size W w') := fun W => by
    have := opoints_any rax ray rbx rby rcx rcy W
    rw [pax, pay, pbx, pby, pcx, pcy] at this
    exact this
  have CE : Hid (∀ W, Hold4 W → Calls Tryz.prog 12 #[.agg #[.int .i64 ax, .int .i64 ay], .agg #[.int .i64 bx, .int .i64 by'], .agg #[.int .i64 cx, .int .i64 cy]] W fun r w' => ∃ v V, r = .returned v ∧ DAns W w' V v ∧ Det (patV ax - patV cx) (patV ay - patV cy) (patV bx - patV cx) (patV by' - patV cy) V ∧ Bd 8100 V) := fun W h => oexact_any pax pay pbx pby pcx pcy W h
  clear rax ray rbx rby rcx rcy pax pay pbx pby pcx pcy
  have hb0 := bel_a4 w (.cells #[.int .i64 ax, .int .i64 ay] 23) (.cells #[.int .i64 bx, .int .i64 by'] 23) (.cells #[.int .i64 cx, .int .i64 cy] 23) (.cells #[.bool false, .slice none 0 0, .int .i64 0] 27)
  have a_k := h4_0 w (.cells #[.int .i64 ax, .int .i64 ay] 23) (.cells #[.int .i64 bx, .int .i64 by'] 23) (.cells #[.int .i64 cx, .int .i64 cy] 23) (.cells #[.bool false, .slice none 0 0, .int .i64 0] 27)
  have b_k := h4_1 w (.cells #[.int .i64 ax, .int .i64 ay] 23) (.cells #[.int .i64 bx, .int .i64 by'] 23) (.cells #[.int .i64 cx, .int .i64 cy] 23) (.cells #[.bool false, .slice none 0 0, .int .i64 0] 27)
  have c_k := h4_2 w (.cells #[.int .i64 ax, .int .i64 ay] 23) (.cells #[.int .i64 bx, .int .i64 by'] 23) (.cells #[.int .i64 cx, .int .i64 cy] 23) (.cells #[.bool false, .slice none 0 0, .int .i64 0] 27)
  have r_k := h4_3 w (.cells #[.int .i64 ax, .int .i64 ay] 23) (.cells #[.int .i64 bx, .int .i64 by'] 23) (.cells #[.int .i64 cx, .int .i64 cy] 23) (.cells #[.bool false, .slice none 0 0, .int .i64 0] 27)
  go_enter Tryz.func5, Tryz.ntmps5
  go_wp2_with fail
  generalize (((w.alloc (.cells #[.int .i64 ax, .int .i64 ay] 23)).alloc (.cells #[.int .i64 bx, .int .i64 by'] 23)).alloc (.cells #[.int .i64 cx, .int .i64 cy] 23)).alloc (.cells #[.bool false, .slice none 0 0, .int .i64 0] 27) = x0 at hb0 a_k b_k c_k r_k ⊢
  refine (CP.out _).mono ?_
  rintro _ y1 ⟨rfl, hw1⟩
  have a_k := (hw1.block _ (Array.getElem?_eq_some_iff.1 a_k).1).trans a_k
  have b_k := (hw1.block _ (Array.getElem?_eq_some_iff.1 b_k).1).trans b_k
  have c_k := (hw1.block _ (Array.getElem?_eq_some_iff.1 c_k).1).trans c_k
  have r_k := (hw1.block _ (Array.getElem?_eq_some_iff.1 r_k).1).trans r_k
  have hb1 := bel_trans hb0 hw1
  have H := H.keeps hb1
  have f_a0 := blkC a_k 0 rfl
  have f_a1 := blkC a_k 1 rfl
  have f_b0 := blkC b_k 0 rfl
  have f_b1 := blkC b_k 1 rfl
  have f_c0 := blkC c_k 0 rfl
  have f_c1 := blkC c_k 1 rfl
  have hs0 := (Array.getElem?_eq_some_iff.1 r_k).1
  go_wp2_with fail
  refine (CE.out _ H).mono ?_
  rintro _ y2 ⟨v, V, rfl, h2, hD, hB⟩
  obtain ⟨n_g, n_o, n_n, n_c, n_e, rfl⟩ := dans_shape h2
  have hw2 := h2.below
  have r_k := (hw2.block _ (Array.getElem?_eq_some_iff.1 r_k).1).trans r_k
  have k0 := blkC r_k 0 rfl
  have z0 := blkF r_k 0
  have k1 := blkC r_k 1 rfl
  have z1 := blkF r_k 1
  have k2 := blkC r_k 2 rfl
  have z2 := blkF r_k 2
  go_wp2
  refine bodyPost_ret (v := .tuple #[.agg #[.bool n_g, .slice n_o n_n n_c, .int .i64 n_e], .int .i64 0]) (by simp [results, Tryz.results5, go_sem, k0, k1, k2]) rfl ⟨_, V, rfl, ?_, hD, hB⟩
  exact dans_res3 (g := w.heap.size + 3) h2 hb1 (by omega) hs0 _ _ _
set_option maxRecDepth 100000 in
set_option maxHeartbeats 2000000 in
theorem oExactF_no {ax ay bx by' cx cy : Int} (rax : rng ax) (ray : rng ay) (rbx : rng bx) (rby : rng by') (rcx : rng cx) (rcy : rng cy) (hno : ((pok ax && pok ay) && (pok bx && pok by') && (pok cx && pok cy)) = false) (w : World) :
    Calls Tryz.prog 5 #[.agg #[.int .i64 ax, .int .i64 ay], .agg #[.int .i64 bx, .int .i64 by'], .agg #[.int .i64 cx, .int .i64 cy]] w fun r w' => r = .returned (.tuple #[.agg #[.bool false, .slice none 0 0, .int .i64 0], .int .i64 10]) ∧ Below w.heap.size w w' := by
  have CP : Hid (∀ W, Calls Tryz.prog 11 #[.agg #[.int .i64 ax, .int .i64 ay], .agg #[.int .i64 bx, .int .i64 by'], .agg #[.int .i64 cx, .int .i64 cy]] W fun r w' => r = .returned (.bool false) ∧ Below W.heap.size W w') := fun W => by
    have := opoints_any rax ray rbx rby rcx rcy W
    rw [hno] at this
    exact this
  clear rax ray rbx rby rcx rcy hno
  have hb0 := bel_a4 w (.cells #[.int .i64 ax, .int .i64 ay] 23) (.cells #[.int .i64 bx, .int .i64 by'] 23) (.cells #[.int .i64 cx, .int .i64 cy] 23) (.cells #[.bool false, .slice none 0 0, .int .i64 0] 27)
  have a_k := h4_0 w (.cells #[.int .i64 ax, .int .i64 ay] 23) (.cells #[.int .i64 bx, .int .i64 by'] 23) (.cells #[.int .i64 cx, .int .i64 cy] 23) (.cells #[.bool false, .slice none 0 0, .int .i64 0] 27)
  have b_k := h4_1 w (.cells #[.int .i64 ax, .int .i64 ay] 23) (.cells #[.int .i64 bx, .int .i64 by'] 23) (.cells #[.int .i64 cx, .int .i64 cy] 23) (.cells #[.bool false, .slice none 0 0, .int .i64 0] 27)
  have c_k := h4_2 w (.cells #[.int .i64 ax, .int .i64 ay] 23) (.cells #[.int .i64 bx, .int .i64 by'] 23) (.cells #[.int .i64 cx, .int .i64 cy] 23) (.cells #[.bool false, .slice none 0 0, .int .i64 0] 27)
  have r_k := h4_3 w (.cells #[.int .i64 ax, .int .i64 ay] 23) (.cells #[.int .i64 bx, .int .i64 by'] 23) (.cells #[.int .i64 cx, .int .i64 cy] 23) (.cells #[.bool false, .slice none 0 0, .int .i64 0] 27)
  go_enter Tryz.func5, Tryz.ntmps5
  go_wp2_with fail
  generalize (((w.alloc (.cells #[.int .i64 ax, .int .i64 ay] 23)).alloc (.cells #[.int .i64 bx, .int .i64 by'] 23)).alloc (.cells #[.int .i64 cx, .int .i64 cy] 23)).alloc (.cells #[.bool false, .slice none 0 0, .int .i64 0] 27) = x0 at hb0 a_k b_k c_k r_k ⊢
  refine (CP.out _).mono ?_
  rintro _ y1 ⟨rfl, hw1⟩
  have a_k := (hw1.block _ (Array.getElem?_eq_some_iff.1 a_k).1).trans a_k
  have b_k := (hw1.block _ (Array.getElem?_eq_some_iff.1 b_k).1).trans b_k
  have c_k := (hw1.block _ (Array.getElem?_eq_some_iff.1 c_k).1).trans c_k
  have r_k := (hw1.block _ (Array.getElem?_eq_some_iff.1 r_k).1).trans r_k
  have hb1 := bel_trans hb0 hw1
  have k0 := blkC r_k 0 rfl
  have z0 := blkF r_k 0
  have k1 := blkC r_k 1 rfl
  have z1 := blkF r_k 1
  have k2 := blkC r_k 2 rfl
  have z2 := blkF r_k 2
  go_wp2
  refine bodyPost_ret (v := .tuple #[.agg #[.bool false, .slice none 0 0, .int .i64 0], .int .i64 10]) (by simp [results, Tryz.results5, go_sem, k0, k1, k2]) rfl ⟨rfl, by first | exact bel_set3 hb1 (by omega) _ _ _ | exact hb1⟩
end Go.Proofs.YtelnilmjhdneoaaGreatDoor

/-
  Package plumbref3: Of, Of32, Mul, by contracts.
-/
namespace Go.Proofs.YtelnilmjhdneoaaGreatDoor
open Go Go.RowKit Go.Proofs.YtelnilmjhdneoaaGreatDoor.M
set_option linter.unusedSimpArgs false
set_option linter.unusedVariables false

set_option maxRecDepth 100000 in
set_option maxHeartbeats 1000000 in
theorem rof_any (b : Int) (w : World) (hb : rng b) (hp : pok b = true) :
    Calls Tryz.prog 25 #[.int .i64 b] w fun r w' => ∃ v, r = .returned v ∧ DAns w w' (sg (pneg b) (pmag b) * pw (pexp b)) v := by
  obtain ⟨i0, i1, i2, i3⟩ := pmag_in hp
  have hF := fun W => rfrom_any (pmag b) W i0 (by omega)
  have hN := fun W ao n cap d (h : Row W ao n cap d) (hd : Dig d n) (hn : n ≤ 40000) => rnorm_any (pneg b) ao n cap d (pexp b) W h hd hn (by omega) (by omega)
  have hP := fun W => refParts b W hb
  generalize pneg b = ng at *
  generalize pexp b = ex at *
  generalize pmag b = mg at *
  rw [hp] at hP
  go_enter Tryz.func25, Tryz.ntmps25
  go_wp2_with fail
  refine (hP _).mono ?_
  rintro r w1 ⟨rfl, rfl⟩
  go_wp2_with fail
  refine (hF _).mono ?_
  rintro r w2 ⟨v, rfl, hA⟩
  obtain ⟨so, sn, sc, d, rfl, hR, hNr, hv⟩ := hA.num
  have hsn : sn ≤ 100 := hA.num.len (k := 100) (by have := P_le (show 3 ≤ 100 by omega); have : P 3 = 1237940039285380274899124224 := rfl; omega)
  have hbw := bel_trans (bel_alloc w _) hA.below
  go_wp2_with fail
  refine (hN _ _ _ _ _ hR hNr.1 (by omega)).mono ?_
  rw [hv]
  rintro r w3 ⟨v, rfl, hD⟩
  obtain ⟨ng', s', m', e', rfl, hyy, hA2⟩ := id hD
  obtain ⟨so', sn', sc', rfl⟩ := hA2.num.shape
  have q0 := ((bel_trans hA.below hD.below).block w.heap.size (by rw [size1]; omega)).trans (heap_a1 _ _)
  have x0 := blkC q0 0 rfl
  have x1 := blkC q0 1 rfl
  have x2 := blkC q0 2 rfl
  have z0 := blkF q0 0
  have z1 := blkF q0 1
  have z2 := blkF q0 2
  go_wp2
  refine bodyPost_ret (v := .agg #[.bool ng', .slice so' sn' sc', .int .i64 e']) (by simp [results, Tryz.results25, go_sem, x0, x1, x2]) rfl ⟨_, rfl, ?_⟩
  exact dans_res3 (g := w.heap.size) hD hbw (Nat.le_refl _) (Nat.lt_of_lt_of_le (by rw [size1]; omega) hA.below.size) _ _ _
end Go.Proofs.YtelnilmjhdneoaaGreatDoor

/-
  Package plumbref3: Exact, Minus, Times, by their contracts.
-/
namespace Go.Proofs.YtelnilmjhdneoaaGreatDoor
open Go Go.RowKit Go.Proofs.YtelnilmjhdneoaaGreatDoor.M
set_option linter.unusedSimpArgs false
set_option linter.unusedVariables false

set_option maxRecDepth 100000 in
theorem r3exact_any (b : Int) (w : World) (hb : rng b) (hp : pok b = true) :
    Calls Tryz.prog 14 #[.int .i64 b] w fun r w' => ∃ v, r = .returned v ∧ DAns w w' (patV b) v := by
  have r_k := heap_a1 w (.cells #[.bool false, .slice none 0 0, .int .i64 0] 27)
  have hb0 := bel_alloc w (.cells #[.bool false, .slice none 0 0, .int .i64 0] 27)
  have CO : Hid (∀ W, Calls Tryz.prog 25 #[.int .i64 b] W fun r w' => ∃ v, r = .returned v ∧ DAns W w' (patV b) v) := fun W => rof_any b W hb hp
  go_enter Tryz.func14, Tryz.ntmps14
  go_wp2_with fail
  generalize w.alloc (.cells #[.bool false, .slice none 0 0, .int .i64 0] 27) = x0 at r_k hb0 ⊢
  have hs0 := (Array.getElem?_eq_some_iff.1 r_k).1
  refine (CO.out _).mono ?_
  rintro _ y1 ⟨v, rfl, h1⟩
  obtain ⟨n_g, n_o, n_n, n_c, n_e, rfl⟩ := dans_shape h1
  have hw := h1.below
  have r_k := (hw.block _ (Array.getElem?_eq_some_iff.1 r_k).1).trans r_k
  have k0 := blkC r_k 0 rfl
  have k1 := blkC r_k 1 rfl
  have k2 := blkC r_k 2 rfl
  have z0 := blkF r_k 0
  have z1 := blkF r_k 1
  have z2 := blkF r_k 2
  go_wp2
  refine bodyPost_ret (v := .agg #[.bool n_g, .slice n_o n_n n_c, .int .i64 n_e]) (by simp [results, Tryz.results14, go_sem, k0, k1, k2]) rfl ⟨_, rfl, ?_⟩
  exact dans_res3 (g := w.heap.size) h1 hb0 (Nat.le_refl _) hs0 _ _ _
theorem dan_opp {B : Nat} {w : World} {y : NumR} (h : DAn B w y.V y.v) (ok : okR y = true) : DAn B w (-y.V) y.opp.v := by
  obtain ⟨m, h1, h2⟩ := DAn.parts h
  obtain ⟨e1, e2⟩ := opp_V ok
  rw [e1] at e2
  obtain ⟨_, rfl, _⟩ := h1.unique (okR_dy ok).1
  exact ⟨_, _, _, _, rfl, e2, h2⟩
theorem DAn.shape {B : Nat} {w : World} {V : Int} {v : Value} (h : DAn B w V v) : ∃ ng so sn sc e, v = .agg #[.bool ng, .slice so sn sc, .int .i64 e] := h.three
set_option maxRecDepth 100000 in
theorem r3minus_any {B : Nat} {w : World} {x y : Value} {A C : Int} {K : Nat} (hx : DAn B w A x) (hy : DAn B w C y) (hB : B ≤ w.heap.size) (bA : Bd K A) (bC : Bd K C) (hK : K ≤ 28000) :
    Calls Tryz.prog 15 #[x, y] w fun r w' => ∃ v, r = .returned v ∧ DAn B w' (A - C) v ∧ Below w.heap.size w w' := by
  have CS : ∀ W, Below w.heap.size w W → Calls Tryz.prog 26 #[x, y] W fun r w' => ∃ v, r = .returned v ∧ DAn B w' (A - C) v ∧ Below W.heap.size W w' := fun W hW => by
    have hx' := hx.keeps hW
    have hy' := hy.keeps hW
    obtain ⟨x, rfl, hR, ok, rfl⟩ := hx'.num.open (bA.ok (by omega))
    obtain ⟨y, rfl, hR', ok', rfl⟩ := hy'.num.open (bC.ok (by omega))
    refine (rsub3_any x y W hR hR' ok ok' (K := K) (by omega) bA bC).mono ?_
    rintro r w' ⟨v, rfl, h⟩
    refine ⟨v, rfl, ?_, h.1⟩
    rw [Int.sub_eq_add_neg]
    rcases h.2 with h1 | ⟨h1, rfl⟩ | ⟨h1, rfl⟩
    · exact h1.dan.lower (Nat.le_trans hB hW.size)
    · rw [h1, Int.zero_add]; exact (dan_opp hy' ok').keeps h.1
    · rw [h1, Int.add_zero]; exact hx'.keeps h.1
  obtain ⟨p_g, p_o, p_n, p_c, p_e, rfl⟩ := hx.shape
  obtain ⟨q_g, q_o, q_n, q_c, q_e, rfl⟩ := hy.shape
  clear hx hy bA bC
  have hb0 := bel_a3 w (.cells #[.bool p_g, .slice p_o p_n p_c, .int .i64 p_e] 27) (.cells #[.bool q_g, .slice q_o q_n q_c, .int .i64 q_e] 27) (.cells #[.bool false, .slice none 0 0, .int .i64 0] 27)
  have r_k := h3_2 w (.cells #[.bool p_g, .slice p_o p_n p_c, .int .i64 p_e] 27) (.cells #[.bool q_g, .slice q_o q_n q_c, .int .i64 q_e] 27) (.cells #[.bool false, .slice none 0 0, .int .i64 0] 27)
  go_enter Tryz.func15, Tryz.ntmps15
  go_wp2_with fail
  generalize ((w.alloc (.cells #[.bool p_g, .slice p_o p_n p_c, .int .i64 p_e] 27)).alloc (.cells #[.bool q_g, .slice q_o q_n q_c, .int .i64 q_e] 27)).alloc (.cells #[.bool false, .slice none 0 0, .int .i64 0] 27) = x0 at r_k hb0 ⊢
  refine (CS _ hb0).mono ?_
  rintro _ y1 ⟨v, rfl, h1, hw⟩
  obtain ⟨n_g, n_o, n_n, n_c, n_e, rfl⟩ := h1.shape
  have r_k := (hw.block _ (Array.getElem?_eq_some_iff.1 r_k).1).trans r_k
  have k0 := blkC r_k 0 rfl
  have k1 := blkC r_k 1 rfl
  have k2 := blkC r_k 2 rfl
  have z0 := blkF r_k 0
  have z1 := blkF r_k 1
  have z2 := blkF r_k 2
  go_wp2
  refine bodyPost_ret (v := .agg #[.bool n_g, .slice n_o n_n n_c, .int .i64 n_e]) (by simp [results, Tryz.results15, go_sem, k0, k1, k2]) rfl ⟨_, rfl, dan_res3 h1 r_k _ _ _, bel_set3 (bel_trans hb0 hw) (by omega) _ _ _⟩
set_option maxRecDepth 100000 in
theorem r3times_any {w : World} {x y : Value} {A C : Int} {K : Nat} (hx : DNum w x A) (hy : DNum w y C) (bA : Bd K A) (bC : Bd K C) (hK : K ≤ 14000) :
    Calls Tryz.prog 16 #[x, y] w fun r w' => ∃ v V, r = .returned v ∧ DAns w w' V v ∧ V * 2 ^ 4194304 = A * C ∧ Bd (2 * K) V := by
  have CS : ∀ W, Below w.heap.size w W → Calls Tryz.prog 27 #[x, y] W fun r w' => ∃ v V, r = .returned v ∧ DAns W w' V v ∧ V * 2 ^ 4194304 = A * C ∧ Bd (2 * K) V := fun W hW => by
    have hx' := hx.keeps hW
    have hy' := hy.keeps hW
    obtain ⟨x, rfl, hR, ok, rfl⟩ := hx'.open (bA.ok (by omega))
    obtain ⟨y, rfl, hR', ok', rfl⟩ := hy'.open (bC.ok (by omega))
    refine (rmul3_any x y W hR hR' (okR_sane ok) (okR_sane ok')).mono ?_
    rintro r w' ⟨v, rfl, h⟩
    have hC := mulV_eq (x := x) (y := y) (by have := (okR_sane ok).2.2.1; omega) (by have := (okR_sane ok').2.2.1; omega)
    exact ⟨v, _, rfl, h, hC, bA.mul bC hC (by omega)⟩
  obtain ⟨p, rfl, _, _, _⟩ := hx.open (bA.ok (by omega))
  obtain ⟨q, rfl, _, _, _⟩ := hy.open (bC.ok (by omega))
  obtain ⟨p_g, p_o, p_n, p_c, p_d, p_e⟩ := p
  obtain ⟨q_g, q_o, q_n, q_c, q_d, q_e⟩ := q
  unfold NumR.v at *
  simp only at *
  clear hx hy bA bC
  have hb0 := bel_a3 w (.cells #[.bool p_g, .slice p_o p_n p_c, .int .i64 p_e] 27) (.cells #[.bool q_g, .slice q_o q_n q_c, .int .i64 q_e] 27) (.cells #[.bool false, .slice none 0 0, .int .i64 0] 27)
  have r_k := h3_2 w (.cells #[.bool p_g, .slice p_o p_n p_c, .int .i64 p_e] 27) (.cells #[.bool q_g, .slice q_o q_n q_c, .int .i64 q_e] 27) (.cells #[.bool false, .slice none 0 0, .int .i64 0] 27)
  go_enter Tryz.func16, Tryz.ntmps16
  go_wp2_with fail
  generalize ((w.alloc (.cells #[.bool p_g, .slice p_o p_n p_c, .int .i64 p_e] 27)).alloc (.cells #[.bool q_g, .slice q_o q_n q_c, .int .i64 q_e] 27)).alloc (.cells #[.bool false, .slice none 0 0, .int .i64 0] 27) = x0 at r_k hb0 ⊢
  have hs0 := (Array.getElem?_eq_some_iff.1 r_k).1
  refine (CS _ hb0).mono ?_
  rintro _ y1 ⟨v, V, rfl, h1, hE, hBd⟩
  obtain ⟨n_g, n_o, n_n, n_c, n_e, rfl⟩ := dans_shape h1
  have hw := h1.below
  have r_k := (hw.block _ (Array.getElem?_eq_some_iff.1 r_k).1).trans r_k
  have k0 := blkC r_k 0 rfl
  have k1 := blkC r_k 1 rfl
  have k2 := blkC r_k 2 rfl
  have z0 := blkF r_k 0
  have z1 := blkF r_k 1
  have z2 := blkF r_k 2
  go_wp2
  refine bodyPost_ret (v := .agg #[.bool n_g, .slice n_o n_n n_c, .int .i64 n_e]) (by simp [results, Tryz.results16, go_sem, k0, k1, k2]) rfl ⟨_, V, rfl, ?_, hE, hBd⟩
  exact dans_res3 (g := w.heap.size + 2) h1 hb0 (by omega) hs0 _ _ _
end Go.Proofs.YtelnilmjhdneoaaGreatDoor
