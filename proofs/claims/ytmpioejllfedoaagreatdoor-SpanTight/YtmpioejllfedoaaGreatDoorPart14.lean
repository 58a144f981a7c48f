/-
  Parts of the proof, one behind another.
-/
import Derived.Test.YtmpioejllfedoaaGreatDoorPart13
import Derived.Test.YtmpioejllfedoaaGreatDoorPart12
import Derived.Test.YtmpioejllfedoaaGreatDoorPart9
import Derived.Test.YtmpioejllfedoaaGreatDoorPart10
import Derived.Laws.Externs
import Derived.Test.YtmpioejllfedoaaGreatDoorPart7
/-
  plumblaw8's around of what is no finite float, by its contract.
-/
namespace Go.Proofs.YtmpioejllfedoaaGreatDoor
open Go Go.RowKit Go.Proofs.YtmpioejllfedoaaGreatDoor.M
set_option linter.unusedSimpArgs false
set_option linter.unusedVariables false

set_option maxRecDepth 100000 in
set_option maxHeartbeats 1000000 in
theorem around_no {b : Int} (hp : pok b = false) (w : World) (H : Hold4 w) :
    Calls Tryz.prog 5 #[.int .i64 b, .int .i64 0, .int .i64 0] w fun r w' => r = .returned (.tuple #[.agg #[.int .i64 b, .int .i64 b], .agg #[.bool false, .slice none 0 0, .int .i64 0], .bool false]) ∧ Below w.heap.size w w' := by
  have CO : Hid (∀ W, Hold4 W → Calls Tryz.prog 21 #[.int .i64 b] W fun r w' => r = .returned (.tuple #[.agg #[.bool false, .slice none 0 0, .int .i64 0], .int .i64 10]) ∧ Below W.heap.size W w') := fun W h => of_no hp h
  have ha : bits BinOp.and IntKind.i64 0 7 = 0 := by decide +kernel
  have hb2 := bel_alloc2 w (.cells #[.int .i64 0, .int .i64 0] 23) (.cells #[.bool false, .slice none 0 0, .int .i64 0] 26)
  have q0 := heap_a2 w (.cells #[.int .i64 0, .int .i64 0] 23) (.cells #[.bool false, .slice none 0 0, .int .i64 0] 26)
  have q1 := heap_b2 w (.cells #[.int .i64 0, .int .i64 0] 23) (.cells #[.bool false, .slice none 0 0, .int .i64 0] 26)
  go_enter Tryz.func5, Tryz.ntmps5
  go_wp2_with fail
  generalize (w.alloc (.cells #[.int .i64 0, .int .i64 0] 23)).alloc (.cells #[.bool false, .slice none 0 0, .int .i64 0] 26) = x0 at hb2 q0 q1 ⊢
  refine (CO.out _ (H.keeps hb2)).mono ?_
  rintro _ w1 ⟨rfl, hbD⟩
  have x_k := heap_a1 w1 (.cells #[.bool false, .slice none 0 0, .int .i64 0] 26)
  have hc1 := al1 hbD (.cells #[.bool false, .slice none 0 0, .int .i64 0] 26)
  go_wp2_with fail
  generalize w1.alloc (.cells #[.bool false, .slice none 0 0, .int .i64 0] 26) = x1 at x_k hc1 ⊢
  go_loopw [13, 11] (fun iv lv wr => iv = .int .i64 0 ∧ lv = .int .i64 b ∧ wr = x1) (fun _ _ _ => 0)
  case atStart => exact ⟨rfl, rfl, rfl⟩
  case round =>
    obtain ⟨rfl, rfl, rfl⟩ := hrel
    go_wp2_with fail
    go_loopw [14, 12] (fun iv lv wq => iv = .int .i64 0 ∧ lv = .int .i64 b ∧ wq = wr) (fun _ _ _ => 0)
    case atStart => exact ⟨rfl, rfl, rfl⟩
    case round =>
      obtain ⟨rfl, rfl, hwq⟩ := hrel
      subst hwq
      have l0 := (Array.getElem?_eq_some_iff.1 q0).1
      have l1 := (Array.getElem?_eq_some_iff.1 q1).1
      have A0 := blk_up hc1 q0
      have A1 := blk_up hc1 q1
      have x0' := blkC x_k 0 rfl
      have x1' := blkC x_k 1 rfl
      have x2' := blkC x_k 2 rfl
      have a0 := blkC A0 0 rfl
      have a1 := blkC A0 1 rfl
      have a2 := blkF A0 0
      have a3 := blkF A0 1
      have b0 := blkC A1 0 rfl
      have b1 := blkC A1 1 rfl
      have b2 := blkC A1 2 rfl
      have b3 := blkF A1 0
      have b4 := blkF A1 1
      have b5 := blkF A1 2
      have hn1 : w.heap.size ≠ w1.heap.size := by have := hbD.size; omega
      have hn2 : w.heap.size + 1 ≠ w1.heap.size := by have := hbD.size; omega
      have k0 : wr.cell? ⟨w1.heap.size, 0, none⟩ = some (.bool false) ∧ wr.cell? ⟨w1.heap.size, 1, none⟩ = some (.slice none 0 0) ∧ wr.cell? ⟨w1.heap.size, 2, none⟩ = some (.int .i64 0) := ⟨x0', x1', x2'⟩
      have K0 : wr.drew.cell? ⟨w1.heap.size, 0, none⟩ = some (.bool false) ∧ wr.drew.cell? ⟨w1.heap.size, 1, none⟩ = some (.slice none 0 0) ∧ wr.drew.cell? ⟨w1.heap.size, 2, none⟩ = some (.int .i64 0) := k0
      have k1 : ((wr.setCell ⟨w.heap.size, 0, none⟩ (.int .i64 b)).setCell ⟨w.heap.size, 1, none⟩ (.int .i64 b)).cell? ⟨w1.heap.size, 0, none⟩ = some (.bool false) ∧ ((wr.setCell ⟨w.heap.size, 0, none⟩ (.int .i64 b)).setCell ⟨w.heap.size, 1, none⟩ (.int .i64 b)).cell? ⟨w1.heap.size, 1, none⟩ = some (.slice none 0 0) ∧ ((wr.setCell ⟨w.heap.size, 0, none⟩ (.int .i64 b)).setCell ⟨w.heap.size, 1, none⟩ (.int .i64 b)).cell? ⟨w1.heap.size, 2, none⟩ = some (.int .i64 0) := keep3R k0 (((Wr.refl w.heap.size wr).setCell 0 _).setCell 1 _) (Ne.symm hn1)
      have K1 : ((wr.setCell ⟨w.heap.size, 0, none⟩ (.int .i64 b)).setCell ⟨w.heap.size, 1, none⟩ (.int .i64 b)).drew.cell? ⟨w1.heap.size, 0, none⟩ = some (.bool false) ∧ ((wr.setCell ⟨w.heap.size, 0, none⟩ (.int .i64 b)).setCell ⟨w.heap.size, 1, none⟩ (.int .i64 b)).drew.cell? ⟨w1.heap.size, 1, none⟩ = some (.slice none 0 0) ∧ ((wr.setCell ⟨w.heap.size, 0, none⟩ (.int .i64 b)).setCell ⟨w.heap.size, 1, none⟩ (.int .i64 b)).drew.cell? ⟨w1.heap.size, 2, none⟩ = some (.int .i64 0) := ⟨(cell_dr _ _).trans k1.1, (cell_dr _ _).trans k1.2.1, (cell_dr _ _).trans k1.2.2⟩
      have k2 : (((((wr.setCell ⟨w.heap.size, 0, none⟩ (.int .i64 b)).setCell ⟨w.heap.size, 1, none⟩ (.int .i64 b)).setCell ⟨w.heap.size + 1, 0, none⟩ (.bool false)).setCell ⟨w.heap.size + 1, 1, none⟩ (.slice none 0 0)).setCell ⟨w.heap.size + 1, 2, none⟩ (.int .i64 0)).cell? ⟨w1.heap.size, 0, none⟩ = some (.bool false) ∧ (((((wr.setCell ⟨w.heap.size, 0, none⟩ (.int .i64 b)).setCell ⟨w.heap.size, 1, none⟩ (.int .i64 b)).setCell ⟨w.heap.size + 1, 0, none⟩ (.bool false)).setCell ⟨w.heap.size + 1, 1, none⟩ (.slice none 0 0)).setCell ⟨w.heap.size + 1, 2, none⟩ (.int .i64 0)).cell? ⟨w1.heap.size, 1, none⟩ = some (.slice none 0 0) ∧ (((((wr.setCell ⟨w.heap.size, 0, none⟩ (.int .i64 b)).setCell ⟨w.heap.size, 1, none⟩ (.int .i64 b)).setCell ⟨w.heap.size + 1, 0, none⟩ (.bool false)).setCell ⟨w.heap.size + 1, 1, none⟩ (.slice none 0 0)).setCell ⟨w.heap.size + 1, 2, none⟩ (.int .i64 0)).cell? ⟨w1.heap.size, 2, none⟩ = some (.int .i64 0) := keep3R k1 (wr3 _ _ _ _ _ _ _ _) (Ne.symm hn2)
      have K2 : (((((wr.setCell ⟨w.heap.size, 0, none⟩ (.int .i64 b)).setCell ⟨w.heap.size, 1, none⟩ (.int .i64 b)).setCell ⟨w.heap.size + 1, 0, none⟩ (.bool false)).setCell ⟨w.heap.size + 1, 1, none⟩ (.slice none 0 0)).setCell ⟨w.heap.size + 1, 2, none⟩ (.int .i64 0)).drew.cell? ⟨w1.heap.size, 0, none⟩ = some (.bool false) ∧ (((((wr.setCell ⟨w.heap.size, 0, none⟩ (.int .i64 b)).setCell ⟨w.heap.size, 1, none⟩ (.int .i64 b)).setCell ⟨w.heap.size + 1, 0, none⟩ (.bool false)).setCell ⟨w.heap.size + 1, 1, none⟩ (.slice none 0 0)).setCell ⟨w.heap.size + 1, 2, none⟩ (.int .i64 0)).drew.cell? ⟨w1.heap.size, 1, none⟩ = some (.slice none 0 0) ∧ (((((wr.setCell ⟨w.heap.size, 0, none⟩ (.int .i64 b)).setCell ⟨w.heap.size, 1, none⟩ (.int .i64 b)).setCell ⟨w.heap.size + 1, 0, none⟩ (.bool false)).setCell ⟨w.heap.size + 1, 1, none⟩ (.slice none 0 0)).setCell ⟨w.heap.size + 1, 2, none⟩ (.int .i64 0)).drew.cell? ⟨w1.heap.size, 2, none⟩ = some (.int .i64 0) := ⟨(cell_dr _ _).trans k2.1, (cell_dr _ _).trans k2.2.1, (cell_dr _ _).trans k2.2.2⟩
      go_wp2_with fail
      go_region_held3 (fun W => W.cell? ⟨w1.heap.size, 0, none⟩ = some (.bool false) ∧ W.cell? ⟨w1.heap.size, 1, none⟩ = some (.slice none 0 0) ∧ W.cell? ⟨w1.heap.size, 2, none⟩ = some (.int .i64 0))
        (first | with_reducible assumption | with_reducible exact K0 | with_reducible exact K1 | with_reducible exact K2 | fail)
        (fail)
      have S1 := q_heap_set (q_heap_set A0 0 (.int .i64 b)) 1 (.int .i64 b)
      have hx10 : w.heap.size ≠ w.heap.size + 1 := by omega
      have S2 : (((((wr.setCell ⟨w.heap.size, 0, none⟩ (.int .i64 b)).setCell ⟨w.heap.size, 1, none⟩ (.int .i64 b)).setCell ⟨w.heap.size + 1, 0, none⟩ (.bool false)).setCell ⟨w.heap.size + 1, 1, none⟩ (.slice none 0 0)).setCell ⟨w.heap.size + 1, 2, none⟩ (.int .i64 0)).heap[w.heap.size]? = some (.cells #[.int .i64 b, .int .i64 b] 23 (0, 0)) := by
        rw [heap_setCell_other _ ⟨w.heap.size + 1, _, none⟩ w.heap.size _ hx10, heap_setCell_other _ ⟨w.heap.size + 1, _, none⟩ w.heap.size _ hx10, heap_setCell_other _ ⟨w.heap.size + 1, _, none⟩ w.heap.size _ hx10]
        exact S1
      have T0 : ((wr.setCell ⟨w.heap.size, 0, none⟩ (.int .i64 b)).setCell ⟨w.heap.size, 1, none⟩ (.int .i64 b)).heap[w.heap.size + 1]? = some (.cells #[.bool false, .slice none 0 0, .int .i64 0] 26 (0, 0)) := by
        rw [heap_setCell_other _ ⟨w.heap.size, _, none⟩ (w.heap.size + 1) _ (Ne.symm hx10), heap_setCell_other _ ⟨w.heap.size, _, none⟩ (w.heap.size + 1) _ (Ne.symm hx10)]
        exact A1
      have T3 := q_heap_set (q_heap_set (q_heap_set T0 0 (.bool false)) 1 (.slice none 0 0)) 2 (.int .i64 0)
      have hB := bel_trans hb2 hc1
      have hBe := bel_set3' (o0 := 0) (o1 := 1) (o2 := 2) ((hB.setCell (p := ⟨w.heap.size, 0, none⟩) (Nat.le_refl _) (.int .i64 b)).setCell (p := ⟨w.heap.size, 1, none⟩) (Nat.le_refl _) (.int .i64 b)) (Nat.le_succ _) (.bool false) (.slice none 0 0) (.int .i64 0)
      have e0 : ((((((wr.setCell ⟨w.heap.size, 0, none⟩ (.int .i64 b)).setCell ⟨w.heap.size, 1, none⟩ (.int .i64 b)).setCell ⟨w.heap.size + 1, 0, none⟩ (.bool false)).setCell ⟨w.heap.size + 1, 1, none⟩ (.slice none 0 0)).setCell ⟨w.heap.size + 1, 2, none⟩ (.int .i64 0)).drew).cell? ⟨w.heap.size, 0, none⟩ = some (.int .i64 b) := (cell_dr _ _).trans (blkC S2 0 rfl)
      have e1 : ((((((wr.setCell ⟨w.heap.size, 0, none⟩ (.int .i64 b)).setCell ⟨w.heap.size, 1, none⟩ (.int .i64 b)).setCell ⟨w.heap.size + 1, 0, none⟩ (.bool false)).setCell ⟨w.heap.size + 1, 1, none⟩ (.slice none 0 0)).setCell ⟨w.heap.size + 1, 2, none⟩ (.int .i64 0)).drew).cell? ⟨w.heap.size, 1, none⟩ = some (.int .i64 b) := (cell_dr _ _).trans (blkC S2 1 rfl)
      have e2 : ((((((wr.setCell ⟨w.heap.size, 0, none⟩ (.int .i64 b)).setCell ⟨w.heap.size, 1, none⟩ (.int .i64 b)).setCell ⟨w.heap.size + 1, 0, none⟩ (.bool false)).setCell ⟨w.heap.size + 1, 1, none⟩ (.slice none 0 0)).setCell ⟨w.heap.size + 1, 2, none⟩ (.int .i64 0)).drew).cell? ⟨w.heap.size + 1, 0, none⟩ = some (.bool false) := (cell_dr _ _).trans (blkC T3 0 rfl)
      have e3 : ((((((wr.setCell ⟨w.heap.size, 0, none⟩ (.int .i64 b)).setCell ⟨w.heap.size, 1, none⟩ (.int .i64 b)).setCell ⟨w.heap.size + 1, 0, none⟩ (.bool false)).setCell ⟨w.heap.size + 1, 1, none⟩ (.slice none 0 0)).setCell ⟨w.heap.size + 1, 2, none⟩ (.int .i64 0)).drew).cell? ⟨w.heap.size + 1, 1, none⟩ = some (.slice none 0 0) := (cell_dr _ _).trans (blkC T3 1 rfl)
      have e4 : ((((((wr.setCell ⟨w.heap.size, 0, none⟩ (.int .i64 b)).setCell ⟨w.heap.size, 1, none⟩ (.int .i64 b)).setCell ⟨w.heap.size + 1, 0, none⟩ (.bool false)).setCell ⟨w.heap.size + 1, 1, none⟩ (.slice none 0 0)).setCell ⟨w.heap.size + 1, 2, none⟩ (.int .i64 0)).drew).cell? ⟨w.heap.size + 1, 2, none⟩ = some (.int .i64 0) := (cell_dr _ _).trans (blkC T3 2 rfl)
      have hBe' := hBe.drew
      clear S1 S2 T0 T3 hBe
      generalize (((((wr.setCell ⟨w.heap.size, 0, none⟩ (.int .i64 b)).setCell ⟨w.heap.size, 1, none⟩ (.int .i64 b)).setCell ⟨w.heap.size + 1, 0, none⟩ (.bool false)).setCell ⟨w.heap.size + 1, 1, none⟩ (.slice none 0 0)).setCell ⟨w.heap.size + 1, 2, none⟩ (.int .i64 0)).drew = Y at e0 e1 e2 e3 e4 hBe' ⊢
      go_wp2
      refine bodyPost_ret (v := .tuple #[.agg #[.int .i64 b, .int .i64 b], .agg #[.bool false, .slice none 0 0, .int .i64 0], .bool false]) (by simp [results, Tryz.results5, go_sem, e0, e1, e2, e3, e4]) rfl ⟨rfl, hBe'⟩
end Go.Proofs.YtmpioejllfedoaaGreatDoor

/-
  Package span: Around, by the least interval around a number; plumblaw8's tight.
-/
namespace Go.Proofs.YtmpioejllfedoaaGreatDoor
open Go Go.RowKit Go.Proofs.YtmpioejllfedoaaGreatDoor.M
set_option linter.unusedSimpArgs false
set_option linter.unusedVariables false

set_option maxRecDepth 100000 in
set_option maxHeartbeats 1000000 in
theorem around_V {w : World} {ng : Bool} {so : Option Addr} {sn sc : Nat} {e V : Int} (h : DNum w (.agg #[.bool ng, .slice so sn sc, .int .i64 e]) V) (ok : Dok V) (H : Hold4 w) :
    ∀ W, Below w.heap.size w W → Calls Tryz.prog 47 #[.agg #[.bool ng, .slice so sn sc, .int .i64 e]] W fun r w' => r = .returned (.tuple #[spn (cLo V) (cHi V), .int .i64 0]) ∧ Below W.heap.size W w' := by
  obtain ⟨x, h1, rfl, rfl, h4⟩ := to_four h ok H
  obtain ⟨r1, r2⟩ := around_c (to_rd h1)
  rw [← r1, ← r2]
  clear r1 r2
  intro W hb
  · have C1 : Hid (∀ W', Below W.heap.size W W' → Calls Tryz.prog 70 #[.agg #[.bool x.ng, .slice so sn sc, .int .i64 e], .int .i64 1] W' fun e w' => e = .returned (.tuple #[.int .i64 (toR 1 x).1, .bool (toR 1 x).2, .int .i64 0]) ∧ Below W'.heap.size W' w') := fun W' hb' => h4 1 W' (by omega) (bel_trans hb hb')
    have C2 : Hid (∀ W', Below W.heap.size W W' → Calls Tryz.prog 70 #[.agg #[.bool x.ng, .slice so sn sc, .int .i64 e], .int .i64 2] W' fun e w' => e = .returned (.tuple #[.int .i64 (toR 2 x).1, .bool (toR 2 x).2, .int .i64 0]) ∧ Below W'.heap.size W' w') := fun W' hb' => h4 2 W' (by omega) (bel_trans hb hb')
    unfold spn
    generalize (toR 1 x).1 = X at *
    generalize (toR 2 x).1 = Y at *
    generalize (toR 1 x).2 = o1 at *
    generalize (toR 2 x).2 = o2 at *
    generalize x.ng = ng at *
    clear h4 h1 h
    have hb2 := bel_alloc2 W (.cells #[.bool ng, .slice so sn sc, .int .i64 e] 26) (.cells #[.int .i64 0, .int .i64 0] 23)
    have p0 := heap_a2 W (.cells #[.bool ng, .slice so sn sc, .int .i64 e] 26) (.cells #[.int .i64 0, .int .i64 0] 23)
    have p1 := heap_b2 W (.cells #[.bool ng, .slice so sn sc, .int .i64 e] 26) (.cells #[.int .i64 0, .int .i64 0] 23)
    go_enter Tryz.func47, Tryz.ntmps47
    go_wp2_with fail
    generalize (W.alloc (.cells #[.bool ng, .slice so sn sc, .int .i64 e] 26)).alloc (.cells #[.int .i64 0, .int .i64 0] 23) = wx at *
    refine (C1.out _ hb2).mono ?_
    rintro _ w1 ⟨rfl, hb3⟩
    have p01 := (hb3.block _ (Array.getElem?_eq_some_iff.1 p0).1).trans p0
    have p11 := (hb3.block _ (Array.getElem?_eq_some_iff.1 p1).1).trans p1
    have c0 := blkC p01 0 rfl
    have c1 := blkC p01 1 rfl
    have c2 := blkC p01 2 rfl
    have hbw := bel_trans hb2 hb3
    go_wp2_with fail
    refine (C2.out _ hbw).mono ?_
    rintro _ w2 ⟨rfl, hb4⟩
    have d2 := (hb4.block _ (Array.getElem?_eq_some_iff.1 p11).1).trans p11
    have d3 := q_heap_set d2 0 (.int .i64 X)
    have d4 := q_heap_set d3 1 (.int .i64 Y)
    have f0 := blkC d2 0 rfl
    have z0 := blkF d2 0
    have f1 := blkC d3 1 rfl
    have z1 := blkF d3 1
    have e0 := blkC d4 0 rfl
    have e1 := blkC d4 1 rfl
    have hbe : Below W.heap.size W ((w2.setCell ⟨W.heap.size + 1, 0, none⟩ (.int .i64 X)).setCell ⟨W.heap.size + 1, 1, none⟩ (.int .i64 Y)) := ((bel_trans hbw hb4).setCell (p := ⟨W.heap.size + 1, 0, none⟩) (Nat.le_succ _) _).setCell (p := ⟨W.heap.size + 1, 1, none⟩) (Nat.le_succ _) _
    clear p0 p1 p01 p11 c0 c1 c2 d2 d3 d4
    go_wp2
    refine bodyPost_ret (v := .tuple #[.agg #[.int .i64 X, .int .i64 Y], .int .i64 0]) (by simp [results, Tryz.results47, go_sem, e0, e1]) rfl ⟨rfl, hbe⟩
theorem c_rng (V : Int) : rng (cLo V) ∧ rng (cHi V) := by
  by_cases h : V = 0
  · unfold cLo cHi; rw [if_pos h, if_pos h]; exact ⟨by unfold rng; omega, by unfold rng; omega⟩
  · unfold cLo cHi; rw [if_neg h, if_neg h]
    exact ⟨(key_canon ⟨(rdP_pat 1 h).1, (rdP_pat 1 h).2⟩).2.1, (key_canon ⟨(rdP_pat 2 h).1, (rdP_pat 2 h).2⟩).2.1⟩
set_option maxRecDepth 100000 in
set_option maxHeartbeats 1000000 in
theorem tight_any {w : World} {ng : Bool} {so : Option Addr} {sn sc : Nat} {e V : Int} (h : DNum w (.agg #[.bool ng, .slice so sn sc, .int .i64 e]) V) (ok : Dok V) (H : Hold4 w) :
    Calls Tryz.prog 20 #[.agg #[.int .i64 (cLo V), .int .i64 (cHi V)], .agg #[.bool ng, .slice so sn sc, .int .i64 e]] w fun r w' => r = .returned (.bool true) ∧ Below w.heap.size w w' := by
  obtain ⟨fg, fm, fe, hy, _⟩ := id ok
  have CA : Hid (∀ W, Below w.heap.size w W → Calls Tryz.prog 47 #[.agg #[.bool ng, .slice so sn sc, .int .i64 e]] W fun r w' => r = .returned (.tuple #[.agg #[.int .i64 (cLo V), .int .i64 (cHi V)], .int .i64 0]) ∧ Below W.heap.size W w') := fun W hb => around_V h ok H W hb
  have CF : Hid (∀ W, Below w.heap.size w W → Calls Tryz.prog 48 #[.agg #[.bool ng, .slice so sn sc, .int .i64 e]] W fun r w' => ∃ B, r = .returned (.tuple #[.int .i64 B, .bool (flOk fm fe)]) ∧ (flOk fm fe = true → B = jp fg fm fe) ∧ Below W.heap.size W w') := fun W hb => by
    refine (float_D (h.keeps hb) ok (H.keeps hb).lay (H.keeps hb).tab).mono ?_
    rintro r w' ⟨g', m', e', hy', rfl, hb'⟩
    obtain ⟨rfl, rfl, rfl⟩ := hy.unique hy'
    refine ⟨_, rfl, fun q => ?_, hb'⟩
    unfold flOk at q
    simp only [Bool.and_eq_true] at q
    rw [if_pos q.1]
  have CC : Hid (∀ b W, Hold4 W → Calls Tryz.prog 49 #[.int .i64 b] W fun e w' => e = .returned (.int .i64 (canon b)) ∧ Below W.heap.size W w') := fun b W H => canon_B H
  have CN : Hid (∀ W, Hold4 W → Calls Tryz.prog 23 #[.int .i64 (cLo V)] W fun e w' => e = .returned (.int .i64 (next (cLo V))) ∧ Below W.heap.size W w') := fun W H => next_B (c_rng V).1 H
  have hY := fun q => tight_yes hy q
  have hN := fun q => tight_no hy q
  generalize cLo V = lo at *
  generalize cHi V = hi at *
  have hb2 := bel_alloc2 w (.cells #[.int .i64 lo, .int .i64 hi] 23) (.cells #[.bool ng, .slice so sn sc, .int .i64 e] 26)
  have q0 := heap_a2 w (.cells #[.int .i64 lo, .int .i64 hi] 23) (.cells #[.bool ng, .slice so sn sc, .int .i64 e] 26)
  have q1 := heap_b2 w (.cells #[.int .i64 lo, .int .i64 hi] 23) (.cells #[.bool ng, .slice so sn sc, .int .i64 e] 26)
  go_enter Tryz.func20, Tryz.ntmps20
  go_wp2_with fail
  generalize (w.alloc (.cells #[.int .i64 lo, .int .i64 hi] 23)).alloc (.cells #[.bool ng, .slice so sn sc, .int .i64 e] 26) = x0 at hb2 q0 q1 ⊢
  refine (CA.out _ hb2).mono ?_
  rintro _ w1 ⟨rfl, hb3⟩
  have c1 := bel_trans hb2 hb3
  have a_k := heap_a1 w1 (.cells #[.int .i64 lo, .int .i64 hi] 23)
  have s_k := heap_past (.cells #[.int .i64 lo, .int .i64 hi] 23) (blk_up hb3 q0)
  have x_k := heap_past (.cells #[.int .i64 lo, .int .i64 hi] 23) (blk_up hb3 q1)
  have c2 := al1 c1 (.cells #[.int .i64 lo, .int .i64 hi] 23)
  have j0 := blkC x_k 0 rfl
  have j1 := blkC x_k 1 rfl
  have j2 := blkC x_k 2 rfl
  go_wp2_with fail
  generalize w1.alloc (.cells #[.int .i64 lo, .int .i64 hi] 23) = x1 at a_k s_k x_k c2 j0 j1 j2 ⊢
  refine (CF.out _ c2).mono ?_
  rintro _ w2 ⟨B, rfl, hB, hb4⟩
  have c3 := bel_trans c2 hb4
  have a_k := blk_up hb4 a_k
  have s_k := blk_up hb4 s_k
  have k0 := blkC a_k 0 rfl
  have k1 := blkC a_k 1 rfl
  have k2 := blkC s_k 0 rfl
  have k3 := blkC s_k 1 rfl
  clear j0 j1 j2
  cases hf : flOk fm fe
  · rw [hf] at hN hB
    have hN := hN rfl
    go_wp2_with fail
    have KK : ∀ W, Below w2.heap.size w2 W → W.cell? ⟨w.heap.size, 0, none⟩ = some (.int .i64 lo) ∧ W.cell? ⟨w.heap.size, 1, none⟩ = some (.int .i64 hi) := fun W hb => ⟨blkC (blk_up hb s_k) 0 rfl, blkC (blk_up hb s_k) 1 rfl⟩
    have hx0 := (bel_refl w2).drew
    clear k0 k1 k2 k3
    go_region_held3 (fun W => W.cell? ⟨w.heap.size, 0, none⟩ = some (.int .i64 lo) ∧ W.cell? ⟨w.heap.size, 1, none⟩ = some (.int .i64 hi))
      (first | with_reducible assumption | with_reducible exact KK _ hx0 | with_reducible exact KK _ hq1 | with_reducible exact KK _ hq2 | fail)
      (first
        | (go_at_call 23; refine (CN.out _ (H.keeps (bel_trans c3 hx0))).mono ?_; rintro _ v1 ⟨rfl, hn1⟩; have hq1 := bel_trans hx0 hn1)
        | (go_at_call 49; refine (CC.out _ _ (H.keeps (bel_trans c3 hq1))).mono ?_; rintro _ v2 ⟨rfl, hn2⟩; have hq2 := bel_trans hq1 hn2))
    all_goals
      have hbe := bel_trans c3 hq2
      go_wp2
      go_ret
      exact ⟨b_ret_bool (by simp [hN]), hbe⟩
  · rw [hf] at hY hB
    obtain ⟨y1, y2⟩ := hY rfl
    have hB := hB rfl
    go_wp2_with fail
    have KK : ∀ W, Below w2.heap.size w2 W → W.cell? ⟨w.heap.size, 0, none⟩ = some (.int .i64 lo) ∧ W.cell? ⟨w.heap.size, 1, none⟩ = some (.int .i64 hi) := fun W hb => ⟨blkC (blk_up hb s_k) 0 rfl, blkC (blk_up hb s_k) 1 rfl⟩
    have hx0 := (bel_refl w2).drew
    clear k0 k1 k2 k3
    go_region_held3 (fun W => W.cell? ⟨w.heap.size, 0, none⟩ = some (.int .i64 lo) ∧ W.cell? ⟨w.heap.size, 1, none⟩ = some (.int .i64 hi))
      (first | with_reducible assumption | with_reducible exact KK _ hx0 | with_reducible exact KK _ hq2 | fail)
      (first
        | (go_at_call 49; refine (CC.out _ _ (H.keeps (bel_trans c3 hx0))).mono ?_; rintro _ v2 ⟨rfl, hn2⟩; have hq2 := bel_trans hx0 hn2))
    all_goals
      have hbe := bel_trans c3 hq2
      have m2 := (KK _ hq2).1
      have m3 := (KK _ hq2).2
      go_wp2
      all_goals go_ret
      all_goals exact ⟨b_ret_bool (by simp [hB, y1, y2]), hbe⟩
end Go.Proofs.YtmpioejllfedoaaGreatDoor

/-
  The model's product and sum, rounded once (math.FMA), on patterns.
-/
namespace Go.Proofs.YtmpioejllfedoaaGreatDoor
open Go Go.RowKit Go.Proofs.YtmpioejllfedoaaGreatDoor.M Ieee
set_option linter.unusedSimpArgs false
set_option linter.unusedVariables false

theorem ext_fma (x y z : Nat) : ∃ a b, Extern.MathFMA.fma #[.float .f64 x, .float .f64 y, .float .f64 z] = Option.casesOn (motive := fun _ => Sem Value) (FloatKind.f64.format.fma x y z) (do pure (.float .f64 (← choose (.nanBits .f64 a b)))) (fun r => pure (.float .f64 r)) := by
  cases h1 : Extern.MathFMA.isNaN x with
  | true => exact ⟨x, y, by
      have : Extern.MathFMA.fma #[.float .f64 x, .float .f64 y, .float .f64 z] = Option.casesOn (motive := fun _ => Sem Value) (FloatKind.f64.format.fma x y z) (match (if Extern.MathFMA.isNaN x then (x, y) else if Extern.MathFMA.isNaN y then (y, z) else (z, z)) with | (a, b) => do pure (.float .f64 (← choose (.nanBits .f64 a b)))) (fun r => pure (.float .f64 r)) := by kernel_rfl
      rw [this, h1]; rfl⟩
  | false =>
    cases h2 : Extern.MathFMA.isNaN y with
    | true => exact ⟨y, z, by
        have : Extern.MathFMA.fma #[.float .f64 x, .float .f64 y, .float .f64 z] = Option.casesOn (motive := fun _ => Sem Value) (FloatKind.f64.format.fma x y z) (match (if Extern.MathFMA.isNaN x then (x, y) else if Extern.MathFMA.isNaN y then (y, z) else (z, z)) with | (a, b) => do pure (.float .f64 (← choose (.nanBits .f64 a b)))) (fun r => pure (.float .f64 r)) := by kernel_rfl
        rw [this, h1, h2]; rfl⟩
    | false => exact ⟨z, z, by
        have : Extern.MathFMA.fma #[.float .f64 x, .float .f64 y, .float .f64 z] = Option.casesOn (motive := fun _ => Sem Value) (FloatKind.f64.format.fma x y z) (match (if Extern.MathFMA.isNaN x then (x, y) else if Extern.MathFMA.isNaN y then (y, z) else (z, z)) with | (a, b) => do pure (.float .f64 (← choose (.nanBits .f64 a b)))) (fun r => pure (.float .f64 r)) := by kernel_rfl
        rw [this, h1, h2]; rfl⟩
theorem run_ffma {p q r : Int} {x y z : Nat} (hx : FW p x) (hy : FW q y) (hz : FW r z) (w : World) :
    ∃ t w', (callFunc 83 #[.float .f64 x, .float .f64 y, .float .f64 z]).run Tryz.prog w = .ok (.value (.float .f64 t)) w' ∧ FW (ffma p q r) t ∧ (w' = w ∨ w' = w.drew) := by
  rw [run_callFunc_extern Tryz.func83 (by kernel_rfl) (by kernel_rfl) (by kernel_rfl) (e := Extern.MathFMA.fma) (by kernel_rfl)]
  obtain ⟨a, b, hab⟩ := ext_fma x y z
  rw [hab]
  rcases fma_FW hx hy hz with ⟨t, e1, e2⟩ | ⟨e1, e2⟩
  · refine ⟨t, w, ?_, e2, .inl rfl⟩
    have e1' : FloatKind.f64.format.fma x y z = some t := e1
    rw [e1']
    simp
  · have e1' : FloatKind.f64.format.fma x y z = none := e1
    rw [e1']
    refine ⟨(Question.nanBits .f64 a b).cut (w.tape w.drawn (.nanBits .f64 a b)), w.drew, ?_, ?_, .inr rfl⟩
    · simp
      exact fun hf => absurd (show false = true from hf) (by decide)
    · rw [e2]
      exact FW.nan (nan_cut a b (w.tape w.drawn (.nanBits .f64 a b)))
end Go.Proofs.YtmpioejllfedoaaGreatDoor

/-
  Package round: kind.values, by its contracts.
-/
namespace Go.Proofs.YtmpioejllfedoaaGreatDoor
open Go Go.RowKit Go.Proofs.YtmpioejllfedoaaGreatDoor.M
set_option linter.unusedSimpArgs false
set_option linter.unusedVariables false

set_option maxRecDepth 100000 in
set_option maxHeartbeats 2000000 in
theorem values_ok (F G : Nat) (oo : Option Addr) (n cap : Nat) (d V : Nat → Int) (w : World) (hR : Row w oo n cap d) (hn : n ≤ 100000)
    (hEF : ∀ (cap : Array Value) (w : World), (callFunc F cap).run Tryz.prog w = .ok (.enter F cap) w)
    (C : ∀ i, i < n → ∀ W, Below w.heap.size w W → Calls Tryz.prog F #[.int .i64 (d i)] W fun r w' => ∃ v, r = .returned (.tuple #[v, .int .i64 0]) ∧ DAns W w' (V i) v) :
    Calls Tryz.prog 118 #[.agg #[.func (.func F) #[] #[], .func (.func G) #[] #[]], .slice oo n cap] w fun x w' => ∃ g q, x = .returned (.tuple #[.slice (some ⟨g, 0, none⟩) n n, .bool true]) ∧ w.heap.size ≤ g ∧ Nums w' (some ⟨g, 0, none⟩) n n q ∧ Below w.heap.size w w' ∧ ∀ i, i < n → Nrm (q i).d (q i).n ∧ Dy (V i) (q i).ng (val (q i).d (q i).n) (q i).e := by
  have hle := hR.le
  have hma := hR.max
  have hmake := make_nums n hn
  have hst : ∀ (p : Addr) (F : Nat) (m : Mode) (w : World), (store p (.func (.func F) #[] #[]) m).run Tryz.prog w = stored Tryz.prog w p (.func (.func F) #[] #[]) m := fun p F m w => run_store _ w p _ m rfl
  have ha1 := bel_alloc w (.cells #[.func (.func F) #[] #[], .func (.func G) #[] #[]] 136)
  have q1 := heap_alloc_new w (.cells #[.func (.func F) #[] #[], .func (.func G) #[] #[]] 136)
  have k0 := blkC q1 0 rfl
  have k1 := blkC q1 1 rfl
  go_enter Tryz.func118, Tryz.ntmps118
  go_wp2_with fail
  have hb0 := bel_alloc2 w (.cells #[.func (.func F) #[] #[], .func (.func G) #[] #[]] 136) (.cells (madeCells #[.bool false, .slice none 0 0, .int .i64 0] (n * 3)) 26)
  have g1 := heap_b2 w (.cells #[.func (.func F) #[] #[], .func (.func G) #[] #[]] 136) (.cells (madeCells #[.bool false, .slice none 0 0, .int .i64 0] (n * 3)) 26)
  have g0 := heap_a2 w (.cells #[.func (.func F) #[] #[], .func (.func G) #[] #[]] 136) (.cells (madeCells #[.bool false, .slice none 0 0, .int .i64 0] (n * 3)) 26)
  have HB0 : Hid (BlkN ((w.alloc (.cells #[.func (.func F) #[] #[], .func (.func G) #[] #[]] 136)).alloc (.cells (madeCells #[.bool false, .slice none 0 0, .int .i64 0] (n * 3)) 26)) (w.heap.size + 1) n 0 (fun _ => ⟨false, none, 0, 0, fun _ => 0, 0⟩)) := ⟨_, g1, by rw [size_madeCells], fun i hi => by omega⟩
  clear g1 hmake q1 k0 k1 ha1
  generalize (w.alloc (.cells #[.func (.func F) #[] #[], .func (.func G) #[] #[]] 136)).alloc (.cells (madeCells #[.bool false, .slice none 0 0, .int .i64 0] (n * 3)) 26) = wx at hb0 HB0 g0 ⊢
  go_loopw [16] (fun iv wr => ∃ (k : Nat) (q : Nat → NumR), k ≤ n ∧ iv = .int .i64 k ∧ Hid (BlkN wr (w.heap.size + 1) n k q) ∧ Hid (∀ i, i < k → Nrm (q i).d (q i).n ∧ Dy (V i) (q i).ng (val (q i).d (q i).n) (q i).e) ∧ Hid (∀ i b' off, i < k → (q i).ao = some ⟨b', off, none⟩ → 0 < (q i).n → w.heap.size + 1 < b') ∧ Hid (wr.heap[w.heap.size]? = some (.cells #[.func (.func F) #[] #[], .func (.func G) #[] #[]] 136 (0, 0))) ∧ Below w.heap.size w wr) (fun iv _ => n - (intOf iv).toNat)
  case atStart => exact ⟨0, _, Nat.zero_le _, rfl, HB0, fun i hi => by omega, fun i b' off hi => by omega, g0, hb0⟩
  case round =>
    obtain ⟨k, q, hk, rfl, HQ, HF, HG, HK, hbw⟩ := hrel
    clear HB0 hb0 g0
    by_cases hlt : k < n
    · obtain ⟨ba, oa, rfl, hba, hca⟩ := hR.spot (by omega)
      have c0 := (hbw.cell (p := ⟨ba, oa + k, none⟩) hba).trans (hca k hlt)
      have CF := C k hlt
      have kf := blkC HK.out 0 rfl
      obtain ⟨cur, hcur, hsz, hcells⟩ := HQ.out
      have e0 : k * 3 < cur.size := by omega
      have e1 : k * 3 + 1 < cur.size := by omega
      have e2 : k * 3 + 2 < cur.size := by omega
      obtain ⟨v0, hv0⟩ : ∃ v, cur[k * 3]? = some v := ⟨_, Array.getElem?_eq_getElem e0⟩
      obtain ⟨v1, hv1⟩ : ∃ v, cur[k * 3 + 1]? = some v := ⟨_, Array.getElem?_eq_getElem e1⟩
      obtain ⟨v2, hv2⟩ : ∃ v, cur[k * 3 + 2]? = some v := ⟨_, Array.getElem?_eq_getElem e2⟩
      have HV : Hid (cur[k * 3]? = some v0 ∧ cur[k * 3 + 1]? = some v1 ∧ cur[k * 3 + 2]? = some v2) := ⟨hv0, hv1, hv2⟩
      have HCUR : Hid (wr.heap[w.heap.size + 1]? = some (.cells cur 26 (0, 0))) := hcur
      have hgs : w.heap.size + 1 < wr.heap.size := (Array.getElem?_eq_some_iff.1 hcur).1
      clear hcells hv0 hv1 hv2 hcur hsz e0 e1 e2 hca C
      have i0 : (0 : Int) ≤ (k : Int) := by omega
      have i1 : (k : Int) < (n : Int) := by omega
      generalize d k = x at *
      go_wp2_with fail
      refine (CF _ hbw).mono ?_
      rintro _ w3 ⟨v, rfl, hD⟩
      have hb3 := hD.below
      have HD : Hid (DAns wr w3 (V k) v) := hD
      obtain ⟨g, s0, m0, e, rfl, _, hA0⟩ := id hD
      obtain ⟨so, sn, sc, rfl⟩ := hA0.num.shape
      clear hD CF hA0
      have hb4 := bel_trans hb3 (bel_alloc w3 (.cells #[.bool g, .slice so sn sc, .int .i64 e] 26))
      have q0 := (hb4.block (w.heap.size + 1) hgs).trans HCUR.out
      have HK4 : Hid ((w3.alloc (.cells #[.bool g, .slice so sn sc, .int .i64 e] 26)).heap[w.heap.size]? = some (.cells #[.func (.func F) #[] #[], .func (.func G) #[] #[]] 136 (0, 0))) := (hb4.block _ (Array.getElem?_eq_some_iff.1 HK.out).1).trans HK.out
      have qx := heap_a1 w3 (.cells #[.bool g, .slice so sn sc, .int .i64 e] 26)
      have t0 := blkC qx 0 rfl
      have t1 := blkC qx 1 rfl
      have t2 := blkC qx 2 rfl
      have x0 := blkC q0 (k * 3) HV.out.1
      have x1 := blkC q0 (k * 3 + 1) HV.out.2.1
      have x2 := blkC q0 (k * 3 + 2) HV.out.2.2
      have f0 := blkF q0 (k * 3)
      have f1 := blkF q0 (k * 3 + 1)
      have f2 := blkF q0 (k * 3 + 2)
      have hn1 : w.heap.size + 1 ≠ w.heap.size := by omega
      clear q0 qx kf
      go_wp2
      all_goals
        go_roundw
        case rel =>
          obtain ⟨ng, s, m, e', h1, hyy, hA⟩ := HD.out
          simp only [Value.agg.injEq, Array.mk.injEq, List.cons.injEq, Value.bool.injEq, Value.int.injEq, true_and, and_true] at h1
          obtain ⟨rfl, rfl, rfl⟩ := h1
          obtain ⟨dd, hRd, hNd, hVd, hgd⟩ := hA.open
          have hgs2 : ∀ b' off, so = some ⟨b', off, none⟩ → 0 < sn → w.heap.size + 1 < b' := fun b' off he _ => by
            have h9 := hgd b' off he
            omega
          refine ⟨k + 1, updN q k ⟨g, so, sn, sc, dd, e⟩, by omega, by go_num, BlkN.step (x := ⟨g, so, sn, sc, dd, e⟩) HQ.out hb4 (hRd.keeps (bel_alloc _ _)) hlt HG.out hgs2, fun i hi => ?_, fun i b' off hi he hn' => ?_, ?_, bel_set3' (bel_trans hbw hb4) (by omega) _ _ _⟩
          · by_cases ei : i = k
            · subst ei
              rw [updN_same]
              exact ⟨hNd, by rw [hVd]; exact hyy⟩
            · rw [updN_other _ _ ei]
              exact HF.out i (by omega)
          · by_cases ei : i = k
            · subst ei
              rw [updN_same] at he hn'
              exact hgs2 b' off he hn'
            · rw [updN_other _ _ ei] at he hn'
              exact HG.out i b' off (by omega) he hn'
          · show _ = _
            rw [heap_setCell_other _ ⟨w.heap.size + 1, _, none⟩ w.heap.size _ (Ne.symm hn1), heap_setCell_other _ ⟨w.heap.size + 1, _, none⟩ w.heap.size _ (Ne.symm hn1), heap_setCell_other _ ⟨w.heap.size + 1, _, none⟩ w.heap.size _ (Ne.symm hn1)]
            exact HK4.out
        case measure => simp [intOf]; omega
    · obtain rfl : k = n := by omega
      go_wp2
      all_goals refine bodyPost_ret (v := .tuple #[.slice (some ⟨w.heap.size + 1, 0, none⟩) k k, .bool true]) (by simp [results, Tryz.results118, go_sem]) rfl ⟨_, q, rfl, by omega, HQ.out.nums hn, hbw, HF.out⟩
end Go.Proofs.YtmpioejllfedoaaGreatDoor

/-
  Package round: kind.values where an operand is not finite, by its contract.
-/
namespace Go.Proofs.YtmpioejllfedoaaGreatDoor
open Go Go.RowKit Go.Proofs.YtmpioejllfedoaaGreatDoor.M
set_option linter.unusedSimpArgs false
set_option linter.unusedVariables false

set_option maxRecDepth 100000 in
set_option maxHeartbeats 2000000 in
theorem values_no (F G : Nat) (oo : Option Addr) (n cap : Nat) (d V : Nat → Int) (w : World) (hR : Row w oo n cap d) (hn : n ≤ 100000) (K : Nat) (hK : K < n)
    (hEF : ∀ (cap : Array Value) (w : World), (callFunc F cap).run Tryz.prog w = .ok (.enter F cap) w)
    (C : ∀ i, i < K → ∀ W, Below w.heap.size w W → Calls Tryz.prog F #[.int .i64 (d i)] W fun r w' => ∃ v, r = .returned (.tuple #[v, .int .i64 0]) ∧ DAns W w' (V i) v)
    (CN : ∀ W, Below w.heap.size w W → Calls Tryz.prog F #[.int .i64 (d K)] W fun r w' => r = .returned (.tuple #[.agg #[.bool false, .slice none 0 0, .int .i64 0], .int .i64 10]) ∧ Below W.heap.size W w') :
    Calls Tryz.prog 118 #[.agg #[.func (.func F) #[] #[], .func (.func G) #[] #[]], .slice oo n cap] w fun x w' => x = .returned (.tuple #[.slice none 0 0, .bool false]) ∧ Below w.heap.size w w' := by
  have hle := hR.le
  have hma := hR.max
  have hmake := make_nums n hn
  have hst : ∀ (p : Addr) (F : Nat) (m : Mode) (w : World), (store p (.func (.func F) #[] #[]) m).run Tryz.prog w = stored Tryz.prog w p (.func (.func F) #[] #[]) m := fun p F m w => run_store _ w p _ m rfl
  have ha1 := bel_alloc w (.cells #[.func (.func F) #[] #[], .func (.func G) #[] #[]] 136)
  have q1 := heap_alloc_new w (.cells #[.func (.func F) #[] #[], .func (.func G) #[] #[]] 136)
  have k0 := blkC q1 0 rfl
  have k1 := blkC q1 1 rfl
  go_enter Tryz.func118, Tryz.ntmps118
  go_wp2_with fail
  have hb0 := bel_alloc2 w (.cells #[.func (.func F) #[] #[], .func (.func G) #[] #[]] 136) (.cells (madeCells #[.bool false, .slice none 0 0, .int .i64 0] (n * 3)) 26)
  have g1 := heap_b2 w (.cells #[.func (.func F) #[] #[], .func (.func G) #[] #[]] 136) (.cells (madeCells #[.bool false, .slice none 0 0, .int .i64 0] (n * 3)) 26)
  have g0 := heap_a2 w (.cells #[.func (.func F) #[] #[], .func (.func G) #[] #[]] 136) (.cells (madeCells #[.bool false, .slice none 0 0, .int .i64 0] (n * 3)) 26)
  have HB0 : Hid (BlkN ((w.alloc (.cells #[.func (.func F) #[] #[], .func (.func G) #[] #[]] 136)).alloc (.cells (madeCells #[.bool false, .slice none 0 0, .int .i64 0] (n * 3)) 26)) (w.heap.size + 1) n 0 (fun _ => ⟨false, none, 0, 0, fun _ => 0, 0⟩)) := ⟨_, g1, by rw [size_madeCells], fun i hi => by omega⟩
  clear g1 hmake q1 k0 k1 ha1
  generalize (w.alloc (.cells #[.func (.func F) #[] #[], .func (.func G) #[] #[]] 136)).alloc (.cells (madeCells #[.bool false, .slice none 0 0, .int .i64 0] (n * 3)) 26) = wx at hb0 HB0 g0 ⊢
  go_loopw [16] (fun iv wr => ∃ (k : Nat) (q : Nat → NumR), k ≤ K ∧ iv = .int .i64 k ∧ Hid (BlkN wr (w.heap.size + 1) n k q) ∧ Hid (∀ i, i < k → Nrm (q i).d (q i).n ∧ Dy (V i) (q i).ng (val (q i).d (q i).n) (q i).e) ∧ Hid (∀ i b' off, i < k → (q i).ao = some ⟨b', off, none⟩ → 0 < (q i).n → w.heap.size + 1 < b') ∧ Hid (wr.heap[w.heap.size]? = some (.cells #[.func (.func F) #[] #[], .func (.func G) #[] #[]] 136 (0, 0))) ∧ Below w.heap.size w wr) (fun iv _ => n - (intOf iv).toNat)
  case atStart => exact ⟨0, _, Nat.zero_le _, rfl, HB0, fun i hi => by omega, fun i b' off hi => by omega, g0, hb0⟩
  case round =>
    obtain ⟨k, q, hk, rfl, HQ, HF, HG, HK, hbw⟩ := hrel
    clear HB0 hb0 g0
    have hlt : k < n := by omega
    by_cases hltK : k < K
    · obtain ⟨ba, oa, rfl, hba, hca⟩ := hR.spot (by omega)
      have c0 := (hbw.cell (p := ⟨ba, oa + k, none⟩) hba).trans (hca k hlt)
      have CF := C k hltK
      have kf := blkC HK.out 0 rfl
      obtain ⟨cur, hcur, hsz, hcells⟩ := HQ.out
      have e0 : k * 3 < cur.size := by omega
      have e1 : k * 3 + 1 < cur.size := by omega
      have e2 : k * 3 + 2 < cur.size := by omega
      obtain ⟨v0, hv0⟩ : ∃ v, cur[k * 3]? = some v := ⟨_, Array.getElem?_eq_getElem e0⟩
      obtain ⟨v1, hv1⟩ : ∃ v, cur[k * 3 + 1]? = some v := ⟨_, Array.getElem?_eq_getElem e1⟩
      obtain ⟨v2, hv2⟩ : ∃ v, cur[k * 3 + 2]? = some v := ⟨_, Array.getElem?_eq_getElem e2⟩
      have HV : Hid (cur[k * 3]? = some v0 ∧ cur[k * 3 + 1]? = some v1 ∧ cur[k * 3 + 2]? = some v2) := ⟨hv0, hv1, hv2⟩
      have HCUR : Hid (wr.heap[w.heap.size + 1]? = some (.cells cur 26 (0, 0))) := hcur
      have hgs : w.heap.size + 1 < wr.heap.size := (Array.getElem?_eq_some_iff.1 hcur).1
      clear hcells hv0 hv1 hv2 hcur hsz e0 e1 e2 hca C
      have i0 : (0 : Int) ≤ (k : Int) := by omega
      have i1 : (k : Int) < (n : Int) := by omega
      generalize d k = x at *
      go_wp2_with fail
      refine (CF _ hbw).mono ?_
      rintro _ w3 ⟨v, rfl, hD⟩
      have hb3 := hD.below
      have HD : Hid (DAns wr w3 (V k) v) := hD
      obtain ⟨g, s0, m0, e, rfl, _, hA0⟩ := id hD
      obtain ⟨so, sn, sc, rfl⟩ := hA0.num.shape
      clear hD CF hA0
      have hb4 := bel_trans hb3 (bel_alloc w3 (.cells #[.bool g, .slice so sn sc, .int .i64 e] 26))
      have q0 := (hb4.block (w.heap.size + 1) hgs).trans HCUR.out
      have HK4 : Hid ((w3.alloc (.cells #[.bool g, .slice so sn sc, .int .i64 e] 26)).heap[w.heap.size]? = some (.cells #[.func (.func F) #[] #[], .func (.func G) #[] #[]] 136 (0, 0))) := (hb4.block _ (Array.getElem?_eq_some_iff.1 HK.out).1).trans HK.out
      have qx := heap_a1 w3 (.cells #[.bool g, .slice so sn sc, .int .i64 e] 26)
      have t0 := blkC qx 0 rfl
      have t1 := blkC qx 1 rfl
      have t2 := blkC qx 2 rfl
      have x0 := blkC q0 (k * 3) HV.out.1
      have x1 := blkC q0 (k * 3 + 1) HV.out.2.1
      have x2 := blkC q0 (k * 3 + 2) HV.out.2.2
      have f0 := blkF q0 (k * 3)
      have f1 := blkF q0 (k * 3 + 1)
      have f2 := blkF q0 (k * 3 + 2)
      have hn1 : w.heap.size + 1 ≠ w.heap.size := by omega
      clear q0 qx kf
      go_wp2
      all_goals
        go_roundw
        case rel =>
          obtain ⟨ng, s, m, e', h1, hyy, hA⟩ := HD.out
          simp only [Value.agg.injEq, Array.mk.injEq, List.cons.injEq, Value.bool.injEq, Value.int.injEq, true_and, and_true] at h1
          obtain ⟨rfl, rfl, rfl⟩ := h1
          obtain ⟨dd, hRd, hNd, hVd, hgd⟩ := hA.open
          have hgs2 : ∀ b' off, so = some ⟨b', off, none⟩ → 0 < sn → w.heap.size + 1 < b' := fun b' off he _ => by
            have h9 := hgd b' off he
            omega
          refine ⟨k + 1, updN q k ⟨g, so, sn, sc, dd, e⟩, by omega, by go_num, BlkN.step (x := ⟨g, so, sn, sc, dd, e⟩) HQ.out hb4 (hRd.keeps (bel_alloc _ _)) hlt HG.out hgs2, fun i hi => ?_, fun i b' off hi he hn' => ?_, ?_, bel_set3' (bel_trans hbw hb4) (by omega) _ _ _⟩
          · by_cases ei : i = k
            · subst ei
              rw [updN_same]
              exact ⟨hNd, by rw [hVd]; exact hyy⟩
            · rw [updN_other _ _ ei]
              exact HF.out i (by omega)
          · by_cases ei : i = k
            · subst ei
              rw [updN_same] at he hn'
              exact hgs2 b' off he hn'
            · rw [updN_other _ _ ei] at he hn'
              exact HG.out i b' off (by omega) he hn'
          · show _ = _
            rw [heap_setCell_other _ ⟨w.heap.size + 1, _, none⟩ w.heap.size _ (Ne.symm hn1), heap_setCell_other _ ⟨w.heap.size + 1, _, none⟩ w.heap.size _ (Ne.symm hn1), heap_setCell_other _ ⟨w.heap.size + 1, _, none⟩ w.heap.size _ (Ne.symm hn1)]
            exact HK4.out
        case measure => simp [intOf]; omega
    · obtain rfl : k = K := by omega
      obtain ⟨ba, oa, rfl, hba, hca⟩ := hR.spot (by omega)
      have c0 := (hbw.cell (p := ⟨ba, oa + k, none⟩) hba).trans (hca k hlt)
      have kf := blkC HK.out 0 rfl
      clear hca C
      have i0 : (0 : Int) ≤ (k : Int) := by omega
      have i1 : (k : Int) < (n : Int) := by omega
      generalize d k = x at *
      go_wp2_with fail
      refine (CN _ hbw).mono ?_
      rintro _ w3 ⟨rfl, hb3⟩
      go_wp2
      all_goals refine bodyPost_ret (v := .tuple #[.slice none 0 0, .bool false]) (by simp [results, Tryz.results118, go_sem]) rfl ⟨rfl, bel_trans hbw (bel_trans hb3 (bel_alloc _ _))⟩
end Go.Proofs.YtmpioejllfedoaaGreatDoor

/-
  Package round: kind.operate in the ways other than Near, product, total, by their contracts.
-/
namespace Go.Proofs.YtmpioejllfedoaaGreatDoor
open Go Go.RowKit Go.Proofs.YtmpioejllfedoaaGreatDoor.M
set_option linter.unusedSimpArgs false
set_option linter.unusedVariables false

/-- What the value of a number is. -/
def vlV (ng : Bool) (m e : Int) (sd : Bool) : Value := valV ng (m / 2 ^ vK m).toNat (e + vK m) (decide (m % 2 ^ vK m ≠ 0)) sd
theorem valueOf_D {w : World} {v : Value} {V : Int} {ng : Bool} {m e : Int} (hx : DNum w v V) (ok : Dok V) (hy : Dy V ng m e) (hT : Tab w) :
    Calls Tryz.prog 102 #[v] w fun r w' => r = .returned (vlV ng m e false) ∧ Below w.heap.size w w' := by
  obtain ⟨x, rfl, hR, hok, rfl⟩ := hx.open ok
  obtain ⟨na, hn, he0, he1⟩ := okR_sane hok
  obtain ⟨rfl, rfl, rfl⟩ := (okR_dy hok).1.unique hy
  exact valueOf_any _ _ _ _ _ _ _ hR na hn ⟨he0, he1⟩ hT
/-- Does the answer to the nearest stand? -/
def opT (er : Int) (mag : Nat) (sd : Bool) (b near : Int) : Int := if er ≠ 0 ∨ (mag = 0 ∧ sd = false) then near else b
set_option maxRecDepth 100000 in
set_option maxHeartbeats 1000000 in
theorem operate_go (way : Int) (hw : 1 ≤ way ∧ way ≤ 3) (near : Int) (F G Rf : Nat) (rc : Array Value) (oo : Option Addr) (n cap : Nat) (w : World) (V : Nat → Int) (ng : Bool) (mag : Nat) (exp : Int) (cut sd : Bool) (er b : Int) (o : Bool)
    (hEG : ∀ (cap : Array Value) (w : World), (callFunc G cap).run Tryz.prog w = .ok (.enter G cap) w)
    (hER : ∀ (cap : Array Value) (w : World), (callFunc Rf cap).run Tryz.prog w = .ok (.enter Rf cap) w)
    (CV : ∀ W, Below w.heap.size w W → Calls Tryz.prog 118 #[.agg #[.func (.func F) #[] #[], .func (.func G) #[] #[]], .slice oo n cap] W fun x w' => ∃ g q, x = .returned (.tuple #[.slice (some ⟨g, 0, none⟩) n n, .bool true]) ∧ W.heap.size ≤ g ∧ Nums w' (some ⟨g, 0, none⟩) n n q ∧ Below W.heap.size W w' ∧ ∀ i, i < n → Nrm (q i).d (q i).n ∧ Dy (V i) (q i).ng (val (q i).d (q i).n) (q i).e)
    (CR : ∀ W g q, Below w.heap.size w W → Nums W (some ⟨g, 0, none⟩) n n q → (∀ i, i < n → Nrm (q i).d (q i).n ∧ Dy (V i) (q i).ng (val (q i).d (q i).n) (q i).e) → Calls Tryz.prog Rf (#[.slice (some ⟨g, 0, none⟩) n n] ++ rc) W fun e w' => e = .returned (.tuple #[valV ng mag exp cut sd, .int .i64 er]) ∧ Below W.heap.size W w')
    (CT : ∀ W, Below w.heap.size w W → Calls Tryz.prog G #[valV ng mag exp cut true, wayV way] W fun e w' => e = .returned (.tuple #[.int .i64 b, .bool o]) ∧ Below W.heap.size W w') :
    Calls Tryz.prog 110 #[.agg #[.func (.func F) #[] #[], .func (.func G) #[] #[]], .int .i64 near, .int .i64 way, .func (.func Rf) #[] rc, .slice oo n cap] w fun e w' => e = .returned (.tuple #[.int .i64 (opT er mag sd b near), .int .i64 0]) ∧ Below w.heap.size w w' := by
  have hst : ∀ (p : Addr) (F : Nat) (m : Mode) (w : World), (store p (.func (.func F) #[] #[]) m).run Tryz.prog w = stored Tryz.prog w p (.func (.func F) #[] #[]) m := fun p F m w => run_store _ w p _ m rfl
  have hw0 : 0 ≤ way ∧ way ≤ 3 := by omega
  have hne : way ≠ 0 := by omega
  unfold valV wayV at *
  have CW := fun W => wayOf_any way W
  rw [if_pos hw0, decide_eq_true hw0] at CW
  unfold wayV at CW
  generalize wayF way = K at *
  have HV : Hid _ := CV
  have HR : Hid _ := CR
  have HT : Hid _ := CT
  clear CV CR CT
  have hb1 := bel_alloc w (.cells #[.func (.func F) #[] #[], .func (.func G) #[] #[]] 136)
  have q1 := heap_alloc_new w (.cells #[.func (.func F) #[] #[], .func (.func G) #[] #[]] 136)
  go_enter Tryz.func110, Tryz.ntmps110
  go_wp2_with fail
  generalize w.alloc (.cells #[.func (.func F) #[] #[], .func (.func G) #[] #[]] 136) = x0 at hb1 q1 ⊢
  refine (CW _).mono ?_
  rintro _ w2 ⟨rfl, hb2⟩
  have q2 := heap_alloc_new w2 (.cells #[.nilFunc] 123)
  have y0 := blkC q2 0 rfl
  have y1 := blkF q2 0
  have p1 := (hb2.block _ (Array.getElem?_eq_some_iff.1 q1).1).trans q1
  have hb3 := bel_alloc w2 (.cells #[.func (.func K) #[] #[]] 123)
  have p2 := (hb3.block _ (Array.getElem?_eq_some_iff.1 p1).1).trans p1
  have q3 := heap_alloc_new w2 (.cells #[.func (.func K) #[] #[]] 123)
  have c0 := blkC p2 0 rfl
  have c1 := blkC p2 1 rfl
  have hbx := bel_trans (bel_trans hb1 hb2) hb3
  clear CW q1 p1
  go_wp2_with fail
  generalize w2.alloc (.cells #[.func (.func K) #[] #[]] 123) = x3 at hb3 p2 q3 c0 c1 hbx ⊢
  refine (HV.out _ hbx).mono ?_
  rintro _ w4 ⟨g, q, rfl, hg, hN, hb4, hf⟩
  have hb5 := bel_trans hbx hb4
  have p2 := (hb4.block _ (Array.getElem?_eq_some_iff.1 p2).1).trans p2
  have q3 := (hb4.block _ (Array.getElem?_eq_some_iff.1 q3).1).trans q3
  clear c0 c1 y0 y1 q2
  go_wp2_with fail
  refine (HR.out _ g q hb5 hN hf).mono ?_
  rintro _ w6 ⟨rfl, hb6⟩
  have hb7 := bel_trans hb5 hb6
  have p2 := (hb6.block _ (Array.getElem?_eq_some_iff.1 p2).1).trans p2
  have q3 := (hb6.block _ (Array.getElem?_eq_some_iff.1 q3).1).trans q3
  clear HV HR hN hf
  have hb8 := bel_alloc w6 (.cells #[.bool ng, .int .u64 mag, .int .i64 exp, .bool cut, .bool sd] 110)
  have q8 := heap_alloc_new w6 (.cells #[.bool ng, .int .u64 mag, .int .i64 exp, .bool cut, .bool sd] 110)
  have x1' := blkC q8 1 rfl
  have x4' := blkC q8 4 rfl
  have z4' := blkF q8 4
  have hb9 := bel_trans hb7 hb8
  have hbX := bel_alloc w6 (.cells #[.bool ng, .int .u64 mag, .int .i64 exp, .bool cut, .bool true] 110)
  have qX := heap_alloc_new w6 (.cells #[.bool ng, .int .u64 mag, .int .i64 exp, .bool cut, .bool true] 110)
  have pX := (hbX.block _ (Array.getElem?_eq_some_iff.1 p2).1).trans p2
  have rX := (hbX.block _ (Array.getElem?_eq_some_iff.1 q3).1).trans q3
  have u1 := blkC pX 1 rfl
  have u2 := blkC rX 0 rfl
  have v0 := blkC qX 0 rfl
  have v1 := blkC qX 1 rfl
  have v2 := blkC qX 2 rfl
  have v3 := blkC qX 3 rfl
  have v4 := blkC qX 4 rfl
  have hbY := bel_trans hb7 hbX
  clear q8 qX pX rX p2 q3 hb8 hbX
  by_cases he : er = 0
  · subst he
    by_cases hm : mag = 0
    · subst hm
      cases sd
      · go_wp2
        all_goals refine bodyPost_ret (v := .tuple #[.int .i64 near, .int .i64 0]) (by simp [results, Tryz.results110, go_sem]) rfl ⟨by simp [opT], hb9⟩
      · have e0 : ((0 : Nat) : Int) = 0 := rfl
        have HT := HT.out
        simp only [e0] at HT hbY u1 u2 v0 v1 v2 v3 v4
        go_wp2_with fail
        refine (HT _ hbY).mono ?_
        rintro _ w10 ⟨rfl, hb10⟩
        go_wp2
        all_goals refine bodyPost_ret (v := .tuple #[.int .i64 b, .int .i64 0]) (by simp [results, Tryz.results110, go_sem]) rfl ⟨by simp [opT], bel_trans hbY hb10⟩
    · have hm' : ¬ ((mag : Int) = 0) := by omega
      go_wp2_with fail
      refine (HT.out _ hbY).mono ?_
      rintro _ w10 ⟨rfl, hb10⟩
      go_wp2
      all_goals refine bodyPost_ret (v := .tuple #[.int .i64 b, .int .i64 0]) (by simp [results, Tryz.results110, go_sem]) rfl ⟨by simp [opT, hm], bel_trans hbY hb10⟩
  · go_wp2
    all_goals refine bodyPost_ret (v := .tuple #[.int .i64 near, .int .i64 0]) (by simp [results, Tryz.results110, go_sem]) rfl ⟨by simp [opT, he], hb9⟩
set_option maxRecDepth 100000 in
set_option maxHeartbeats 1000000 in
theorem operate_not (way : Int) (hw : 1 ≤ way ∧ way ≤ 3) (near : Int) (F G Rf : Nat) (rc : Array Value) (oo : Option Addr) (n cap : Nat) (w : World)
    (CV : ∀ W, Below w.heap.size w W → Calls Tryz.prog 118 #[.agg #[.func (.func F) #[] #[], .func (.func G) #[] #[]], .slice oo n cap] W fun x w' => x = .returned (.tuple #[.slice none 0 0, .bool false]) ∧ Below W.heap.size W w') :
    Calls Tryz.prog 110 #[.agg #[.func (.func F) #[] #[], .func (.func G) #[] #[]], .int .i64 near, .int .i64 way, .func (.func Rf) #[] rc, .slice oo n cap] w fun e w' => e = .returned (.tuple #[.int .i64 near, .int .i64 0]) ∧ Below w.heap.size w w' := by
  have hst : ∀ (p : Addr) (F : Nat) (m : Mode) (w : World), (store p (.func (.func F) #[] #[]) m).run Tryz.prog w = stored Tryz.prog w p (.func (.func F) #[] #[]) m := fun p F m w => run_store _ w p _ m rfl
  have hw0 : 0 ≤ way ∧ way ≤ 3 := by omega
  have hne : way ≠ 0 := by omega
  have CW := fun W => wayOf_any way W
  rw [if_pos hw0, decide_eq_true hw0] at CW
  unfold wayV at CW
  generalize wayF way = K at *
  have HV : Hid _ := CV
  clear CV
  have hb1 := bel_alloc w (.cells #[.func (.func F) #[] #[], .func (.func G) #[] #[]] 136)
  have q1 := heap_alloc_new w (.cells #[.func (.func F) #[] #[], .func (.func G) #[] #[]] 136)
  go_enter Tryz.func110, Tryz.ntmps110
  go_wp2_with fail
  generalize w.alloc (.cells #[.func (.func F) #[] #[], .func (.func G) #[] #[]] 136) = x0 at hb1 q1 ⊢
  refine (CW _).mono ?_
  rintro _ w2 ⟨rfl, hb2⟩
  have q2 := heap_alloc_new w2 (.cells #[.nilFunc] 123)
  have y0 := blkC q2 0 rfl
  have y1 := blkF q2 0
  have p1 := (hb2.block _ (Array.getElem?_eq_some_iff.1 q1).1).trans q1
  have hb3 := bel_alloc w2 (.cells #[.func (.func K) #[] #[]] 123)
  have p2 := (hb3.block _ (Array.getElem?_eq_some_iff.1 p1).1).trans p1
  have c0 := blkC p2 0 rfl
  have c1 := blkC p2 1 rfl
  have hbx := bel_trans (bel_trans hb1 hb2) hb3
  clear CW q1 p1
  go_wp2_with fail
  refine (HV.out _ hbx).mono ?_
  rintro _ w4 ⟨rfl, hb4⟩
  go_wp2
  all_goals refine bodyPost_ret (v := .tuple #[.int .i64 near, .int .i64 0]) (by simp [results, Tryz.results110, go_sem]) rfl ⟨rfl, bel_trans hbx hb4⟩
end Go.Proofs.YtmpioejllfedoaaGreatDoor

/-
  Package round: product, total, the sum's closure, by their contracts.
-/
namespace Go.Proofs.YtmpioejllfedoaaGreatDoor
open Go Go.RowKit Go.Proofs.YtmpioejllfedoaaGreatDoor.M
set_option linter.unusedSimpArgs false
set_option linter.unusedVariables false

theorem Nums.at {w : World} {g n : Nat} {q : Nat → NumR} (h : Nums w (some ⟨g, 0, none⟩) n n q) (i : Nat) (hi : i < n) : At3 w g (i * 3) (q i) := by
  obtain ⟨b, off, he, hlt, hc⟩ := h.spot (by omega)
  cases he
  have := hc i hi
  rwa [Nat.zero_add] at this
theorem nums_D {w : World} {g n : Nat} {q : Nat → NumR} {V : Nat → Int} (h : Nums w (some ⟨g, 0, none⟩) n n q) (hf : ∀ i, i < n → Nrm (q i).d (q i).n ∧ Dy (V i) (q i).ng (val (q i).d (q i).n) (q i).e) (i : Nat) (hi : i < n) : DNum w (q i).v (V i) :=
  ⟨_, _, _, _, rfl, (hf i hi).2, _, _, _, _, rfl, (h.at i hi).row, (hf i hi).1, rfl⟩
theorem scale_injF {C D A B : Int} (h : C * 2 ^ 4194304 = A * B) (k : D * 2 ^ 4194304 = A * B) : C = D := Int.eq_of_mul_eq_mul_right (Int.ne_of_gt (two_pos 4194304)) (h.trans k.symm)
theorem keep6B {W w' : World} {g : Nat} {a b c d e f : Value} (h : W.cell? ⟨g, 0, none⟩ = some a ∧ W.cell? ⟨g, 1, none⟩ = some b ∧ W.cell? ⟨g, 2, none⟩ = some c ∧ W.cell? ⟨g, 3, none⟩ = some d ∧ W.cell? ⟨g, 4, none⟩ = some e ∧ W.cell? ⟨g, 5, none⟩ = some f) (hb : Below W.heap.size W w') :
    w'.cell? ⟨g, 0, none⟩ = some a ∧ w'.cell? ⟨g, 1, none⟩ = some b ∧ w'.cell? ⟨g, 2, none⟩ = some c ∧ w'.cell? ⟨g, 3, none⟩ = some d ∧ w'.cell? ⟨g, 4, none⟩ = some e ∧ w'.cell? ⟨g, 5, none⟩ = some f :=
  ⟨cell_keeps h.1 hb, cell_keeps h.2.1 hb, cell_keeps h.2.2.1 hb, cell_keeps h.2.2.2.1 hb, cell_keeps h.2.2.2.2.1 hb, cell_keeps h.2.2.2.2.2 hb⟩
set_option maxRecDepth 100000 in
set_option maxHeartbeats 1000000 in
theorem product_D (g : Nat) (w : World) (q : Nat → NumR) (A B C : Int) (ng : Bool) (m e : Int) (hN : Nums w (some ⟨g, 0, none⟩) 2 2 q) (h0 : DNum w (q 0).v A) (h1 : DNum w (q 1).v B) (oA : Dok A) (oB : Dok B) (hC : C * 2 ^ 4194304 = A * B) (oC : Dok C) (hy : Dy C ng m e) (hT : Tab w) :
    Calls Tryz.prog 111 #[.slice (some ⟨g, 0, none⟩) 2 2] w fun r w' => r = .returned (.tuple #[vlV ng m e false, .int .i64 0]) ∧ Below w.heap.size w w' := by
  have CM : Hid (∀ W, Below w.heap.size w W → Calls Tryz.prog 9 #[(q 0).v, (q 1).v] W fun r w' => ∃ v, r = .returned (.tuple #[v, .int .i64 0]) ∧ DAns W w' C v) := fun W hb => by
    refine (mul_D (h0.keeps hb) (h1.keeps hb) oA oB (hT.keeps hb)).mono ?_
    rintro r w' ⟨v, er, C', rfl, hC', hF⟩
    obtain rfl := scale_injF hC' hC
    obtain ⟨rfl, hA⟩ := hF.yes oC
    exact ⟨v, rfl, hA⟩
  have CV : Hid (∀ W v, Below w.heap.size w W → DNum W v C → Calls Tryz.prog 102 #[v] W fun r w' => r = .returned (vlV ng m e false) ∧ Below W.heap.size W w') := fun W v hb hv => valueOf_D hv oC hy (hT.keeps hb)
  obtain ⟨c0, c1, c2, _⟩ := hN.at 0 (by decide)
  obtain ⟨c3, c4, c5, _⟩ := hN.at 1 (by decide)
  unfold vlV valV NumR.v at *
  generalize (m / 2 ^ vK m).toNat = Q at CV ⊢
  generalize e + vK m = E at CV ⊢
  generalize decide (m % 2 ^ vK m ≠ 0) = R at CV ⊢
  clear h0 h1 hN oA oB hC oC hy hT
  generalize q 0 = x at *
  generalize q 1 = y at *
  obtain ⟨x_g, x_o, x_n, x_c, x_d, x_e⟩ := x
  obtain ⟨y_g, y_o, y_n, y_c, y_d, y_e⟩ := y
  simp only [Nat.zero_mul, Nat.zero_add, Nat.one_mul] at c0 c1 c2 c3 c4 c5 CM
  have q0 := heap_alloc_new w (.cells #[.bool false, .int .u64 0, .int .i64 0, .bool false, .bool false] 110)
  have hb1 := bel_alloc w (.cells #[.bool false, .int .u64 0, .int .i64 0, .bool false, .bool false] 110)
  have d0 := cell_keeps c0 hb1
  have d1 := cell_keeps c1 hb1
  have d2 := cell_keeps c2 hb1
  have d3 := cell_keeps c3 hb1
  have d4 := cell_keeps c4 hb1
  have d5 := cell_keeps c5 hb1
  clear c0 c1 c2 c3 c4 c5
  go_enter Tryz.func111, Tryz.ntmps111
  go_wp2_with fail
  generalize w.alloc (.cells #[.bool false, .int .u64 0, .int .i64 0, .bool false, .bool false] 110) = x1 at q0 hb1 d0 d1 d2 d3 d4 d5 ⊢
  have KK : ∀ W, Below x1.heap.size x1 W → W.cell? ⟨g, 0, none⟩ = some (.bool x_g) ∧ W.cell? ⟨g, 1, none⟩ = some (.slice x_o x_n x_c) ∧ W.cell? ⟨g, 2, none⟩ = some (.int .i64 x_e) ∧ W.cell? ⟨g, 3, none⟩ = some (.bool y_g) ∧ W.cell? ⟨g, 4, none⟩ = some (.slice y_o y_n y_c) ∧ W.cell? ⟨g, 5, none⟩ = some (.int .i64 y_e) := fun W hb => keep6B (W := x1) ⟨d0, d1, d2, d3, d4, d5⟩ hb
  clear d0 d1 d2 d3 d4 d5
  have i0 : (0 : Int) < 2 := by decide
  have i1 : (1 : Int) < 2 := by decide
  have hx0 := (bel_refl x1).drew
  have hx1 := (bel_alloc x1 (.cells #[.bool false, .slice none 0 0, .int .i64 0] 26)).drew
  go_region_held3 (fun W => W.cell? ⟨g, 0, none⟩ = some (.bool x_g) ∧ W.cell? ⟨g, 1, none⟩ = some (.slice x_o x_n x_c) ∧ W.cell? ⟨g, 2, none⟩ = some (.int .i64 x_e) ∧ W.cell? ⟨g, 3, none⟩ = some (.bool y_g) ∧ W.cell? ⟨g, 4, none⟩ = some (.slice y_o y_n y_c) ∧ W.cell? ⟨g, 5, none⟩ = some (.int .i64 y_e))
    (first | assumption | exact KK _ hx0 | exact KK _ hx1 | exact KK _ hw3 | exact KK _ (bel_trans hw3 (bel_alloc _ _)) | exact KK _ (bel_set3' hw3 (Nat.le_refl _) _ _ _) | fail)
    ((go_at_call 9; refine (CM.out _ (by first | exact hb1.drew | exact bel_trans hb1 hx1)).mono ?_; rintro _ w3 ⟨v, rfl, hD⟩; obtain ⟨n_g, n_o, n_n, n_c, n_e, rfl⟩ := dans_shape hD; have hw3 : Below x1.heap.size x1 w3 := (by first | exact bel_trans hx0 hD.below | exact bel_trans hx1 hD.below); first | (have qz : w3.heap[x1.heap.size]? = some (.cells #[.bool false, .slice none 0 0, .int .i64 0] 26 (0, 0)) := (hD.below.block _ (by first | exact (Array.getElem?_eq_some_iff.1 (heap_a1 x1 (.cells #[.bool false, .slice none 0 0, .int .i64 0] 26))).1)).trans (heap_a1 x1 (.cells #[.bool false, .slice none 0 0, .int .i64 0] 26)); have cz0 := blkC qz 0 rfl; have cz1 := blkC qz 1 rfl; have cz2 := blkC qz 2 rfl; have zz0 := blkF qz 0; have zz1 := blkF qz 1; have zz2 := blkF qz 2) | skip))
  · have hb4 := bel_alloc w3 (.cells #[.bool n_g, .slice n_o n_n n_c, .int .i64 n_e] 26)
    have qn := heap_a1 w3 (.cells #[.bool n_g, .slice n_o n_n n_c, .int .i64 n_e] 26)
    have hw4 := bel_trans hw3 hb4
    have q4 := (hw4.block _ (Array.getElem?_eq_some_iff.1 q0).1).trans q0
    have hD4 := hD.num.keeps hb4
    have hb5 := bel_trans hb1 hw4
    have c0 := blkC qn 0 rfl
    have c1 := blkC qn 1 rfl
    have c2 := blkC qn 2 rfl
    go_wp2_with fail
    refine (CV.out _ _ hb5 hD4).mono ?_
    rintro _ w6 ⟨rfl, hb6⟩
    have p1 := (hb6.block _ (Array.getElem?_eq_some_iff.1 q4).1).trans q4
    have hbw := bel_trans hb5 hb6
    have x0 := blkC p1 0 rfl
    have x1' := blkC p1 1 rfl
    have x2 := blkC p1 2 rfl
    have x3 := blkC p1 3 rfl
    have x4 := blkC p1 4 rfl
    have z0 := blkF p1 0
    have z1 := blkF p1 1
    have z2 := blkF p1 2
    have z3 := blkF p1 3
    have z4 := blkF p1 4
    go_wp2
    all_goals refine bodyPost_ret (v := .tuple #[.agg #[.bool ng, .int .u64 Q, .int .i64 E, .bool R, .bool false], .int .i64 0]) (by simp [results, Tryz.results111, go_sem, x0, x1', x2, x3, x4]) rfl ⟨rfl, ?_⟩
    all_goals exact (wr5 w6 w.heap.size _ _ _ _ _).below hbw hbw.size (Nat.le_refl _)
  · have hw4 := bel_set3' (o0 := 0) (o1 := 1) (o2 := 2) hw3 (Nat.le_refl _) (.bool n_g) (.slice n_o n_n n_c) (.int .i64 n_e)
    have qn := heap_set (heap_set (heap_set qz 0 (.bool n_g)) 1 (.slice n_o n_n n_c)) 2 (.int .i64 n_e)
    have q4 := (hw4.block _ (Array.getElem?_eq_some_iff.1 q0).1).trans q0
    have hD4 := (dans_res3 hD hx1 (Nat.le_refl _) (Array.getElem?_eq_some_iff.1 (heap_a1 x1 (.cells #[.bool false, .slice none 0 0, .int .i64 0] 26))).1 (.bool n_g) (.slice n_o n_n n_c) (.int .i64 n_e)).num
    have hb5 := bel_trans hb1 hw4
    clear cz0 cz1 cz2 zz0 zz1 zz2 qz
    have c0 := blkC qn 0 rfl
    have c1 := blkC qn 1 rfl
    have c2 := blkC qn 2 rfl
    go_wp2_with fail
    refine (CV.out _ _ hb5 hD4).mono ?_
    rintro _ w6 ⟨rfl, hb6⟩
    have p1 := (hb6.block _ (Array.getElem?_eq_some_iff.1 q4).1).trans q4
    have hbw := bel_trans hb5 hb6
    have x0 := blkC p1 0 rfl
    have x1' := blkC p1 1 rfl
    have x2 := blkC p1 2 rfl
    have x3 := blkC p1 3 rfl
    have x4 := blkC p1 4 rfl
    have z0 := blkF p1 0
    have z1 := blkF p1 1
    have z2 := blkF p1 2
    have z3 := blkF p1 3
    have z4 := blkF p1 4
    go_wp2
    all_goals refine bodyPost_ret (v := .tuple #[.agg #[.bool ng, .int .u64 Q, .int .i64 E, .bool R, .bool false], .int .i64 0]) (by simp [results, Tryz.results111, go_sem, x0, x1', x2, x3, x4]) rfl ⟨rfl, ?_⟩
    all_goals exact (wr5 w6 w.heap.size _ _ _ _ _).below hbw hbw.size (Nat.le_refl _)
end Go.Proofs.YtmpioejllfedoaaGreatDoor
