/-
  Parts of the proof, one behind another.
-/
import Derived.Test.YtmpioejllfedoaaGreatDoorPart18
import Derived.Test.YtmpioejllfedoaaGreatDoorPart17
/-
  plumblaw8's around of a finite float, with any steps, by its contract (tools/s_aro3.py).
-/
namespace Go.Proofs.YtmpioejllfedoaaGreatDoor
open Go Go.RowKit Go.Proofs.YtmpioejllfedoaaGreatDoor.M
set_option linter.unusedSimpArgs false
set_option linter.unusedVariables false

theorem and7 {x : Int} (h : rng x) : ∃ k : Nat, bits BinOp.and IntKind.i64 x 7 = (k : Int) ∧ k ≤ 7 := by
  have h1 : 0 ≤ bits BinOp.and IntKind.i64 x 7 ∧ bits BinOp.and IntKind.i64 x 7 ≤ 7 := by
    rw [bits_and64, show ((7 : Int) % 18446744073709551616).toNat = 2 ^ 3 - 1 from by decide, Nat.and_two_pow_sub_one_eq_mod, wrap_i64_eq]
    omega
  exact ⟨(bits BinOp.and IntKind.i64 x 7).toNat, by omega, by omega⟩
theorem prev_B {b : Int} {w : World} (hb : rng b) (H : Hold4 w) : Calls Tryz.prog 22 #[.int .i64 b] w fun e w' => e = .returned (.int .i64 (prev b)) ∧ Below w.heap.size w w' := by
  refine (bitsPrev b w H.env.lays hb).mono ?_
  rintro e w' ⟨h, g⟩
  exact ⟨h, g.be⟩
theorem key_le_prev {p : Int} (h : nn p) : nn (prev p) ∧ key (prev p) ≤ key p := by
  refine ⟨nn_prevS h, ?_⟩
  by_cases hi : p = -4503599627370496
  · subst hi; decide
  · have := (key_prev h.1 h.2 hi).1; omega
theorem key_next_le {p : Int} (h : nn p) : nn (next p) ∧ key p ≤ key (next p) := by
  refine ⟨nn_nextS h, ?_⟩
  by_cases hi : p = 9218868437227405312
  · subst hi; decide
  · have := (key_next h.1 h.2 hi).1; omega
set_option maxRecDepth 100000 in
set_option maxHeartbeats 2000000 in
theorem around_steps {b x y : Int} (rb : rng b) (hp : pok b = true) (rx : rng x) (ry : rng y) (w : World) (H : Hold4 w) :
    Calls Tryz.prog 5 #[.int .i64 b, .int .i64 x, .int .i64 y] w fun r w' => ∃ (lo hi : Int) (v : Value), r = .returned (.tuple #[.agg #[.int .i64 lo, .int .i64 hi], v, .bool true]) ∧ (nn lo ∧ key lo ≤ key b) ∧ (nn hi ∧ key b ≤ key hi) ∧ DNum w' v (patV b) ∧ Three v ∧ Below w.heap.size w w' := by
  have CO : Hid (∀ W, Hold4 W → Calls Tryz.prog 21 #[.int .i64 b] W fun r w' => ∃ v, r = .returned (.tuple #[v, .int .i64 0]) ∧ DAns W w' (patV b) v) := fun W h => of_ok hp h
  obtain ⟨M, hM, hM7⟩ := and7 rx
  obtain ⟨N, hN, hN7⟩ := and7 ry
  have CP : Hid (∀ q, nn q → ∀ W, Hold4 W → Calls Tryz.prog 22 #[.int .i64 q] W fun e w' => e = .returned (.int .i64 (prev q)) ∧ Below W.heap.size W w') := fun q hq W h => prev_B hq.1 h
  have CN : Hid (∀ q, nn q → ∀ W, Hold4 W → Calls Tryz.prog 23 #[.int .i64 q] W fun e w' => e = .returned (.int .i64 (next q)) ∧ Below W.heap.size W w') := fun q hq W h => next_B hq.1 h
  have nb : Hid (nn b) := ⟨rb, pok_clsF rb hp⟩
  have hb2 := bel_alloc2 w (.cells #[.int .i64 0, .int .i64 0] 23) (.cells #[.bool false, .slice none 0 0, .int .i64 0] 26)
  have q0 := heap_a2 w (.cells #[.int .i64 0, .int .i64 0] 23) (.cells #[.bool false, .slice none 0 0, .int .i64 0] 26)
  have q1 := heap_b2 w (.cells #[.int .i64 0, .int .i64 0] 23) (.cells #[.bool false, .slice none 0 0, .int .i64 0] 26)
  go_enter Tryz.func5, Tryz.ntmps5
  go_wp2_with fail
  generalize (w.alloc (.cells #[.int .i64 0, .int .i64 0] 23)).alloc (.cells #[.bool false, .slice none 0 0, .int .i64 0] 26) = x0 at hb2 q0 q1 ⊢
  refine (CO.out _ (H.keeps hb2)).mono ?_
  rintro _ w1 ⟨v, rfl, hD⟩
  obtain ⟨n_g, n_o, n_n, n_c, n_e, rfl⟩ := dans_shape hD
  have x_k := heap_a1 w1 (.cells #[.bool n_g, .slice n_o n_n n_c, .int .i64 n_e] 26)
  have hc1 := al1 hD.below (.cells #[.bool n_g, .slice n_o n_n n_c, .int .i64 n_e] 26)
  have D1 := hD.stays (bel_alloc w1 (.cells #[.bool n_g, .slice n_o n_n n_c, .int .i64 n_e] 26))
  go_wp2_with fail
  generalize w1.alloc (.cells #[.bool n_g, .slice n_o n_n n_c, .int .i64 n_e] 26) = x1 at x_k hc1 D1 ⊢
  go_loopw [13, 11] (fun iv lv wr => ∃ (k : Nat) (lo : Int), k ≤ M ∧ iv = .int .i64 k ∧ lv = .int .i64 lo ∧ Hid (nn lo ∧ key lo ≤ key b) ∧ Below x1.heap.size x1 wr) (fun iv _ _ => M - (intOf iv).toNat)
  case atStart => exact ⟨0, b, Nat.zero_le _, rfl, rfl, ⟨nb.out, Int.le_refl _⟩, bel_refl _⟩
  case round =>
    obtain ⟨k, lo, hk, rfl, rfl, hlo, hbr⟩ := hrel
    by_cases hkM : k < M
    · have hp1 := CP.out lo hlo.out.1 wr (H.keeps (bel_trans (bel_trans hb2 hc1) hbr))
      have CPW := hideIt hp1
      clear hp1
      go_wp2_with fail
      refine CPW.out.mono ?_
      rintro _ wz ⟨rfl, hbz⟩
      go_wp2_with fail
      go_roundw
      case rel => exact ⟨k + 1, prev lo, by omega, by go_num, rfl, ⟨(key_le_prev hlo.out.1).1, Int.le_trans (key_le_prev hlo.out.1).2 hlo.out.2⟩, bel_trans hbr hbz⟩
      case measure => simp [intOf]; omega
    · have hMk : k = M := by omega
      subst hMk
      go_wp2_with fail
      go_loopw [14, 12] (fun iv lv wq => ∃ (l : Nat) (hi : Int), l ≤ N ∧ iv = .int .i64 l ∧ lv = .int .i64 hi ∧ Hid (nn hi ∧ key b ≤ key hi) ∧ Below x1.heap.size x1 wq) (fun iv _ _ => N - (intOf iv).toNat)
      case atStart => exact ⟨0, b, Nat.zero_le _, rfl, rfl, ⟨nb.out, Int.le_refl _⟩, hbr⟩
      case round =>
        obtain ⟨l, hi, hl, rfl, rfl, hhi, hbq⟩ := hrel
        by_cases hlN : l < N
        · have hp1 := CN.out hi hhi.out.1 wr (H.keeps (bel_trans (bel_trans hb2 hc1) hbq))
          have CPW := hideIt hp1
          clear hp1
          go_wp2_with fail
          refine CPW.out.mono ?_
          rintro _ wz ⟨rfl, hbz⟩
          go_wp2_with fail
          go_roundw
          case rel => exact ⟨l + 1, next hi, by omega, by go_num, rfl, ⟨(key_next_le hhi.out.1).1, Int.le_trans hhi.out.2 (key_next_le hhi.out.1).2⟩, bel_trans hbq hbz⟩
          case measure => simp [intOf]; omega
        · have hNl : l = N := by omega
          subst hNl
          have hcq := bel_trans hc1 hbq
          have x_q := blk_up hbq x_k
          have D2 := D1.stays hbq
          clear CP CN CO
          have l0 := (Array.getElem?_eq_some_iff.1 q0).1
          have l1 := (Array.getElem?_eq_some_iff.1 q1).1
          have A0 := blk_up hcq q0
          have A1 := blk_up hcq q1
          have x0' := blkC x_q 0 rfl
          have x1' := blkC x_q 1 rfl
          have x2' := blkC x_q 2 rfl
          have a0 := blkC A0 0 rfl
          have a1 := blkC A0 1 rfl
          have a2 := blkF A0 0
          have a3 := blkF A0 1
          have b0 := blkC A1 0 rfl
          have b1 := blkC A1 1 rfl
          have b2 := blkC A1 2 rfl
          have b3 := blkF A1 0
          have b4 := blkF A1 1
          have b5 := blkF A1 2
          have hn1 : w.heap.size ≠ w1.heap.size := by have := hD.below.size; omega
          have hn2 : w.heap.size + 1 ≠ w1.heap.size := by have := hD.below.size; omega
          have k0 : wr.cell? ⟨w1.heap.size, 0, none⟩ = some (.bool n_g) ∧ wr.cell? ⟨w1.heap.size, 1, none⟩ = some (.slice n_o n_n n_c) ∧ wr.cell? ⟨w1.heap.size, 2, none⟩ = some (.int .i64 n_e) := ⟨x0', x1', x2'⟩
          have K0 : wr.drew.cell? ⟨w1.heap.size, 0, none⟩ = some (.bool n_g) ∧ wr.drew.cell? ⟨w1.heap.size, 1, none⟩ = some (.slice n_o n_n n_c) ∧ wr.drew.cell? ⟨w1.heap.size, 2, none⟩ = some (.int .i64 n_e) := k0
          have k1 : ((wr.setCell ⟨w.heap.size, 0, none⟩ (.int .i64 lo)).setCell ⟨w.heap.size, 1, none⟩ (.int .i64 hi)).cell? ⟨w1.heap.size, 0, none⟩ = some (.bool n_g) ∧ ((wr.setCell ⟨w.heap.size, 0, none⟩ (.int .i64 lo)).setCell ⟨w.heap.size, 1, none⟩ (.int .i64 hi)).cell? ⟨w1.heap.size, 1, none⟩ = some (.slice n_o n_n n_c) ∧ ((wr.setCell ⟨w.heap.size, 0, none⟩ (.int .i64 lo)).setCell ⟨w.heap.size, 1, none⟩ (.int .i64 hi)).cell? ⟨w1.heap.size, 2, none⟩ = some (.int .i64 n_e) := keep3R k0 (((Wr.refl w.heap.size wr).setCell 0 _).setCell 1 _) (Ne.symm hn1)
          have K1 : ((wr.setCell ⟨w.heap.size, 0, none⟩ (.int .i64 lo)).setCell ⟨w.heap.size, 1, none⟩ (.int .i64 hi)).drew.cell? ⟨w1.heap.size, 0, none⟩ = some (.bool n_g) ∧ ((wr.setCell ⟨w.heap.size, 0, none⟩ (.int .i64 lo)).setCell ⟨w.heap.size, 1, none⟩ (.int .i64 hi)).drew.cell? ⟨w1.heap.size, 1, none⟩ = some (.slice n_o n_n n_c) ∧ ((wr.setCell ⟨w.heap.size, 0, none⟩ (.int .i64 lo)).setCell ⟨w.heap.size, 1, none⟩ (.int .i64 hi)).drew.cell? ⟨w1.heap.size, 2, none⟩ = some (.int .i64 n_e) := ⟨(cell_dr _ _).trans k1.1, (cell_dr _ _).trans k1.2.1, (cell_dr _ _).trans k1.2.2⟩
          have k2 : (((((wr.setCell ⟨w.heap.size, 0, none⟩ (.int .i64 lo)).setCell ⟨w.heap.size, 1, none⟩ (.int .i64 hi)).setCell ⟨w.heap.size + 1, 0, none⟩ (.bool n_g)).setCell ⟨w.heap.size + 1, 1, none⟩ (.slice n_o n_n n_c)).setCell ⟨w.heap.size + 1, 2, none⟩ (.int .i64 n_e)).cell? ⟨w1.heap.size, 0, none⟩ = some (.bool n_g) ∧ (((((wr.setCell ⟨w.heap.size, 0, none⟩ (.int .i64 lo)).setCell ⟨w.heap.size, 1, none⟩ (.int .i64 hi)).setCell ⟨w.heap.size + 1, 0, none⟩ (.bool n_g)).setCell ⟨w.heap.size + 1, 1, none⟩ (.slice n_o n_n n_c)).setCell ⟨w.heap.size + 1, 2, none⟩ (.int .i64 n_e)).cell? ⟨w1.heap.size, 1, none⟩ = some (.slice n_o n_n n_c) ∧ (((((wr.setCell ⟨w.heap.size, 0, none⟩ (.int .i64 lo)).setCell ⟨w.heap.size, 1, none⟩ (.int .i64 hi)).setCell ⟨w.heap.size + 1, 0, none⟩ (.bool n_g)).setCell ⟨w.heap.size + 1, 1, none⟩ (.slice n_o n_n n_c)).setCell ⟨w.heap.size + 1, 2, none⟩ (.int .i64 n_e)).cell? ⟨w1.heap.size, 2, none⟩ = some (.int .i64 n_e) := keep3R k1 (wr3 _ _ _ _ _ _ _ _) (Ne.symm hn2)
          have K2 : (((((wr.setCell ⟨w.heap.size, 0, none⟩ (.int .i64 lo)).setCell ⟨w.heap.size, 1, none⟩ (.int .i64 hi)).setCell ⟨w.heap.size + 1, 0, none⟩ (.bool n_g)).setCell ⟨w.heap.size + 1, 1, none⟩ (.slice n_o n_n n_c)).setCell ⟨w.heap.size + 1, 2, none⟩ (.int .i64 n_e)).drew.cell? ⟨w1.heap.size, 0, none⟩ = some (.bool n_g) ∧ (((((wr.setCell ⟨w.heap.size, 0, none⟩ (.int .i64 lo)).setCell ⟨w.heap.size, 1, none⟩ (.int .i64 hi)).setCell ⟨w.heap.size + 1, 0, none⟩ (.bool n_g)).setCell ⟨w.heap.size + 1, 1, none⟩ (.slice n_o n_n n_c)).setCell ⟨w.heap.size + 1, 2, none⟩ (.int .i64 n_e)).drew.cell? ⟨w1.heap.size, 1, none⟩ = some (.slice n_o n_n n_c) ∧ (((((wr.setCell ⟨w.heap.size, 0, none⟩ (.int .i64 lo)).setCell ⟨w.heap.size, 1, none⟩ (.int .i64 hi)).setCell ⟨w.heap.size + 1, 0, none⟩ (.bool n_g)).setCell ⟨w.heap.size + 1, 1, none⟩ (.slice n_o n_n n_c)).setCell ⟨w.heap.size + 1, 2, none⟩ (.int .i64 n_e)).drew.cell? ⟨w1.heap.size, 2, none⟩ = some (.int .i64 n_e) := ⟨(cell_dr _ _).trans k2.1, (cell_dr _ _).trans k2.2.1, (cell_dr _ _).trans k2.2.2⟩
          go_wp2_with fail
          go_region_held3 (fun W => W.cell? ⟨w1.heap.size, 0, none⟩ = some (.bool n_g) ∧ W.cell? ⟨w1.heap.size, 1, none⟩ = some (.slice n_o n_n n_c) ∧ W.cell? ⟨w1.heap.size, 2, none⟩ = some (.int .i64 n_e))
            (first | with_reducible assumption | with_reducible exact K0 | with_reducible exact K1 | with_reducible exact K2 | fail)
            (fail)
          have S1 := q_heap_set (q_heap_set A0 0 (.int .i64 lo)) 1 (.int .i64 hi)
          have hx10 : w.heap.size ≠ w.heap.size + 1 := by omega
          have S2 : (((((wr.setCell ⟨w.heap.size, 0, none⟩ (.int .i64 lo)).setCell ⟨w.heap.size, 1, none⟩ (.int .i64 hi)).setCell ⟨w.heap.size + 1, 0, none⟩ (.bool n_g)).setCell ⟨w.heap.size + 1, 1, none⟩ (.slice n_o n_n n_c)).setCell ⟨w.heap.size + 1, 2, none⟩ (.int .i64 n_e)).heap[w.heap.size]? = some (.cells #[.int .i64 lo, .int .i64 hi] 23 (0, 0)) := by
            rw [heap_setCell_other _ ⟨w.heap.size + 1, _, none⟩ w.heap.size _ hx10, heap_setCell_other _ ⟨w.heap.size + 1, _, none⟩ w.heap.size _ hx10, heap_setCell_other _ ⟨w.heap.size + 1, _, none⟩ w.heap.size _ hx10]
            exact S1
          have T0 : ((wr.setCell ⟨w.heap.size, 0, none⟩ (.int .i64 lo)).setCell ⟨w.heap.size, 1, none⟩ (.int .i64 hi)).heap[w.heap.size + 1]? = some (.cells #[.bool false, .slice none 0 0, .int .i64 0] 26 (0, 0)) := by
            rw [heap_setCell_other _ ⟨w.heap.size, _, none⟩ (w.heap.size + 1) _ (Ne.symm hx10), heap_setCell_other _ ⟨w.heap.size, _, none⟩ (w.heap.size + 1) _ (Ne.symm hx10)]
            exact A1
          have T3 := q_heap_set (q_heap_set (q_heap_set T0 0 (.bool n_g)) 1 (.slice n_o n_n n_c)) 2 (.int .i64 n_e)
          have W1 : Wr w.heap.size wr ((wr.setCell ⟨w.heap.size, 0, none⟩ (.int .i64 lo)).setCell ⟨w.heap.size, 1, none⟩ (.int .i64 hi)) := ((Wr.refl w.heap.size wr).setCell 0 _).setCell 1 _
          have W2 : Wr (w.heap.size + 1) ((wr.setCell ⟨w.heap.size, 0, none⟩ (.int .i64 lo)).setCell ⟨w.heap.size, 1, none⟩ (.int .i64 hi)) (((((wr.setCell ⟨w.heap.size, 0, none⟩ (.int .i64 lo)).setCell ⟨w.heap.size, 1, none⟩ (.int .i64 hi)).setCell ⟨w.heap.size + 1, 0, none⟩ (.bool n_g)).setCell ⟨w.heap.size + 1, 1, none⟩ (.slice n_o n_n n_c)).setCell ⟨w.heap.size + 1, 2, none⟩ (.int .i64 n_e)) := wr3 _ _ _ _ _ _ _ _
          have DD := ((D2.dan.wr W1 l0).wr W2 l1)
          have hB := bel_trans hb2 hcq
          have hBe := bel_set3' (o0 := 0) (o1 := 1) (o2 := 2) ((hB.setCell (p := ⟨w.heap.size, 0, none⟩) (Nat.le_refl _) (.int .i64 lo)).setCell (p := ⟨w.heap.size, 1, none⟩) (Nat.le_refl _) (.int .i64 hi)) (Nat.le_succ _) (.bool n_g) (.slice n_o n_n n_c) (.int .i64 n_e)
          have e0 : ((((((wr.setCell ⟨w.heap.size, 0, none⟩ (.int .i64 lo)).setCell ⟨w.heap.size, 1, none⟩ (.int .i64 hi)).setCell ⟨w.heap.size + 1, 0, none⟩ (.bool n_g)).setCell ⟨w.heap.size + 1, 1, none⟩ (.slice n_o n_n n_c)).setCell ⟨w.heap.size + 1, 2, none⟩ (.int .i64 n_e)).drew).cell? ⟨w.heap.size, 0, none⟩ = some (.int .i64 lo) := (cell_dr _ _).trans (blkC S2 0 rfl)
          have e1 : ((((((wr.setCell ⟨w.heap.size, 0, none⟩ (.int .i64 lo)).setCell ⟨w.heap.size, 1, none⟩ (.int .i64 hi)).setCell ⟨w.heap.size + 1, 0, none⟩ (.bool n_g)).setCell ⟨w.heap.size + 1, 1, none⟩ (.slice n_o n_n n_c)).setCell ⟨w.heap.size + 1, 2, none⟩ (.int .i64 n_e)).drew).cell? ⟨w.heap.size, 1, none⟩ = some (.int .i64 hi) := (cell_dr _ _).trans (blkC S2 1 rfl)
          have e2 : ((((((wr.setCell ⟨w.heap.size, 0, none⟩ (.int .i64 lo)).setCell ⟨w.heap.size, 1, none⟩ (.int .i64 hi)).setCell ⟨w.heap.size + 1, 0, none⟩ (.bool n_g)).setCell ⟨w.heap.size + 1, 1, none⟩ (.slice n_o n_n n_c)).setCell ⟨w.heap.size + 1, 2, none⟩ (.int .i64 n_e)).drew).cell? ⟨w.heap.size + 1, 0, none⟩ = some (.bool n_g) := (cell_dr _ _).trans (blkC T3 0 rfl)
          have e3 : ((((((wr.setCell ⟨w.heap.size, 0, none⟩ (.int .i64 lo)).setCell ⟨w.heap.size, 1, none⟩ (.int .i64 hi)).setCell ⟨w.heap.size + 1, 0, none⟩ (.bool n_g)).setCell ⟨w.heap.size + 1, 1, none⟩ (.slice n_o n_n n_c)).setCell ⟨w.heap.size + 1, 2, none⟩ (.int .i64 n_e)).drew).cell? ⟨w.heap.size + 1, 1, none⟩ = some (.slice n_o n_n n_c) := (cell_dr _ _).trans (blkC T3 1 rfl)
          have e4 : ((((((wr.setCell ⟨w.heap.size, 0, none⟩ (.int .i64 lo)).setCell ⟨w.heap.size, 1, none⟩ (.int .i64 hi)).setCell ⟨w.heap.size + 1, 0, none⟩ (.bool n_g)).setCell ⟨w.heap.size + 1, 1, none⟩ (.slice n_o n_n n_c)).setCell ⟨w.heap.size + 1, 2, none⟩ (.int .i64 n_e)).drew).cell? ⟨w.heap.size + 1, 2, none⟩ = some (.int .i64 n_e) := (cell_dr _ _).trans (blkC T3 2 rfl)
          have DE : DNum ((((((wr.setCell ⟨w.heap.size, 0, none⟩ (.int .i64 lo)).setCell ⟨w.heap.size, 1, none⟩ (.int .i64 hi)).setCell ⟨w.heap.size + 1, 0, none⟩ (.bool n_g)).setCell ⟨w.heap.size + 1, 1, none⟩ (.slice n_o n_n n_c)).setCell ⟨w.heap.size + 1, 2, none⟩ (.int .i64 n_e)).drew) (.agg #[.bool n_g, .slice n_o n_n n_c, .int .i64 n_e]) (patV b) := DD.num.keeps (bel_refl _).drew
          have hBe' := hBe.drew
          clear S1 S2 T0 T3 W1 W2 DD hBe
          generalize (((((wr.setCell ⟨w.heap.size, 0, none⟩ (.int .i64 lo)).setCell ⟨w.heap.size, 1, none⟩ (.int .i64 hi)).setCell ⟨w.heap.size + 1, 0, none⟩ (.bool n_g)).setCell ⟨w.heap.size + 1, 1, none⟩ (.slice n_o n_n n_c)).setCell ⟨w.heap.size + 1, 2, none⟩ (.int .i64 n_e)).drew = Y at e0 e1 e2 e3 e4 DE hBe' ⊢
          go_wp2
          refine bodyPost_ret (v := .tuple #[.agg #[.int .i64 lo, .int .i64 hi], .agg #[.bool n_g, .slice n_o n_n n_c, .int .i64 n_e], .bool true]) (by simp [results, Tryz.results5, go_sem, e0, e1, e2, e3, e4]) rfl ⟨_, _, _, rfl, hlo.out, hhi.out, DE, ⟨_, _, _, _, _, rfl⟩, hBe'⟩
end Go.Proofs.YtmpioejllfedoaaGreatDoor

/-
  plumblaw8's around of what is no finite float, with any steps, by its contract (tools/s_aro3.py).
-/
namespace Go.Proofs.YtmpioejllfedoaaGreatDoor
open Go Go.RowKit Go.Proofs.YtmpioejllfedoaaGreatDoor.M
set_option linter.unusedSimpArgs false
set_option linter.unusedVariables false

set_option maxRecDepth 100000 in
set_option maxHeartbeats 2000000 in
theorem around_none {b x y : Int} (rb : rng b) (hp : pok b = false) (rx : rng x) (ry : rng y) (w : World) (H : Hold4 w) :
    Calls Tryz.prog 5 #[.int .i64 b, .int .i64 x, .int .i64 y] w fun r w' => ∃ lo hi : Int, r = .returned (.tuple #[.agg #[.int .i64 lo, .int .i64 hi], .agg #[.bool false, .slice none 0 0, .int .i64 0], .bool false]) ∧ Below w.heap.size w w' := by
  have CO : Hid (∀ W, Hold4 W → Calls Tryz.prog 21 #[.int .i64 b] W fun r w' => r = .returned (.tuple #[.agg #[.bool false, .slice none 0 0, .int .i64 0], .int .i64 10]) ∧ Below W.heap.size W w') := fun W h => of_no hp h
  obtain ⟨M, hM, hM7⟩ := and7 rx
  obtain ⟨N, hN, hN7⟩ := and7 ry
  have CP : Hid (∀ q, rng q → ∀ W, Hold4 W → Calls Tryz.prog 22 #[.int .i64 q] W fun e w' => e = .returned (.int .i64 (prev q)) ∧ Below W.heap.size W w') := fun q hq W h => prev_B hq h
  have CN : Hid (∀ q, rng q → ∀ W, Hold4 W → Calls Tryz.prog 23 #[.int .i64 q] W fun e w' => e = .returned (.int .i64 (next q)) ∧ Below W.heap.size W w') := fun q hq W h => next_B hq h
  have hb2 := bel_alloc2 w (.cells #[.int .i64 0, .int .i64 0] 23) (.cells #[.bool false, .slice none 0 0, .int .i64 0] 26)
  have q0 := heap_a2 w (.cells #[.int .i64 0, .int .i64 0] 23) (.cells #[.bool false, .slice none 0 0, .int .i64 0] 26)
  have q1 := heap_b2 w (.cells #[.int .i64 0, .int .i64 0] 23) (.cells #[.bool false, .slice none 0 0, .int .i64 0] 26)
  go_enter Tryz.func5, Tryz.ntmps5
  go_wp2_with fail
  generalize (w.alloc (.cells #[.int .i64 0, .int .i64 0] 23)).alloc (.cells #[.bool false, .slice none 0 0, .int .i64 0] 26) = x0 at hb2 q0 q1 ⊢
  refine (CO.out _ (H.keeps hb2)).mono ?_
  rintro _ w1 ⟨rfl, hbD⟩
  have x_k := heap_a1 w1 (.cells #[.bool false, .slice none 0 0, .int .i64 0] 26)
  have hc1 := al1 hbD (.cells #[.bool false, .slice none 0 0, .int .i64 0] 26)
  go_wp2_with fail
  generalize w1.alloc (.cells #[.bool false, .slice none 0 0, .int .i64 0] 26) = x1 at x_k hc1 ⊢
  go_loopw [13, 11] (fun iv lv wr => ∃ (k : Nat) (lo : Int), k ≤ M ∧ iv = .int .i64 k ∧ lv = .int .i64 lo ∧ Hid (rng lo ∧ True) ∧ Below x1.heap.size x1 wr) (fun iv _ _ => M - (intOf iv).toNat)
  case atStart => exact ⟨0, b, Nat.zero_le _, rfl, rfl, ⟨rb, trivial⟩, bel_refl _⟩
  case round =>
    obtain ⟨k, lo, hk, rfl, rfl, hlo, hbr⟩ := hrel
    by_cases hkM : k < M
    · have hp1 := CP.out lo hlo.out.1 wr (H.keeps (bel_trans (bel_trans hb2 hc1) hbr))
      have CPW := hideIt hp1
      clear hp1
      go_wp2_with fail
      refine CPW.out.mono ?_
      rintro _ wz ⟨rfl, hbz⟩
      go_wp2_with fail
      go_roundw
      case rel => exact ⟨k + 1, prev lo, by omega, by go_num, rfl, ⟨rng_prev' hlo.out.1, trivial⟩, bel_trans hbr hbz⟩
      case measure => simp [intOf]; omega
    · have hMk : k = M := by omega
      subst hMk
      go_wp2_with fail
      go_loopw [14, 12] (fun iv lv wq => ∃ (l : Nat) (hi : Int), l ≤ N ∧ iv = .int .i64 l ∧ lv = .int .i64 hi ∧ Hid (rng hi ∧ True) ∧ Below x1.heap.size x1 wq) (fun iv _ _ => N - (intOf iv).toNat)
      case atStart => exact ⟨0, b, Nat.zero_le _, rfl, rfl, ⟨rb, trivial⟩, hbr⟩
      case round =>
        obtain ⟨l, hi, hl, rfl, rfl, hhi, hbq⟩ := hrel
        by_cases hlN : l < N
        · have hp1 := CN.out hi hhi.out.1 wr (H.keeps (bel_trans (bel_trans hb2 hc1) hbq))
          have CPW := hideIt hp1
          clear hp1
          go_wp2_with fail
          refine CPW.out.mono ?_
          rintro _ wz ⟨rfl, hbz⟩
          go_wp2_with fail
          go_roundw
          case rel => exact ⟨l + 1, next hi, by omega, by go_num, rfl, ⟨rng_next hhi.out.1, trivial⟩, bel_trans hbq hbz⟩
          case measure => simp [intOf]; omega
        · have hNl : l = N := by omega
          subst hNl
          have hcq := bel_trans hc1 hbq
          have x_q := blk_up hbq x_k
          clear CP CN CO
          have l0 := (Array.getElem?_eq_some_iff.1 q0).1
          have l1 := (Array.getElem?_eq_some_iff.1 q1).1
          have A0 := blk_up hcq q0
          have A1 := blk_up hcq q1
          have x0' := blkC x_q 0 rfl
          have x1' := blkC x_q 1 rfl
          have x2' := blkC x_q 2 rfl
          have a0 := blkC A0 0 rfl
          have a1 := blkC A0 1 rfl
          have a2 := blkF A0 0
          have a3 := blkF A0 1
          have b0 := blkC A1 0 rfl
          have b1 := blkC A1 1 rfl
          have b2 := blkC A1 2 rfl
          have b3 := blkF A1 0
          have b4 := blkF A1 1
          have b5 := blkF A1 2
          have hn1 : w.heap.size ≠ w1.heap.size := by have := hbD.size; omega
          have hn2 : w.heap.size + 1 ≠ w1.heap.size := by have := hbD.size; omega
          have k0 : wr.cell? ⟨w1.heap.size, 0, none⟩ = some (.bool false) ∧ wr.cell? ⟨w1.heap.size, 1, none⟩ = some (.slice none 0 0) ∧ wr.cell? ⟨w1.heap.size, 2, none⟩ = some (.int .i64 0) := ⟨x0', x1', x2'⟩
          have K0 : wr.drew.cell? ⟨w1.heap.size, 0, none⟩ = some (.bool false) ∧ wr.drew.cell? ⟨w1.heap.size, 1, none⟩ = some (.slice none 0 0) ∧ wr.drew.cell? ⟨w1.heap.size, 2, none⟩ = some (.int .i64 0) := k0
          have k1 : ((wr.setCell ⟨w.heap.size, 0, none⟩ (.int .i64 lo)).setCell ⟨w.heap.size, 1, none⟩ (.int .i64 hi)).cell? ⟨w1.heap.size, 0, none⟩ = some (.bool false) ∧ ((wr.setCell ⟨w.heap.size, 0, none⟩ (.int .i64 lo)).setCell ⟨w.heap.size, 1, none⟩ (.int .i64 hi)).cell? ⟨w1.heap.size, 1, none⟩ = some (.slice none 0 0) ∧ ((wr.setCell ⟨w.heap.size, 0, none⟩ (.int .i64 lo)).setCell ⟨w.heap.size, 1, none⟩ (.int .i64 hi)).cell? ⟨w1.heap.size, 2, none⟩ = some (.int .i64 0) := keep3R k0 (((Wr.refl w.heap.size wr).setCell 0 _).setCell 1 _) (Ne.symm hn1)
          have K1 : ((wr.setCell ⟨w.heap.size, 0, none⟩ (.int .i64 lo)).setCell ⟨w.heap.size, 1, none⟩ (.int .i64 hi)).drew.cell? ⟨w1.heap.size, 0, none⟩ = some (.bool false) ∧ ((wr.setCell ⟨w.heap.size, 0, none⟩ (.int .i64 lo)).setCell ⟨w.heap.size, 1, none⟩ (.int .i64 hi)).drew.cell? ⟨w1.heap.size, 1, none⟩ = some (.slice none 0 0) ∧ ((wr.setCell ⟨w.heap.size, 0, none⟩ (.int .i64 lo)).setCell ⟨w.heap.size, 1, none⟩ (.int .i64 hi)).drew.cell? ⟨w1.heap.size, 2, none⟩ = some (.int .i64 0) := ⟨(cell_dr _ _).trans k1.1, (cell_dr _ _).trans k1.2.1, (cell_dr _ _).trans k1.2.2⟩
          have k2 : (((((wr.setCell ⟨w.heap.size, 0, none⟩ (.int .i64 lo)).setCell ⟨w.heap.size, 1, none⟩ (.int .i64 hi)).setCell ⟨w.heap.size + 1, 0, none⟩ (.bool false)).setCell ⟨w.heap.size + 1, 1, none⟩ (.slice none 0 0)).setCell ⟨w.heap.size + 1, 2, none⟩ (.int .i64 0)).cell? ⟨w1.heap.size, 0, none⟩ = some (.bool false) ∧ (((((wr.setCell ⟨w.heap.size, 0, none⟩ (.int .i64 lo)).setCell ⟨w.heap.size, 1, none⟩ (.int .i64 hi)).setCell ⟨w.heap.size + 1, 0, none⟩ (.bool false)).setCell ⟨w.heap.size + 1, 1, none⟩ (.slice none 0 0)).setCell ⟨w.heap.size + 1, 2, none⟩ (.int .i64 0)).cell? ⟨w1.heap.size, 1, none⟩ = some (.slice none 0 0) ∧ (((((wr.setCell ⟨w.heap.size, 0, none⟩ (.int .i64 lo)).setCell ⟨w.heap.size, 1, none⟩ (.int .i64 hi)).setCell ⟨w.heap.size + 1, 0, none⟩ (.bool false)).setCell ⟨w.heap.size + 1, 1, none⟩ (.slice none 0 0)).setCell ⟨w.heap.size + 1, 2, none⟩ (.int .i64 0)).cell? ⟨w1.heap.size, 2, none⟩ = some (.int .i64 0) := keep3R k1 (wr3 _ _ _ _ _ _ _ _) (Ne.symm hn2)
          have K2 : (((((wr.setCell ⟨w.heap.size, 0, none⟩ (.int .i64 lo)).setCell ⟨w.heap.size, 1, none⟩ (.int .i64 hi)).setCell ⟨w.heap.size + 1, 0, none⟩ (.bool false)).setCell ⟨w.heap.size + 1, 1, none⟩ (.slice none 0 0)).setCell ⟨w.heap.size + 1, 2, none⟩ (.int .i64 0)).drew.cell? ⟨w1.heap.size, 0, none⟩ = some (.bool false) ∧ (((((wr.setCell ⟨w.heap.size, 0, none⟩ (.int .i64 lo)).setCell ⟨w.heap.size, 1, none⟩ (.int .i64 hi)).setCell ⟨w.heap.size + 1, 0, none⟩ (.bool false)).setCell ⟨w.heap.size + 1, 1, none⟩ (.slice none 0 0)).setCell ⟨w.heap.size + 1, 2, none⟩ (.int .i64 0)).drew.cell? ⟨w1.heap.size, 1, none⟩ = some (.slice none 0 0) ∧ (((((wr.setCell ⟨w.heap.size, 0, none⟩ (.int .i64 lo)).setCell ⟨w.heap.size, 1, none⟩ (.int .i64 hi)).setCell ⟨w.heap.size + 1, 0, none⟩ (.bool false)).setCell ⟨w.heap.size + 1, 1, none⟩ (.slice none 0 0)).setCell ⟨w.heap.size + 1, 2, none⟩ (.int .i64 0)).drew.cell? ⟨w1.heap.size, 2, none⟩ = some (.int .i64 0) := ⟨(cell_dr _ _).trans k2.1, (cell_dr _ _).trans k2.2.1, (cell_dr _ _).trans k2.2.2⟩
          go_wp2_with fail
          go_region_held3 (fun W => W.cell? ⟨w1.heap.size, 0, none⟩ = some (.bool false) ∧ W.cell? ⟨w1.heap.size, 1, none⟩ = some (.slice none 0 0) ∧ W.cell? ⟨w1.heap.size, 2, none⟩ = some (.int .i64 0))
            (first | with_reducible assumption | with_reducible exact K0 | with_reducible exact K1 | with_reducible exact K2 | fail)
            (fail)
          have S1 := q_heap_set (q_heap_set A0 0 (.int .i64 lo)) 1 (.int .i64 hi)
          have hx10 : w.heap.size ≠ w.heap.size + 1 := by omega
          have S2 : (((((wr.setCell ⟨w.heap.size, 0, none⟩ (.int .i64 lo)).setCell ⟨w.heap.size, 1, none⟩ (.int .i64 hi)).setCell ⟨w.heap.size + 1, 0, none⟩ (.bool false)).setCell ⟨w.heap.size + 1, 1, none⟩ (.slice none 0 0)).setCell ⟨w.heap.size + 1, 2, none⟩ (.int .i64 0)).heap[w.heap.size]? = some (.cells #[.int .i64 lo, .int .i64 hi] 23 (0, 0)) := by
            rw [heap_setCell_other _ ⟨w.heap.size + 1, _, none⟩ w.heap.size _ hx10, heap_setCell_other _ ⟨w.heap.size + 1, _, none⟩ w.heap.size _ hx10, heap_setCell_other _ ⟨w.heap.size + 1, _, none⟩ w.heap.size _ hx10]
            exact S1
          have T0 : ((wr.setCell ⟨w.heap.size, 0, none⟩ (.int .i64 lo)).setCell ⟨w.heap.size, 1, none⟩ (.int .i64 hi)).heap[w.heap.size + 1]? = some (.cells #[.bool false, .slice none 0 0, .int .i64 0] 26 (0, 0)) := by
            rw [heap_setCell_other _ ⟨w.heap.size, _, none⟩ (w.heap.size + 1) _ (Ne.symm hx10), heap_setCell_other _ ⟨w.heap.size, _, none⟩ (w.heap.size + 1) _ (Ne.symm hx10)]
            exact A1
          have T3 := q_heap_set (q_heap_set (q_heap_set T0 0 (.bool false)) 1 (.slice none 0 0)) 2 (.int .i64 0)
          have hB := bel_trans hb2 hcq
          have hBe := bel_set3' (o0 := 0) (o1 := 1) (o2 := 2) ((hB.setCell (p := ⟨w.heap.size, 0, none⟩) (Nat.le_refl _) (.int .i64 lo)).setCell (p := ⟨w.heap.size, 1, none⟩) (Nat.le_refl _) (.int .i64 hi)) (Nat.le_succ _) (.bool false) (.slice none 0 0) (.int .i64 0)
          have e0 : ((((((wr.setCell ⟨w.heap.size, 0, none⟩ (.int .i64 lo)).setCell ⟨w.heap.size, 1, none⟩ (.int .i64 hi)).setCell ⟨w.heap.size + 1, 0, none⟩ (.bool false)).setCell ⟨w.heap.size + 1, 1, none⟩ (.slice none 0 0)).setCell ⟨w.heap.size + 1, 2, none⟩ (.int .i64 0)).drew).cell? ⟨w.heap.size, 0, none⟩ = some (.int .i64 lo) := (cell_dr _ _).trans (blkC S2 0 rfl)
          have e1 : ((((((wr.setCell ⟨w.heap.size, 0, none⟩ (.int .i64 lo)).setCell ⟨w.heap.size, 1, none⟩ (.int .i64 hi)).setCell ⟨w.heap.size + 1, 0, none⟩ (.bool false)).setCell ⟨w.heap.size + 1, 1, none⟩ (.slice none 0 0)).setCell ⟨w.heap.size + 1, 2, none⟩ (.int .i64 0)).drew).cell? ⟨w.heap.size, 1, none⟩ = some (.int .i64 hi) := (cell_dr _ _).trans (blkC S2 1 rfl)
          have e2 : ((((((wr.setCell ⟨w.heap.size, 0, none⟩ (.int .i64 lo)).setCell ⟨w.heap.size, 1, none⟩ (.int .i64 hi)).setCell ⟨w.heap.size + 1, 0, none⟩ (.bool false)).setCell ⟨w.heap.size + 1, 1, none⟩ (.slice none 0 0)).setCell ⟨w.heap.size + 1, 2, none⟩ (.int .i64 0)).drew).cell? ⟨w.heap.size + 1, 0, none⟩ = some (.bool false) := (cell_dr _ _).trans (blkC T3 0 rfl)
          have e3 : ((((((wr.setCell ⟨w.heap.size, 0, none⟩ (.int .i64 lo)).setCell ⟨w.heap.size, 1, none⟩ (.int .i64 hi)).setCell ⟨w.heap.size + 1, 0, none⟩ (.bool false)).setCell ⟨w.heap.size + 1, 1, none⟩ (.slice none 0 0)).setCell ⟨w.heap.size + 1, 2, none⟩ (.int .i64 0)).drew).cell? ⟨w.heap.size + 1, 1, none⟩ = some (.slice none 0 0) := (cell_dr _ _).trans (blkC T3 1 rfl)
          have e4 : ((((((wr.setCell ⟨w.heap.size, 0, none⟩ (.int .i64 lo)).setCell ⟨w.heap.size, 1, none⟩ (.int .i64 hi)).setCell ⟨w.heap.size + 1, 0, none⟩ (.bool false)).setCell ⟨w.heap.size + 1, 1, none⟩ (.slice none 0 0)).setCell ⟨w.heap.size + 1, 2, none⟩ (.int .i64 0)).drew).cell? ⟨w.heap.size + 1, 2, none⟩ = some (.int .i64 0) := (cell_dr _ _).trans (blkC T3 2 rfl)
          have hBe' := hBe.drew
          clear S1 S2 T0 T3 hBe
          generalize (((((wr.setCell ⟨w.heap.size, 0, none⟩ (.int .i64 lo)).setCell ⟨w.heap.size, 1, none⟩ (.int .i64 hi)).setCell ⟨w.heap.size + 1, 0, none⟩ (.bool false)).setCell ⟨w.heap.size + 1, 1, none⟩ (.slice none 0 0)).setCell ⟨w.heap.size + 1, 2, none⟩ (.int .i64 0)).drew = Y at e0 e1 e2 e3 e4 hBe' ⊢
          go_wp2
          refine bodyPost_ret (v := .tuple #[.agg #[.int .i64 lo, .int .i64 hi], .agg #[.bool false, .slice none 0 0, .int .i64 0], .bool false]) (by simp [results, Tryz.results5, go_sem, e0, e1, e2, e3, e4]) rfl ⟨_, _, rfl, hBe'⟩
end Go.Proofs.YtmpioejllfedoaaGreatDoor
