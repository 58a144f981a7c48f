/-
  plumblaw3.lists, by its contract. (Written by tools/dy_lists.py.)
-/
import Derived.Test.YtnhkagiionkjaaaGreatDoorPart16
namespace Go.Proofs.YtnhkagiionkjaaaGreatDoor
open Go Go.RowKit Go.Proofs.YtnhkagiionkjaaaGreatDoor.M
set_option linter.unusedSimpArgs false
set_option linter.unusedVariables false

set_option maxRecDepth 100000 in
set_option maxHeartbeats 8000000 in
theorem lists_any {w0 : World} (ao bo : Option Addr) (n m ca cb : Nat) (a b : Nat → NumR) (ha : Nums w0 ao n ca a) (hb : Nums w0 bo m cb b) (la : ∀ i, i < n → Lgt (a i)) (lb : ∀ i, i < m → Lgt (b i)) (hn : n ≤ 500) (hm : m ≤ 500) (w : World) (hb0 : Below w0.heap.size w0 w) {k : Nat} {S : Nat → Prop} (hk : Kept w0.heap.size w k S) (hT : Tab w0) :
    Calls Tryz.prog 9 #[.pointer (some ⟨k, 0, none⟩), .slice ao n ca, .slice bo m cb] w fun r w' => r = .returned (.bool true) ∧ Below w0.heap.size w0 w' ∧ (∃ S', Kept w0.heap.size w' k S') ∧ Fr w w' := by
  have hal := ha.le
  have ham := ha.max
  have hbl := hb.le
  have hbm := hb.max
  have HK : Hid (Kept w0.heap.size w k (fun g => g < w.heap.size)) := hk.old
  clear hk
  obtain ⟨r, hr⟩ : ∃ r, r = bothR a b n := ⟨_, rfl⟩
  have HR : Hid (r = bothR a b n) := hr
  clear hr
  go_enter Tryz.func9, Tryz.ntmps9
  go_wp2_with fail
  go_loopw [7, 9, 11, 12] (fun bv xv mv iv wr => ∃ (j : Nat) (bd : Bool) (g cap : Nat → Nat), j ≤ n ∧ iv = .int .i64 j ∧ bv = .bool bd ∧ Hid (bd = !allOk a j) ∧ Hid (LSt w.heap.size wr r g cap j j j n 0 xv (.slice none 0 0) mv) ∧ Below w.heap.size w wr) (fun _ _ _ iv _ => n - (intOf iv).toNat)
  case atStart => exact ⟨0, false, fun _ => 0, fun _ => 0, Nat.zero_le _, rfl, rfl, by rw [allOk_zero]; rfl, LSt.nil _ _ _ _ _ _, bel_refl _⟩
  case round =>
    obtain ⟨j, bd, g, cap, hj, rfl, rfl, HBD, HL, hbw⟩ := hrel
    have hbr : Below w0.heap.size w0 wr := hb0.trans (hbw.mono hb0.size)
    by_cases hlt : j < n
    · obtain ⟨ba, oa, rfl, hba, hca⟩ := ha.spot (by omega)
      obtain ⟨c0, c1, c2, hR⟩ := (hca j hlt).keeps hbr hba
      have HRJ : Hid (r (j) = a j) := (by rw [HR.out]; exact bothR_lt hlt)
      have hla := (la j hlt).1
      have HS : Hid (allOk a (j + 1) = (allOk a j && okR (a j))) := allOk_step a j
      clear hca
      have CV := fun W (hb : Below wr.heap.size wr W) => rvalid3_any (a j) W (hR.keeps hb)
      have CL := fun W (hb : Below wr.heap.size wr W) => lent3_any (a j) W (hR.keeps hb) (by omega)
      clear hR
      generalize hx : a j = x at HRJ HS CV CL hla c0 c1 c2
      obtain ⟨ok, hok⟩ : ∃ ok, okR x = ok := ⟨_, rfl⟩
      rw [hok] at CV
      have HOK : Hid (okR x = ok) := hok
      clear hok hx
      unfold NumR.v at CV CL
      obtain ⟨q_g, q_o, q_n, q_c, q_d, q_e⟩ := x
      simp only at c0 c1 c2 CV CL hla
      cases bd
      · go_wp2_with (first | (have _t := HL3; at_builtin; have hbB := bel_alloc w3 (.cells #[.bool q_g, .slice (some ⟨lg, 0, none⟩) q_n lc, .int .i64 q_e] 25); have L4 := HL3.out.keeps hbB; have hb4 := hb3.trans (hbB.mono hb3.size); refine wpList_appN rfl _ _ rfl w.heap.size _ j (fun i => (lentR r (updV g (j) lg) (updV cap (j) lc) i).v) rfl L4.xs _ 1 1 (fun _ => (.agg #[.bool q_g, .slice (some ⟨lg, 0, none⟩) q_n lc, .int .i64 q_e])) (fun _ _ => ⟨_, _, _, _, _, rfl⟩) rfl (lit_cells rfl (heap_a1 _ _)) (by omega) hb4.size ?_; intro xv' w4 hOx hgx hvx; obtain ⟨L5, hb5⟩ := L4.xapp2 hOx hgx hvx (lent_new (q := ⟨q_g, q_o, q_n, q_c, q_d, q_e⟩) HRJ.out) hb4 hb4.size; have HL5 : Hid _ := L5; clear L4 L5 hOx hgx hvx) | (have _t := HO; at_builtin; obtain ⟨L2, hb2a, hB2⟩ := LSt.lent2 (w := w) (q := ⟨q_g, q_o, q_n, q_c, q_d, q_e⟩) (lg := lg) (lc := lc) HL.out hbw (Nat.le_refl _) hb1 hb2 HO.out HRJ.out (by omega) (by omega) (fun _ => by omega) (.cells #[.bool q_g, .slice (some ⟨lg, 0, none⟩) q_n lc, .int .i64 q_e] 25) (.cells #[.slice (some ⟨lg, 0, none⟩) (q_n + 3) lc] 23); refine wpList_appV rfl _ _ rfl w.heap.size _ (j) (markV r (updV g (j) lg) (updV cap (j) lc)) rfl L2.mks _ _ rfl (cell_one _ _ _ (by simp)) rfl (by omega) hB2 ?_; intro mv' w3 hOm hgm hvm; obtain ⟨L3, hb3, hN3⟩ := L2.mark2 hOm hgm (mark_new (q := ⟨q_g, q_o, q_n, q_c, q_d, q_e⟩) HRJ.out) hb2a hB2; have HL3 : Hid _ := L3; have nk := hN3 _ _ _ (heap_a2 w2 (.cells #[.bool q_g, .slice (some ⟨lg, 0, none⟩) q_n lc, .int .i64 q_e] 25) (.cells #[.slice (some ⟨lg, 0, none⟩) (q_n + 3) lc] 23)); have f0 := blkC nk 0 rfl; have f1 := blkC nk 1 rfl; have f2 := blkC nk 2 rfl; clear L2 L3 hOm hgm hvm nk hb2a hB2 hN3) | (go_at_call 27; have _t := hb1; refine (CL _ hb1).mono ?_; rintro _ w2 ⟨lg, lc, rfl, hO, hb2⟩; have HO : Hid (Out w1.heap.size w2 (.slice (some ⟨lg, 0, none⟩) (q_n + 3) lc) (q_n + 3) (lentD q_d q_n)) := hO; clear hO) | (go_at_call 11; refine (CV _ (bel_refl _)).mono ?_; rintro _ w1 ⟨rfl, hb1⟩; have c0' := cell_keeps c0 hb1; have c1' := cell_keeps c1 hb1; have c2' := cell_keeps c2 hb1))
        go_roundw
        case rel => exact ⟨j + 1, !ok, updV g (j) lg, updV cap (j) lc, by omega, by go_num, rfl, bad_step0 HBD.out HS.out HOK.out, HL5, hb5⟩
        case measure => simp [intOf]; omega
      · obtain ⟨w1, hw1⟩ : ∃ w1, w1 = wr := ⟨_, rfl⟩
        have hb1 : Below wr.heap.size wr w1 := hw1 ▸ bel_refl wr
        have HW1 : Hid (w1 = wr) := hw1
        have c0' := cell_keeps c0 hb1
        have c1' := cell_keeps c1 hb1
        have c2' := cell_keeps c2 hb1
        clear hw1
        go_wp2_with (first | (have _t := HL3; at_builtin; have hbB := bel_alloc w3 (.cells #[.bool q_g, .slice (some ⟨lg, 0, none⟩) q_n lc, .int .i64 q_e] 25); have L4 := HL3.out.keeps hbB; have hb4 := hb3.trans (hbB.mono hb3.size); refine wpList_appN rfl _ _ rfl w.heap.size _ j (fun i => (lentR r (updV g (j) lg) (updV cap (j) lc) i).v) rfl L4.xs _ 1 1 (fun _ => (.agg #[.bool q_g, .slice (some ⟨lg, 0, none⟩) q_n lc, .int .i64 q_e])) (fun _ _ => ⟨_, _, _, _, _, rfl⟩) rfl (lit_cells rfl (heap_a1 _ _)) (by omega) hb4.size ?_; intro xv' w4 hOx hgx hvx; obtain ⟨L5, hb5⟩ := L4.xapp2 hOx hgx hvx (lent_new (q := ⟨q_g, q_o, q_n, q_c, q_d, q_e⟩) HRJ.out) hb4 hb4.size; have HL5 : Hid _ := L5; clear L4 L5 hOx hgx hvx) | (have _t := HO; at_builtin; obtain ⟨L2, hb2a, hB2⟩ := LSt.lent2 (w := w) (q := ⟨q_g, q_o, q_n, q_c, q_d, q_e⟩) (lg := lg) (lc := lc) HL.out hbw (Nat.le_refl _) hb1 hb2 HO.out HRJ.out (by omega) (by omega) (fun _ => by omega) (.cells #[.bool q_g, .slice (some ⟨lg, 0, none⟩) q_n lc, .int .i64 q_e] 25) (.cells #[.slice (some ⟨lg, 0, none⟩) (q_n + 3) lc] 23); refine wpList_appV rfl _ _ rfl w.heap.size _ (j) (markV r (updV g (j) lg) (updV cap (j) lc)) rfl L2.mks _ _ rfl (cell_one _ _ _ (by simp)) rfl (by omega) hB2 ?_; intro mv' w3 hOm hgm hvm; obtain ⟨L3, hb3, hN3⟩ := L2.mark2 hOm hgm (mark_new (q := ⟨q_g, q_o, q_n, q_c, q_d, q_e⟩) HRJ.out) hb2a hB2; have HL3 : Hid _ := L3; have nk := hN3 _ _ _ (heap_a2 w2 (.cells #[.bool q_g, .slice (some ⟨lg, 0, none⟩) q_n lc, .int .i64 q_e] 25) (.cells #[.slice (some ⟨lg, 0, none⟩) (q_n + 3) lc] 23)); have f0 := blkC nk 0 rfl; have f1 := blkC nk 1 rfl; have f2 := blkC nk 2 rfl; clear L2 L3 hOm hgm hvm nk hb2a hB2 hN3) | (go_at_call 27; have _t := hb1; refine (CL _ (bel_refl wr)).mono ?_; rintro _ w2 ⟨lg, lc, rfl, hO, hb2⟩; have hb2 : Below w1.heap.size w1 w2 := HW1.out.symm ▸ hb2; have HO : Hid (Out w1.heap.size w2 (.slice (some ⟨lg, 0, none⟩) (q_n + 3) lc) (q_n + 3) (lentD q_d q_n)) := HW1.out.symm ▸ hO; clear hO))
        go_roundw
        case rel => exact ⟨j + 1, true, updV g (j) lg, updV cap (j) lc, by omega, by go_num, rfl, bad_step1 HBD.out HS.out, HL5, hb5⟩
        case measure => simp [intOf]; omega
    · obtain rfl : n = j := by omega
      clear hlt hj
      have HBA : Hid (bd = !allOk a n) := HBD
      have HLA : Hid (LSt w.heap.size wr r g cap (n + 0) (n + 0) n n 0 u9 (.slice none 0 0) u11) := HL
      have hbwa := hbw
      clear HBD HL hbw hbr
      generalize hwa : wr = wa at HLA hbwa ⊢
      generalize hbad : bd = bad at HBA ⊢
      generalize hxl : u9 = xl at HLA ⊢
      clear hwa hbad hxl
      go_wp2_with fail
      go_loopw [8, 10, 11, 15] (fun bv yv mv iv wr => ∃ (j : Nat) (bd : Bool) (g cap : Nat → Nat), j ≤ m ∧ iv = .int .i64 j ∧ bv = .bool bd ∧ Hid (bd = !allOk b j) ∧ Hid (LSt w.heap.size wr r g cap (n + j) (n + j) n n j xl yv mv) ∧ Below w.heap.size w wr) (fun _ _ _ iv _ => m - (intOf iv).toNat)
      case atStart => exact ⟨0, false, g, cap, Nat.zero_le _, rfl, rfl, by rw [allOk_zero]; rfl, HLA, hbwa⟩
      case round =>
        clear HLA hbwa
        obtain ⟨j, bd, g, cap, hj, rfl, rfl, HBD, HL, hbw⟩ := hrel
        have hbr : Below w0.heap.size w0 wr := hb0.trans (hbw.mono hb0.size)
        by_cases hlt : j < m
        · obtain ⟨ba, oa, rfl, hba, hca⟩ := hb.spot (by omega)
          obtain ⟨c0, c1, c2, hR⟩ := (hca j hlt).keeps hbr hba
          have HRJ : Hid (r (n + j) = b j) := (by rw [HR.out]; exact bothR_ge)
          have hla := (lb j hlt).1
          have HS : Hid (allOk b (j + 1) = (allOk b j && okR (b j))) := allOk_step b j
          clear hca
          have CV := fun W (hb : Below wr.heap.size wr W) => rvalid3_any (b j) W (hR.keeps hb)
          have CL := fun W (hb : Below wr.heap.size wr W) => lent3_any (b j) W (hR.keeps hb) (by omega)
          clear hR
          generalize hx : b j = x at HRJ HS CV CL hla c0 c1 c2
          obtain ⟨ok, hok⟩ : ∃ ok, okR x = ok := ⟨_, rfl⟩
          rw [hok] at CV
          have HOK : Hid (okR x = ok) := hok
          clear hok hx
          unfold NumR.v at CV CL
          obtain ⟨q_g, q_o, q_n, q_c, q_d, q_e⟩ := x
          simp only at c0 c1 c2 CV CL hla
          cases bd
          · go_wp2_with (first | (have _t := HL3; at_builtin; have hbB := bel_alloc w3 (.cells #[.bool q_g, .slice (some ⟨lg, 0, none⟩) q_n lc, .int .i64 q_e] 25); have L4 := HL3.out.keeps hbB; have hb4 := hb3.trans (hbB.mono hb3.size); refine wpList_appN rfl _ _ rfl w.heap.size _ j (fun i => (lentR r (updV g (n + j) lg) (updV cap (n + j) lc) (n + i)).v) rfl L4.ys _ 1 1 (fun _ => (.agg #[.bool q_g, .slice (some ⟨lg, 0, none⟩) q_n lc, .int .i64 q_e])) (fun _ _ => ⟨_, _, _, _, _, rfl⟩) rfl (lit_cells rfl (heap_a1 _ _)) (by omega) hb4.size ?_; intro xv' w4 hOx hgx hvx; obtain ⟨L5, hb5⟩ := L4.yapp2 hOx hgx hvx (lent_new (q := ⟨q_g, q_o, q_n, q_c, q_d, q_e⟩) HRJ.out) hb4 hb4.size; have HL5 : Hid _ := L5; clear L4 L5 hOx hgx hvx) | (have _t := HO; at_builtin; obtain ⟨L2, hb2a, hB2⟩ := LSt.lent2 (w := w) (q := ⟨q_g, q_o, q_n, q_c, q_d, q_e⟩) (lg := lg) (lc := lc) HL.out hbw (Nat.le_refl _) hb1 hb2 HO.out HRJ.out (by omega) (by omega) (fun _ => by omega) (.cells #[.bool q_g, .slice (some ⟨lg, 0, none⟩) q_n lc, .int .i64 q_e] 25) (.cells #[.slice (some ⟨lg, 0, none⟩) (q_n + 3) lc] 23); refine wpList_appV rfl _ _ rfl w.heap.size _ (n + j) (markV r (updV g (n + j) lg) (updV cap (n + j) lc)) rfl L2.mks _ _ rfl (cell_one _ _ _ (by simp)) rfl (by omega) hB2 ?_; intro mv' w3 hOm hgm hvm; obtain ⟨L3, hb3, hN3⟩ := L2.mark2 hOm hgm (mark_new (q := ⟨q_g, q_o, q_n, q_c, q_d, q_e⟩) HRJ.out) hb2a hB2; have HL3 : Hid _ := L3; have nk := hN3 _ _ _ (heap_a2 w2 (.cells #[.bool q_g, .slice (some ⟨lg, 0, none⟩) q_n lc, .int .i64 q_e] 25) (.cells #[.slice (some ⟨lg, 0, none⟩) (q_n + 3) lc] 23)); have f0 := blkC nk 0 rfl; have f1 := blkC nk 1 rfl; have f2 := blkC nk 2 rfl; clear L2 L3 hOm hgm hvm nk hb2a hB2 hN3) | (go_at_call 27; have _t := hb1; refine (CL _ hb1).mono ?_; rintro _ w2 ⟨lg, lc, rfl, hO, hb2⟩; have HO : Hid (Out w1.heap.size w2 (.slice (some ⟨lg, 0, none⟩) (q_n + 3) lc) (q_n + 3) (lentD q_d q_n)) := hO; clear hO) | (go_at_call 11; refine (CV _ (bel_refl _)).mono ?_; rintro _ w1 ⟨rfl, hb1⟩; have c0' := cell_keeps c0 hb1; have c1' := cell_keeps c1 hb1; have c2' := cell_keeps c2 hb1))
            go_roundw
            case rel => exact ⟨j + 1, !ok, updV g (n + j) lg, updV cap (n + j) lc, by omega, by go_num, rfl, bad_step0 HBD.out HS.out HOK.out, HL5, hb5⟩
            case measure => simp [intOf]; omega
          · obtain ⟨w1, hw1⟩ : ∃ w1, w1 = wr := ⟨_, rfl⟩
            have hb1 : Below wr.heap.size wr w1 := hw1 ▸ bel_refl wr
            have HW1 : Hid (w1 = wr) := hw1
            have c0' := cell_keeps c0 hb1
            have c1' := cell_keeps c1 hb1
            have c2' := cell_keeps c2 hb1
            clear hw1
            go_wp2_with (first | (have _t := HL3; at_builtin; have hbB := bel_alloc w3 (.cells #[.bool q_g, .slice (some ⟨lg, 0, none⟩) q_n lc, .int .i64 q_e] 25); have L4 := HL3.out.keeps hbB; have hb4 := hb3.trans (hbB.mono hb3.size); refine wpList_appN rfl _ _ rfl w.heap.size _ j (fun i => (lentR r (updV g (n + j) lg) (updV cap (n + j) lc) (n + i)).v) rfl L4.ys _ 1 1 (fun _ => (.agg #[.bool q_g, .slice (some ⟨lg, 0, none⟩) q_n lc, .int .i64 q_e])) (fun _ _ => ⟨_, _, _, _, _, rfl⟩) rfl (lit_cells rfl (heap_a1 _ _)) (by omega) hb4.size ?_; intro xv' w4 hOx hgx hvx; obtain ⟨L5, hb5⟩ := L4.yapp2 hOx hgx hvx (lent_new (q := ⟨q_g, q_o, q_n, q_c, q_d, q_e⟩) HRJ.out) hb4 hb4.size; have HL5 : Hid _ := L5; clear L4 L5 hOx hgx hvx) | (have _t := HO; at_builtin; obtain ⟨L2, hb2a, hB2⟩ := LSt.lent2 (w := w) (q := ⟨q_g, q_o, q_n, q_c, q_d, q_e⟩) (lg := lg) (lc := lc) HL.out hbw (Nat.le_refl _) hb1 hb2 HO.out HRJ.out (by omega) (by omega) (fun _ => by omega) (.cells #[.bool q_g, .slice (some ⟨lg, 0, none⟩) q_n lc, .int .i64 q_e] 25) (.cells #[.slice (some ⟨lg, 0, none⟩) (q_n + 3) lc] 23); refine wpList_appV rfl _ _ rfl w.heap.size _ (n + j) (markV r (updV g (n + j) lg) (updV cap (n + j) lc)) rfl L2.mks _ _ rfl (cell_one _ _ _ (by simp)) rfl (by omega) hB2 ?_; intro mv' w3 hOm hgm hvm; obtain ⟨L3, hb3, hN3⟩ := L2.mark2 hOm hgm (mark_new (q := ⟨q_g, q_o, q_n, q_c, q_d, q_e⟩) HRJ.out) hb2a hB2; have HL3 : Hid _ := L3; have nk := hN3 _ _ _ (heap_a2 w2 (.cells #[.bool q_g, .slice (some ⟨lg, 0, none⟩) q_n lc, .int .i64 q_e] 25) (.cells #[.slice (some ⟨lg, 0, none⟩) (q_n + 3) lc] 23)); have f0 := blkC nk 0 rfl; have f1 := blkC nk 1 rfl; have f2 := blkC nk 2 rfl; clear L2 L3 hOm hgm hvm nk hb2a hB2 hN3) | (go_at_call 27; have _t := hb1; refine (CL _ (bel_refl wr)).mono ?_; rintro _ w2 ⟨lg, lc, rfl, hO, hb2⟩; have hb2 : Below w1.heap.size w1 w2 := HW1.out.symm ▸ hb2; have HO : Hid (Out w1.heap.size w2 (.slice (some ⟨lg, 0, none⟩) (q_n + 3) lc) (q_n + 3) (lentD q_d q_n)) := HW1.out.symm ▸ hO; clear hO))
            go_roundw
            case rel => exact ⟨j + 1, true, updV g (n + j) lg, updV cap (n + j) lc, by omega, by go_num, rfl, bad_step1 HBD.out HS.out, HL5, hb5⟩
            case measure => simp [intOf]; omega
        · obtain rfl : m = j := by omega
          clear hlt hj
          generalize hwo : bd = worse at HBD ⊢
          generalize hwb : wr = wb at HL hbw hbr ⊢
          generalize hyl : u10 = yl at HL ⊢
          generalize hml : u11 = ml at HL ⊢
          obtain ⟨xo, xc, yo, yc, mo, mc, rfl, rfl, rfl⟩ := HL.out.shapes
          clear hwo hwb hyl hml
          have HG : Hid (∀ i, i < n + m → w.heap.size ≤ g i ∧ g i < wb.heap.size) := fun i hi => HL.out.lf.ge hi
          have hTb : Tab wb := hT.keeps hbr
          have ea : ∀ i, i < n → okR (lentR r g cap i) = okR (a i) := fun i hi => by rw [lentR_ok, HR.out, bothR_lt hi]
          have eb : ∀ i, i < m → okR (lentR r g cap (n + i)) = okR (b i) := fun i hi => by rw [lentR_ok, HR.out, bothR_ge]
          have va : ∀ i, i < n → (lentR r g cap i).ng = (a i).ng ∧ (lentR r g cap i).n = (a i).n ∧ (lentR r g cap i).d = (a i).d ∧ (lentR r g cap i).e = (a i).e := fun i hi => by unfold lentR; rw [HR.out, bothR_lt hi]; exact ⟨rfl, rfl, rfl, rfl⟩
          have vb : ∀ i, i < m → (lentR r g cap (n + i)).ng = (b i).ng ∧ (lentR r g cap (n + i)).n = (b i).n ∧ (lentR r g cap (n + i)).d = (b i).d ∧ (lentR r g cap (n + i)).e = (b i).e := fun i hi => by unfold lentR; rw [HR.out, bothR_ge]; exact ⟨rfl, rfl, rfl, rfl⟩
          have CS : Hid (∀ W, Below wb.heap.size wb W → Calls Tryz.prog 44 #[.slice xo n xc] W (AnsP W (cond bad 1 0) (sumV a n))) := fun W hW => by
            have := dsum_md xo n xc (lentR r g cap) W ((HL.out.keeps hW).numsX (by omega) (by omega)) (by omega) (hTb.keeps hW) bad (by rw [HBA.out, allOk_congr ea])
            rwa [sumV_congr n va] at this
          have CD : Hid (∀ W, Below wb.heap.size wb W → Calls Tryz.prog 45 #[.slice xo n xc, .slice yo m yc] W (AnsP W (mdD n m bad worse) (dotV (lentR r g cap) (fun i => lentR r g cap (n + i)) n))) := fun W hW =>
            ddot_md xo yo n m xc yc (lentR r g cap) (fun i => lentR r g cap (n + i)) W ((HL.out.keeps hW).numsX (by omega) (by omega)) ((HL.out.keeps hW).numsY (by omega) (by omega)) (by omega) (by omega) (hTb.keeps hW) bad worse (by rw [HBA.out, allOk_congr ea]) (by rw [HBD.out, allOk_congr eb])
              (fun i hi ho => by have := (la i hi).2 (by rw [← ea i hi]; exact ho); have e := (va i hi).2.2.2; unfold Half; omega)
              (fun i hi ho => by have := (lb i hi).2 (by rw [← eb i hi]; exact ho); have e := (vb i hi).2.2.2; unfold Half; omega)
          have HVD : Hid (n = m → dotV (lentR r g cap) (fun i => lentR r g cap (n + i)) n = dotV a b n) := fun e => dotV_congr n va (fun i hi => vb i (e ▸ hi))
          generalize dotV (lentR r g cap) (fun i => lentR r g cap (n + i)) n = DV at CD HVD
          clear ea eb va vb hTb
          have HLB : Hid (LBk w.heap.size wb r g cap 0 (n + m) (.slice mo (n + m) mc)) := HL.out.bk
          have HFR : Hid (Fr w wb) := Fr.of hbw
          have HBW : Hid (Below w.heap.size w wb) := hbw
          clear HL hbw hbr
          go_wp2_with fail
          refine (CS.out _ (bel_refl _)).mono ?_
          rintro _ w5 ⟨s_g, s_o, s_n, s_c, s_e, s_r, rfl, hb5, hS⟩
          have HS : Hid (Ansd wb.heap.size w5 (cond bad 1 0) (sumV a n) (.agg #[.bool s_g, .slice s_o s_n s_c, .int .i64 s_e]) s_r) := hS
          clear hS CS
          go_wp2_with fail
          have hb6 := bel_trans hb5 (bel_alloc w5 (.cells #[.bool s_g, .slice s_o s_n s_c, .int .i64 s_e] 25))
          have s_k := heap_a1 w5 (.cells #[.bool s_g, .slice s_o s_n s_c, .int .i64 s_e] 25)
          have HS6 : Hid (Ansd wb.heap.size (w5.alloc (.cells #[.bool s_g, .slice s_o s_n s_c, .int .i64 s_e] 25)) (cond bad 1 0) (sumV a n) (.agg #[.bool s_g, .slice s_o s_n s_c, .int .i64 s_e]) s_r) := HS.out.keeps (bel_alloc w5 _)
          have HSL : Hid (Lies (.slice s_o s_n s_c) wb.heap.size w5.heap.size) := HS.out.lies
          clear HS
          have hs5 : Hid (wb.heap.size ≤ w5.heap.size) := hb5.size
          generalize hw6 : w5.alloc (.cells #[.bool s_g, .slice s_o s_n s_c, .int .i64 s_e] 25) = w6 at hb6 s_k HS6 ⊢
          have hs6 : Hid (w5.heap.size + 1 ≤ w6.heap.size) := (show w5.heap.size + 1 ≤ w6.heap.size by rw [← hw6]; simp)
          clear hw6 hb5
          refine (CD.out _ hb6).mono ?_
          rintro _ w7 ⟨d_g, d_o, d_n, d_c, d_e, d_r, rfl, hb7, hD⟩
          have HD : Hid (Ansd w6.heap.size w7 (mdD n m bad worse) DV (.agg #[.bool d_g, .slice d_o d_n d_c, .int .i64 d_e]) d_r) := hD
          have HDL : Hid (Lies (.slice d_o d_n d_c) w6.heap.size w7.heap.size) := HD.out.lies
          clear hD CD
          have s_k := (hb7.block _ (Array.getElem?_eq_some_iff.1 s_k).1).trans s_k
          have HS7 : Hid (Ansd wb.heap.size w7 (cond bad 1 0) (sumV a n) (.agg #[.bool s_g, .slice s_o s_n s_c, .int .i64 s_e]) s_r) := HS6.out.keeps hb7
          clear HS6
          have hs7 : Hid (w6.heap.size ≤ w7.heap.size) := hb7.size
          have hb7' := bel_trans hb6 hb7
          clear hb6 hb7
          go_wp2_with fail
          have hb8 := bel_alloc w7 (.cells #[.bool d_g, .slice d_o d_n d_c, .int .i64 d_e] 25)
          have d_k := heap_a1 w7 (.cells #[.bool d_g, .slice d_o d_n d_c, .int .i64 d_e] 25)
          have s_k := (hb8.block _ (Array.getElem?_eq_some_iff.1 s_k).1).trans s_k
          have HS8 : Hid (Ansd wb.heap.size (w7.alloc (.cells #[.bool d_g, .slice d_o d_n d_c, .int .i64 d_e] 25)) (cond bad 1 0) (sumV a n) (.agg #[.bool s_g, .slice s_o s_n s_c, .int .i64 s_e]) s_r) := HS7.out.keeps hb8
          have HD8 : Hid (Ansd w6.heap.size (w7.alloc (.cells #[.bool d_g, .slice d_o d_n d_c, .int .i64 d_e] 25)) (mdD n m bad worse) DV (.agg #[.bool d_g, .slice d_o d_n d_c, .int .i64 d_e]) d_r) := HD.out.keeps hb8
          have hb8' := bel_trans hb7' hb8
          have HL8 : Hid (LBk w.heap.size (w7.alloc (.cells #[.bool d_g, .slice d_o d_n d_c, .int .i64 d_e] 25)) r g cap 0 (n + m) (.slice mo (n + m) mc)) := HLB.out.keeps hb8'
          have HF8 : Hid (Fr w (w7.alloc (.cells #[.bool d_g, .slice d_o d_n d_c, .int .i64 d_e] 25))) := HFR.out.trans (Fr.of hb8')
          have HB8 : Hid (Below w.heap.size w (w7.alloc (.cells #[.bool d_g, .slice d_o d_n d_c, .int .i64 d_e] 25))) := HBW.out.trans (hb8'.mono HBW.out.size)
          have HK8 : Hid (Kept w0.heap.size (w7.alloc (.cells #[.bool d_g, .slice d_o d_n d_c, .int .i64 d_e] 25)) k (fun g => g < w.heap.size)) := HK.out.keeps HB8.out
          clear HS7 HD HLB HFR hb8 hb8' hb7' HK
          generalize hw8 : w7.alloc (.cells #[.bool d_g, .slice d_o d_n d_c, .int .i64 d_e] 25) = w8 at s_k d_k HS8 HD8 HL8 HF8 HB8 HK8 ⊢
          have hs8 : Hid (w7.heap.size + 1 ≤ w8.heap.size) := (show w7.heap.size + 1 ≤ w8.heap.size by rw [← hw8]; simp)
          clear hw8
          obtain ⟨mo', mc', em, hmc1, hmc2, hmo⟩ := HL8.out.mks.shape
          simp only [Value.slice.injEq, true_and] at em
          obtain ⟨rfl, rfl⟩ := em
          go_loopw [22] (fun iv wr => ∃ (j : Nat), j ≤ n + m ∧ iv = .int .i64 j ∧ Hid (LBk w.heap.size wr r g cap j (n + m) (.slice mo (n + m) mc)) ∧ Hid (wr.heap[w5.heap.size]? = some (.cells #[.bool s_g, .slice s_o s_n s_c, .int .i64 s_e] 25 (0, 0))) ∧ Hid (wr.heap[w7.heap.size]? = some (.cells #[.bool d_g, .slice d_o d_n d_c, .int .i64 d_e] 25 (0, 0))) ∧ Hid (Ansd wb.heap.size wr (cond bad 1 0) (sumV a n) (.agg #[.bool s_g, .slice s_o s_n s_c, .int .i64 s_e]) s_r) ∧ Hid (Ansd w6.heap.size wr (mdD n m bad worse) DV (.agg #[.bool d_g, .slice d_o d_n d_c, .int .i64 d_e]) d_r) ∧ Hid (Fr w wr) ∧ Hid (Below w.heap.size w wr) ∧ Hid (Kept w0.heap.size wr k (fun g => g < w.heap.size)) ∧ Hid (w8.heap.size ≤ wr.heap.size)) (fun iv _ => n + m - (intOf iv).toNat)
          case atStart => exact ⟨0, Nat.zero_le _, rfl, HL8, s_k, d_k, HS8, HD8, HF8, HB8, HK8, Nat.le_refl _⟩
          case round =>
            clear HL8 s_k d_k HS8 HD8 HF8 HB8 HK8
            obtain ⟨j, hj, rfl, HL, S_K, D_K, HS, HD, HF, HB, HK, HSZ⟩ := hrel
            have hbr : Below w0.heap.size w0 wr := hb0.trans (HB.out.mono hb0.size)
            by_cases hlt : j < n + m
            · obtain ⟨mg, rfl⟩ := hmo (by omega)
              have mcell := HL.out.mks.cell rfl hlt
              have hdr : Below wr.heap.size wr wr.drew := (bel_refl wr).drew
              have hbd : Below w0.heap.size w0 wr.drew := hbr.trans (hdr.mono hbr.size)
              have CB : ∀ (q : NumR), r j = q → Row w0 q.ao q.n q.cap q.d → q.n ≤ 2100 → Calls Tryz.prog 19 #[.slice (some ⟨g j, 0, none⟩) (q.n + 3) (cap j), .slice q.ao q.n q.cap] wr.drew fun e w' => e = .returned (.bool true) ∧ Wr (g j) wr.drew w' := fun q hq hrow hql => by
                subst hq
                exact back_any ((HL.out.keeps hdr).out j (Nat.le_refl _) hlt) (RowX.of0 hrow hbd (Nat.le_trans hb0.size (HG.out j hlt).1)) (hrow.keeps hbd) (by omega)
              have HN : Hid (∀ w', Wr (g j) wr.drew w' → w'.cell? ⟨mg, j, none⟩ = some (markV r g cap j) ∧ Below w0.heap.size w0 w' ∧ Hid (LBk w.heap.size w' r g cap (j + 1) (n + m) (.slice (some ⟨mg, 0, none⟩) (n + m) mc)) ∧ Hid (w'.heap[w5.heap.size]? = some (.cells #[.bool s_g, .slice s_o s_n s_c, .int .i64 s_e] 25 (0, 0))) ∧ Hid (w'.heap[w7.heap.size]? = some (.cells #[.bool d_g, .slice d_o d_n d_c, .int .i64 d_e] 25 (0, 0))) ∧ Hid (Ansd wb.heap.size w' (cond bad 1 0) (sumV a n) (.agg #[.bool s_g, .slice s_o s_n s_c, .int .i64 s_e]) s_r) ∧ Hid (Ansd w6.heap.size w' (mdD n m bad worse) DV (.agg #[.bool d_g, .slice d_o d_n d_c, .int .i64 d_e]) d_r) ∧ Hid (Fr w w') ∧ Hid (Below w.heap.size w w') ∧ Hid (Kept w0.heap.size w' k (fun g => g < w.heap.size)) ∧ Hid (w8.heap.size ≤ w'.heap.size)) := fun w' hw => by
                obtain ⟨hg1, hg2⟩ := HG.out j hlt
                have HL := HL.out.keeps hdr
                obtain ⟨cur, z, ht⟩ := (HL.typed hlt).2.2
                have h5 := hs5.out
                have h6 := hs6.out
                have hB := HB.out.trans (hdr.mono HB.out.size)
                have hB' := hw.below hB hB.size hg1
                exact ⟨(HL.step hlt hw).mks.cell rfl hlt, hb0.trans (hB'.mono hb0.size), HL.step hlt hw, numblk_wr hw ht (by decide) ((hdr.block _ (Array.getElem?_eq_some_iff.1 S_K.out).1).trans S_K.out), numblk_wr hw ht (by decide) ((hdr.block _ (Array.getElem?_eq_some_iff.1 D_K.out).1).trans D_K.out), (HS.out.keeps hdr).wr hw hg2, (HD.out.keeps hdr).wr hw (by omega), (HF.out.trans (Fr.of hdr)).wr hw hg1 hB.size, hB', (HK.out.keeps hdr).wr hw (fun h => by omega) ht, Nat.le_trans (Nat.le_trans HSZ.out hdr.size) hw.size⟩
              clear HL S_K D_K HS HD HF HB HK HSZ
              by_cases hja : j < n
              · obtain ⟨ba, oa, rfl, hba, hca⟩ := ha.spot (by omega)
                obtain ⟨c0, c1, c2, hR⟩ := (hca j hja).keeps hbr hba
                have hrj : r j = a j := (by rw [HR.out]; exact bothR_lt hja)
                have CB1 := CB (a j) hrj (hca j hja).row (la j hja).1
                have mcell : wr.cell? ⟨mg, j, none⟩ = some (.slice (some ⟨g j, 0, none⟩) ((a j).n + 3) (cap j)) := by rw [mcell, markV, hrj]
                have HMV : Hid (markV r g cap j = .slice (some ⟨g j, 0, none⟩) ((a j).n + 3) (cap j)) := (show markV r g cap j = .slice (some ⟨g j, 0, none⟩) ((a j).n + 3) (cap j) by rw [markV, hrj])
                have HCA : Hid (∀ W, Below w0.heap.size w0 W → W.cell? ⟨ba, oa + j * 3 + 1, none⟩ = some (.slice (a j).ao (a j).n (a j).cap)) := fun W hW => ((hca j hja).keeps hW hba).c1
                generalize hx : a j = x at CB1 c0 c1 c2 mcell HMV HCA
                obtain ⟨q_g, q_o, q_n, q_c, q_d, q_e⟩ := x
                simp only at c0 c1 c2 CB1 mcell
                have HJA : Hid (j < n) := hja
                have HHRJ : Hid (r j = a j) := hrj
                clear CB hca hR hrj hx HHRJ
                have i1 : (j : Int) < (n : Int) := by omega
                have i2 : (j : Int) < ((n + m : Nat) : Int) := by omega
                have i3 : ¬ ((n : Int) ≤ (j : Int)) := by omega
                go_wp2_with fail
                have kc0 : wr.drew.cell? ⟨mg, j, none⟩ = some (.slice (some ⟨g j, 0, none⟩) (q_n + 3) (cap j)) ∧ wr.drew.cell? ⟨ba, oa + j * 3 + 1, none⟩ = some (.slice q_o q_n q_c) := ⟨cell_keeps mcell hdr, cell_keeps c1 hdr⟩
                refine wp_region_held_drew (S := fun W => W.cell? ⟨mg, j, none⟩ = some (.slice (some ⟨g j, 0, none⟩) (q_n + 3) (cap j)) ∧ W.cell? ⟨ba, oa + j * 3 + 1, none⟩ = some (.slice q_o q_n q_c)) (by kernel_rfl) kc0 (fun hHeld0 => ?_)
                refine wpAnyH_take (i := 0) (v := ?_) rfl (by kernel_rfl) (by kernel_rfl) (by kernel_rfl) (fun _ _ _ h => h) (Or.inl ⟨by kernel_rfl, ?_⟩) (by assumption) ?_
                rotate_left
                · intro w hSw; (try dsimp only at hSw); go_simp; first | done | with_reducible rfl
                simp only [Act.put, List.setIfInBounds_toArray, List.set_cons_zero, List.set_cons_succ, List.getElem_toArray, List.getElem_cons_zero, List.getElem_cons_succ]
                refine wpAnyH_take (i := 1) (v := ?_) rfl (by kernel_rfl) (by kernel_rfl) (by kernel_rfl) (fun _ _ _ h => h) (Or.inl ⟨by kernel_rfl, ?_⟩) (by assumption) ?_
                rotate_left
                · intro w hSw; (try dsimp only at hSw); go_simp; first | done | with_reducible rfl
                simp only [Act.put, List.setIfInBounds_toArray, List.set_cons_zero, List.set_cons_succ, List.getElem_toArray, List.getElem_cons_zero, List.getElem_cons_succ]
                refine wpAnyH_take (i := 2) (v := ?_) rfl (by kernel_rfl) (by kernel_rfl) (by kernel_rfl) (fun _ _ _ h => h) (Or.inl ⟨by kernel_rfl, ?_⟩) (by assumption) ?_
                rotate_left
                · intro w hSw; (try dsimp only at hSw); go_simp; first | done | with_reducible rfl
                simp only [Act.put, List.setIfInBounds_toArray, List.set_cons_zero, List.set_cons_succ, List.getElem_toArray, List.getElem_cons_zero, List.getElem_cons_succ]
                refine wpAnyH_take (i := 3) (v := .bool true) rfl (by kernel_rfl) (by kernel_rfl) (by kernel_rfl) (fun _ _ _ h => h) (Or.inl ⟨by kernel_rfl, ?_⟩) (by assumption) ?_
                · intro w hSw; clear hSw; go_simp; first | done | with_reducible rfl | omega | (rw [wrap_i64_eq]; omega)
                simp only [Act.put, List.setIfInBounds_toArray, List.set_cons_zero, List.set_cons_succ, List.getElem_toArray, List.getElem_cons_zero, List.getElem_cons_succ]
                refine wpAnyH_take (i := 4) (v := ?_) rfl (by kernel_rfl) (by kernel_rfl) (by kernel_rfl) (fun _ _ _ h => h) (Or.inl ⟨by kernel_rfl, ?_⟩) (by assumption) ?_
                rotate_left
                · intro w hSw; (try dsimp only at hSw); go_simp; first | done | with_reducible rfl
                simp only [Act.put, List.setIfInBounds_toArray, List.set_cons_zero, List.set_cons_succ, List.getElem_toArray, List.getElem_cons_zero, List.getElem_cons_succ]
                refine wpAnyH_take (i := 5) (v := ?_) rfl (by kernel_rfl) (by kernel_rfl) (by kernel_rfl) (fun _ _ _ h => h) (Or.inl ⟨by kernel_rfl, ?_⟩) (by assumption) ?_
                rotate_left
                · intro w hSw; (try dsimp only at hSw); go_simp; first | done | with_reducible rfl
                simp only [Act.put, List.setIfInBounds_toArray, List.set_cons_zero, List.set_cons_succ, List.getElem_toArray, List.getElem_cons_zero, List.getElem_cons_succ]
                refine wpAnyH_take (i := 6) (v := ?_) rfl (by kernel_rfl) (by kernel_rfl) (by kernel_rfl) (fun _ _ _ h => h) (Or.inl ⟨by kernel_rfl, ?_⟩) (by assumption) ?_
                rotate_left
                · intro w hSw; (try dsimp only at hSw); go_simp; first | done | with_reducible rfl
                simp only [Act.put, List.setIfInBounds_toArray, List.set_cons_zero, List.set_cons_succ, List.getElem_toArray, List.getElem_cons_zero, List.getElem_cons_succ]
                refine wpAnyH_take (i := 7) (v := ?_) rfl (by kernel_rfl) (by kernel_rfl) (by kernel_rfl) (fun _ _ _ h => h) (Or.inl ⟨by kernel_rfl, ?_⟩) (by assumption) ?_
                rotate_left
                · intro w hSw; (try dsimp only at hSw); go_simp; first | done | with_reducible rfl
                simp only [Act.put, List.setIfInBounds_toArray, List.set_cons_zero, List.set_cons_succ, List.getElem_toArray, List.getElem_cons_zero, List.getElem_cons_succ]
                refine wpAnyH_take (i := 8) (v := ?_) rfl (by kernel_rfl) (by kernel_rfl) (by kernel_rfl) (fun _ _ _ h => h) (Or.inl ⟨by kernel_rfl, ?_⟩) (by assumption) ?_
                rotate_left
                · intro w hSw; (try dsimp only at hSw); go_simp; first | done | with_reducible rfl
                simp only [Act.put, List.setIfInBounds_toArray, List.set_cons_zero, List.set_cons_succ, List.getElem_toArray, List.getElem_cons_zero, List.getElem_cons_succ]
                refine wpAnyH_take (i := 9) (v := ?_) rfl (by kernel_rfl) (by kernel_rfl) (by kernel_rfl) (fun _ _ _ h => h) (Or.inl ⟨by kernel_rfl, ?_⟩) (by assumption) ?_
                rotate_left
                · intro w hSw; (try dsimp only at hSw); go_simp; first | done | with_reducible rfl
                simp only [Act.put, List.setIfInBounds_toArray, List.set_cons_zero, List.set_cons_succ, List.getElem_toArray, List.getElem_cons_zero, List.getElem_cons_succ]
                refine wpAnyH_take (i := 10) (v := ?_) rfl (by kernel_rfl) (by kernel_rfl) (by kernel_rfl) (fun _ _ _ h => h) (Or.inl ⟨by kernel_rfl, ?_⟩) (by assumption) ?_
                rotate_left
                · intro w hSw; (try dsimp only at hSw); go_simp; first | done | with_reducible rfl
                simp only [Act.put, List.setIfInBounds_toArray, List.set_cons_zero, List.set_cons_succ, List.getElem_toArray, List.getElem_cons_zero, List.getElem_cons_succ]
                refine wpAnyH_take (i := 11) (v := ?_) rfl (by kernel_rfl) (by kernel_rfl) (by kernel_rfl) (fun _ _ _ h => h) (Or.inl ⟨by kernel_rfl, ?_⟩) (by assumption) ?_
                rotate_left
                · intro w hSw; (try dsimp only at hSw); go_simp; first | done | with_reducible rfl
                simp only [Act.put, List.setIfInBounds_toArray, List.set_cons_zero, List.set_cons_succ, List.getElem_toArray, List.getElem_cons_zero, List.getElem_cons_succ]
                refine wpAnyH_take (i := 12) (v := ?_) rfl (by kernel_rfl) (by kernel_rfl) (by kernel_rfl) (fun _ _ _ h => h) (Or.inl ⟨by kernel_rfl, ?_⟩) (by assumption) ?_
                rotate_left
                · intro w hSw; (try dsimp only at hSw); go_simp; first | done | with_reducible rfl
                simp only [Act.put, List.setIfInBounds_toArray, List.set_cons_zero, List.set_cons_succ, List.getElem_toArray, List.getElem_cons_zero, List.getElem_cons_succ]
                refine wpAnyH_take (i := 13) (v := ?_) rfl (by kernel_rfl) (by kernel_rfl) (by kernel_rfl) (fun _ _ _ h => h) (Or.inl ⟨by kernel_rfl, ?_⟩) (by assumption) ?_
                rotate_left
                · intro w hSw; (try dsimp only at hSw); go_simp; first | done | with_reducible rfl
                simp only [Act.put, List.setIfInBounds_toArray, List.set_cons_zero, List.set_cons_succ, List.getElem_toArray, List.getElem_cons_zero, List.getElem_cons_succ]
                refine wpAnyH_ready (rs := [14]) (by kernel_rfl) (by simp) ?_
                refine AllReadyH.cons rfl (fun K hK => ?_) AllReadyH.nil
                go_simp
                refine CB1.mono ?_
                rintro _ w9 ⟨rfl, hw9⟩
                obtain ⟨kcm, hb9, n1, n2, n3, n4, n5, n6, n7, n8, n9⟩ := HN.out w9 hw9
                have kca := HCA.out w9 hb9
                rw [HMV.out] at kcm
                have kc1 : w9.cell? ⟨mg, j, none⟩ = some (.slice (some ⟨g j, 0, none⟩) (q_n + 3) (cap j)) ∧ w9.cell? ⟨ba, oa + j * 3 + 1, none⟩ = some (.slice q_o q_n q_c) := ⟨kcm, kca⟩
                refine hK.out _ _ kc1 (fun hHeld1 => ?_)
                clear hK K hHeld0
                try simp only [Act.put, List.setIfInBounds_toArray, List.set_cons_zero, List.set_cons_succ, List.getElem_toArray, List.getElem_cons_zero, List.getElem_cons_succ]
                refine wpAnyH_take (i := 15) (v := ?_) rfl (by kernel_rfl) (by kernel_rfl) (by kernel_rfl) (fun _ _ _ h => h) (Or.inl ⟨by kernel_rfl, ?_⟩) (by assumption) ?_
                rotate_left
                · intro w hSw; (try dsimp only at hSw); go_simp; first | done | with_reducible rfl
                simp only [Act.put, List.setIfInBounds_toArray, List.set_cons_zero, List.set_cons_succ, List.getElem_toArray, List.getElem_cons_zero, List.getElem_cons_succ]
                refine wpAnyH_take (i := 16) (v := ?_) rfl (by kernel_rfl) (by kernel_rfl) (by kernel_rfl) (fun _ _ _ h => h) (Or.inl ⟨by kernel_rfl, ?_⟩) (by assumption) ?_
                rotate_left
                · intro w hSw; (try dsimp only at hSw); go_simp; first | done | with_reducible rfl
                simp only [Act.put, List.setIfInBounds_toArray, List.set_cons_zero, List.set_cons_succ, List.getElem_toArray, List.getElem_cons_zero, List.getElem_cons_succ]
                refine wpAnyH_take (i := 17) (v := ?_) rfl (by kernel_rfl) (by kernel_rfl) (by kernel_rfl) (fun _ _ _ h => h) (Or.inl ⟨by kernel_rfl, ?_⟩) (by assumption) ?_
                rotate_left
                · intro w hSw; (try dsimp only at hSw); go_simp; first | done | with_reducible rfl
                simp only [Act.put, List.setIfInBounds_toArray, List.set_cons_zero, List.set_cons_succ, List.getElem_toArray, List.getElem_cons_zero, List.getElem_cons_succ]
                refine wpAnyH_take (i := 18) (v := ?_) rfl (by kernel_rfl) (by kernel_rfl) (by kernel_rfl) (fun _ _ _ h => h) (Or.inl ⟨by kernel_rfl, ?_⟩) (by assumption) ?_
                rotate_left
                · intro w hSw; (try dsimp only at hSw); go_simp; first | done | with_reducible rfl
                simp only [Act.put, List.setIfInBounds_toArray, List.set_cons_zero, List.set_cons_succ, List.getElem_toArray, List.getElem_cons_zero, List.getElem_cons_succ]
                refine wpAnyH_take (i := 19) (v := ?_) rfl (by kernel_rfl) (by kernel_rfl) (by kernel_rfl) (fun _ _ _ h => h) (Or.inl ⟨by kernel_rfl, ?_⟩) (by assumption) ?_
                rotate_left
                · intro w hSw; (try dsimp only at hSw); go_simp; first | done | with_reducible rfl
                simp only [Act.put, List.setIfInBounds_toArray, List.set_cons_zero, List.set_cons_succ, List.getElem_toArray, List.getElem_cons_zero, List.getElem_cons_succ]
                refine wpAnyH_take (i := 20) (v := ?_) rfl (by kernel_rfl) (by kernel_rfl) (by kernel_rfl) (fun _ _ _ h => h) (Or.inl ⟨by kernel_rfl, ?_⟩) (by assumption) ?_
                rotate_left
                · intro w hSw; (try dsimp only at hSw); go_simp; first | done | with_reducible rfl
                simp only [Act.put, List.setIfInBounds_toArray, List.set_cons_zero, List.set_cons_succ, List.getElem_toArray, List.getElem_cons_zero, List.getElem_cons_succ]
                refine wpAnyH_take (i := 21) (v := .bool false) rfl (by kernel_rfl) (by kernel_rfl) (by kernel_rfl) (fun _ _ _ h => h) (Or.inl ⟨by kernel_rfl, ?_⟩) (by assumption) ?_
                · intro w hSw; clear hSw; go_simp; first | done | with_reducible rfl | omega | (rw [wrap_i64_eq]; omega)
                simp only [Act.put, List.setIfInBounds_toArray, List.set_cons_zero, List.set_cons_succ, List.getElem_toArray, List.getElem_cons_zero, List.getElem_cons_succ]
                refine wpAnyH_take (i := 22) (v := ?_) rfl (by kernel_rfl) (by kernel_rfl) (by kernel_rfl) (fun _ _ _ h => h) (Or.inl ⟨by kernel_rfl, ?_⟩) (by assumption) ?_
                rotate_left
                · intro w hSw; (try dsimp only at hSw); go_simp; first | done | with_reducible rfl
                simp only [Act.put, List.setIfInBounds_toArray, List.set_cons_zero, List.set_cons_succ, List.getElem_toArray, List.getElem_cons_zero, List.getElem_cons_succ]
                refine wpAnyH_take (i := 23) (v := undef) rfl (by kernel_rfl) (by kernel_rfl) (by kernel_rfl) (fun _ _ _ h => h) (Or.inr ⟨by kernel_rfl, rfl⟩) (by assumption) ?_
                simp only [Act.put, List.setIfInBounds_toArray, List.set_cons_zero, List.set_cons_succ, List.getElem_toArray, List.getElem_cons_zero, List.getElem_cons_succ]
                refine wpAnyH_take (i := 24) (v := undef) rfl (by kernel_rfl) (by kernel_rfl) (by kernel_rfl) (fun _ _ _ h => h) (Or.inr ⟨by kernel_rfl, rfl⟩) (by assumption) ?_
                simp only [Act.put, List.setIfInBounds_toArray, List.set_cons_zero, List.set_cons_succ, List.getElem_toArray, List.getElem_cons_zero, List.getElem_cons_succ]
                refine wpAnyH_take (i := 25) (v := undef) rfl (by kernel_rfl) (by kernel_rfl) (by kernel_rfl) (fun _ _ _ h => h) (Or.inr ⟨by kernel_rfl, rfl⟩) (by assumption) ?_
                simp only [Act.put, List.setIfInBounds_toArray, List.set_cons_zero, List.set_cons_succ, List.getElem_toArray, List.getElem_cons_zero, List.getElem_cons_succ]
                refine wpAnyH_take (i := 26) (v := undef) rfl (by kernel_rfl) (by kernel_rfl) (by kernel_rfl) (fun _ _ _ h => h) (Or.inr ⟨by kernel_rfl, rfl⟩) (by assumption) ?_
                simp only [Act.put, List.setIfInBounds_toArray, List.set_cons_zero, List.set_cons_succ, List.getElem_toArray, List.getElem_cons_zero, List.getElem_cons_succ]
                refine wpAnyH_take (i := 27) (v := undef) rfl (by kernel_rfl) (by kernel_rfl) (by kernel_rfl) (fun _ _ _ h => h) (Or.inr ⟨by kernel_rfl, rfl⟩) (by assumption) ?_
                simp only [Act.put, List.setIfInBounds_toArray, List.set_cons_zero, List.set_cons_succ, List.getElem_toArray, List.getElem_cons_zero, List.getElem_cons_succ]
                refine wpAnyH_take (i := 28) (v := undef) rfl (by kernel_rfl) (by kernel_rfl) (by kernel_rfl) (fun _ _ _ h => h) (Or.inr ⟨by kernel_rfl, rfl⟩) (by assumption) ?_
                simp only [Act.put, List.setIfInBounds_toArray, List.set_cons_zero, List.set_cons_succ, List.getElem_toArray, List.getElem_cons_zero, List.getElem_cons_succ]
                refine wpAnyH_take (i := 29) (v := undef) rfl (by kernel_rfl) (by kernel_rfl) (by kernel_rfl) (fun _ _ _ h => h) (Or.inr ⟨by kernel_rfl, rfl⟩) (by assumption) ?_
                simp only [Act.put, List.setIfInBounds_toArray, List.set_cons_zero, List.set_cons_succ, List.getElem_toArray, List.getElem_cons_zero, List.getElem_cons_succ]
                refine wpAnyH_take (i := 30) (v := undef) rfl (by kernel_rfl) (by kernel_rfl) (by kernel_rfl) (fun _ _ _ h => h) (Or.inr ⟨by kernel_rfl, rfl⟩) (by assumption) ?_
                simp only [Act.put, List.setIfInBounds_toArray, List.set_cons_zero, List.set_cons_succ, List.getElem_toArray, List.getElem_cons_zero, List.getElem_cons_succ]
                refine wpAnyH_take (i := 31) (v := undef) rfl (by kernel_rfl) (by kernel_rfl) (by kernel_rfl) (fun _ _ _ h => h) (Or.inr ⟨by kernel_rfl, rfl⟩) (by assumption) ?_
                simp only [Act.put, List.setIfInBounds_toArray, List.set_cons_zero, List.set_cons_succ, List.getElem_toArray, List.getElem_cons_zero, List.getElem_cons_succ]
                refine wpAnyH_take (i := 32) (v := undef) rfl (by kernel_rfl) (by kernel_rfl) (by kernel_rfl) (fun _ _ _ h => h) (Or.inr ⟨by kernel_rfl, rfl⟩) (by assumption) ?_
                simp only [Act.put, List.setIfInBounds_toArray, List.set_cons_zero, List.set_cons_succ, List.getElem_toArray, List.getElem_cons_zero, List.getElem_cons_succ]
                refine wpAnyH_take (i := 33) (v := undef) rfl (by kernel_rfl) (by kernel_rfl) (by kernel_rfl) (fun _ _ _ h => h) (Or.inr ⟨by kernel_rfl, rfl⟩) (by assumption) ?_
                simp only [Act.put, List.setIfInBounds_toArray, List.set_cons_zero, List.set_cons_succ, List.getElem_toArray, List.getElem_cons_zero, List.getElem_cons_succ]
                refine wpAnyH_take (i := 34) (v := undef) rfl (by kernel_rfl) (by kernel_rfl) (by kernel_rfl) (fun _ _ _ h => h) (Or.inr ⟨by kernel_rfl, rfl⟩) (by assumption) ?_
                simp only [Act.put, List.setIfInBounds_toArray, List.set_cons_zero, List.set_cons_succ, List.getElem_toArray, List.getElem_cons_zero, List.getElem_cons_succ]
                refine wpAnyH_take (i := 35) (v := undef) rfl (by kernel_rfl) (by kernel_rfl) (by kernel_rfl) (fun _ _ _ h => h) (Or.inr ⟨by kernel_rfl, rfl⟩) (by assumption) ?_
                simp only [Act.put, List.setIfInBounds_toArray, List.set_cons_zero, List.set_cons_succ, List.getElem_toArray, List.getElem_cons_zero, List.getElem_cons_succ]
                refine wpAnyH_take (i := 36) (v := undef) rfl (by kernel_rfl) (by kernel_rfl) (by kernel_rfl) (fun _ _ _ h => h) (Or.inr ⟨by kernel_rfl, rfl⟩) (by assumption) ?_
                simp only [Act.put, List.setIfInBounds_toArray, List.set_cons_zero, List.set_cons_succ, List.getElem_toArray, List.getElem_cons_zero, List.getElem_cons_succ]
                refine wpAnyH_take (i := 37) (v := ?_) rfl (by kernel_rfl) (by kernel_rfl) (by kernel_rfl) (fun _ _ _ h => h) (Or.inl ⟨by kernel_rfl, ?_⟩) (by assumption) ?_
                rotate_left
                · intro w hSw; (try dsimp only at hSw); go_simp; first | done | with_reducible rfl
                simp only [Act.put, List.setIfInBounds_toArray, List.set_cons_zero, List.set_cons_succ, List.getElem_toArray, List.getElem_cons_zero, List.getElem_cons_succ]
                refine wpAnyH_take (i := 38) (v := ?_) rfl (by kernel_rfl) (by kernel_rfl) (by kernel_rfl) (fun _ _ _ h => h) (Or.inl ⟨by kernel_rfl, ?_⟩) (by assumption) ?_
                rotate_left
                · intro w hSw; (try dsimp only at hSw); go_simp; first | done | with_reducible rfl
                simp only [Act.put, List.setIfInBounds_toArray, List.set_cons_zero, List.set_cons_succ, List.getElem_toArray, List.getElem_cons_zero, List.getElem_cons_succ]
                refine wpAnyH_done (by kernel_rfl) ?_ _
                go_wp2
                go_roundw
                case rel => exact ⟨j + 1, by omega, by go_num, n1, n2, n3, n4, n5, n6, n7, n8, n9⟩
                case measure => simp [intOf]; omega
              · obtain ⟨p, hpj⟩ : ∃ p, j = n + p := ⟨j - n, by omega⟩
                have hp : p < m := by omega
                obtain ⟨ba, oa, rfl, hba, hca⟩ := hb.spot (by omega)
                obtain ⟨c0, c1, c2, hR⟩ := (hca p hp).keeps hbr hba
                have hrj : r j = b p := (by rw [HR.out, hpj]; exact bothR_ge)
                have CB1 := CB (b p) hrj (hca p hp).row (lb p hp).1
                have mcell : wr.cell? ⟨mg, j, none⟩ = some (.slice (some ⟨g j, 0, none⟩) ((b p).n + 3) (cap j)) := by rw [mcell, markV, hrj]
                have HMV : Hid (markV r g cap j = .slice (some ⟨g j, 0, none⟩) ((b p).n + 3) (cap j)) := (show markV r g cap j = .slice (some ⟨g j, 0, none⟩) ((b p).n + 3) (cap j) by rw [markV, hrj])
                have HCA : Hid (∀ W, Below w0.heap.size w0 W → W.cell? ⟨ba, oa + p * 3 + 1, none⟩ = some (.slice (b p).ao (b p).n (b p).cap)) := fun W hW => ((hca p hp).keeps hW hba).c1
                generalize hx : b p = x at CB1 c0 c1 c2 mcell HMV HCA
                obtain ⟨q_g, q_o, q_n, q_c, q_d, q_e⟩ := x
                simp only at c0 c1 c2 CB1 mcell
                clear CB hca hR hrj hx hja
                have i1 : ¬ ((j : Int) < (n : Int)) := by omega
                have i2 : (j : Int) < ((n + m : Nat) : Int) := by omega
                have i3 : (n : Int) ≤ (j : Int) := by omega
                have i4 : (j : Int) - (n : Int) = (p : Int) := by omega
                have HPJ : Hid (j = n + p) := hpj
                clear hpj
                go_wp2_with fail
                have kc0 : wr.drew.cell? ⟨mg, j, none⟩ = some (.slice (some ⟨g j, 0, none⟩) (q_n + 3) (cap j)) ∧ wr.drew.cell? ⟨ba, oa + p * 3 + 1, none⟩ = some (.slice q_o q_n q_c) := ⟨cell_keeps mcell hdr, cell_keeps c1 hdr⟩
                refine wp_region_held_drew (S := fun W => W.cell? ⟨mg, j, none⟩ = some (.slice (some ⟨g j, 0, none⟩) (q_n + 3) (cap j)) ∧ W.cell? ⟨ba, oa + p * 3 + 1, none⟩ = some (.slice q_o q_n q_c)) (by kernel_rfl) kc0 (fun hHeld0 => ?_)
                refine wpAnyH_take (i := 0) (v := ?_) rfl (by kernel_rfl) (by kernel_rfl) (by kernel_rfl) (fun _ _ _ h => h) (Or.inl ⟨by kernel_rfl, ?_⟩) (by assumption) ?_
                rotate_left
                · intro w hSw; (try dsimp only at hSw); go_simp; first | done | with_reducible rfl
                simp only [Act.put, List.setIfInBounds_toArray, List.set_cons_zero, List.set_cons_succ, List.getElem_toArray, List.getElem_cons_zero, List.getElem_cons_succ]
                refine wpAnyH_take (i := 1) (v := ?_) rfl (by kernel_rfl) (by kernel_rfl) (by kernel_rfl) (fun _ _ _ h => h) (Or.inl ⟨by kernel_rfl, ?_⟩) (by assumption) ?_
                rotate_left
                · intro w hSw; (try dsimp only at hSw); go_simp; first | done | with_reducible rfl
                simp only [Act.put, List.setIfInBounds_toArray, List.set_cons_zero, List.set_cons_succ, List.getElem_toArray, List.getElem_cons_zero, List.getElem_cons_succ]
                refine wpAnyH_take (i := 2) (v := ?_) rfl (by kernel_rfl) (by kernel_rfl) (by kernel_rfl) (fun _ _ _ h => h) (Or.inl ⟨by kernel_rfl, ?_⟩) (by assumption) ?_
                rotate_left
                · intro w hSw; (try dsimp only at hSw); go_simp; first | done | with_reducible rfl
                simp only [Act.put, List.setIfInBounds_toArray, List.set_cons_zero, List.set_cons_succ, List.getElem_toArray, List.getElem_cons_zero, List.getElem_cons_succ]
                refine wpAnyH_take (i := 3) (v := .bool false) rfl (by kernel_rfl) (by kernel_rfl) (by kernel_rfl) (fun _ _ _ h => h) (Or.inl ⟨by kernel_rfl, ?_⟩) (by assumption) ?_
                · intro w hSw; clear hSw; go_simp; first | done | with_reducible rfl | omega | (rw [wrap_i64_eq]; omega)
                simp only [Act.put, List.setIfInBounds_toArray, List.set_cons_zero, List.set_cons_succ, List.getElem_toArray, List.getElem_cons_zero, List.getElem_cons_succ]
                refine wpAnyH_take (i := 4) (v := ?_) rfl (by kernel_rfl) (by kernel_rfl) (by kernel_rfl) (fun _ _ _ h => h) (Or.inl ⟨by kernel_rfl, ?_⟩) (by assumption) ?_
                rotate_left
                · intro w hSw; (try dsimp only at hSw); go_simp; first | done | with_reducible rfl
                simp only [Act.put, List.setIfInBounds_toArray, List.set_cons_zero, List.set_cons_succ, List.getElem_toArray, List.getElem_cons_zero, List.getElem_cons_succ]
                refine wpAnyH_take (i := 5) (v := undef) rfl (by kernel_rfl) (by kernel_rfl) (by kernel_rfl) (fun _ _ _ h => h) (Or.inr ⟨by kernel_rfl, rfl⟩) (by assumption) ?_
                simp only [Act.put, List.setIfInBounds_toArray, List.set_cons_zero, List.set_cons_succ, List.getElem_toArray, List.getElem_cons_zero, List.getElem_cons_succ]
                refine wpAnyH_take (i := 6) (v := undef) rfl (by kernel_rfl) (by kernel_rfl) (by kernel_rfl) (fun _ _ _ h => h) (Or.inr ⟨by kernel_rfl, rfl⟩) (by assumption) ?_
                simp only [Act.put, List.setIfInBounds_toArray, List.set_cons_zero, List.set_cons_succ, List.getElem_toArray, List.getElem_cons_zero, List.getElem_cons_succ]
                refine wpAnyH_take (i := 7) (v := undef) rfl (by kernel_rfl) (by kernel_rfl) (by kernel_rfl) (fun _ _ _ h => h) (Or.inr ⟨by kernel_rfl, rfl⟩) (by assumption) ?_
                simp only [Act.put, List.setIfInBounds_toArray, List.set_cons_zero, List.set_cons_succ, List.getElem_toArray, List.getElem_cons_zero, List.getElem_cons_succ]
                refine wpAnyH_take (i := 8) (v := undef) rfl (by kernel_rfl) (by kernel_rfl) (by kernel_rfl) (fun _ _ _ h => h) (Or.inr ⟨by kernel_rfl, rfl⟩) (by assumption) ?_
                simp only [Act.put, List.setIfInBounds_toArray, List.set_cons_zero, List.set_cons_succ, List.getElem_toArray, List.getElem_cons_zero, List.getElem_cons_succ]
                refine wpAnyH_take (i := 9) (v := undef) rfl (by kernel_rfl) (by kernel_rfl) (by kernel_rfl) (fun _ _ _ h => h) (Or.inr ⟨by kernel_rfl, rfl⟩) (by assumption) ?_
                simp only [Act.put, List.setIfInBounds_toArray, List.set_cons_zero, List.set_cons_succ, List.getElem_toArray, List.getElem_cons_zero, List.getElem_cons_succ]
                refine wpAnyH_take (i := 10) (v := undef) rfl (by kernel_rfl) (by kernel_rfl) (by kernel_rfl) (fun _ _ _ h => h) (Or.inr ⟨by kernel_rfl, rfl⟩) (by assumption) ?_
                simp only [Act.put, List.setIfInBounds_toArray, List.set_cons_zero, List.set_cons_succ, List.getElem_toArray, List.getElem_cons_zero, List.getElem_cons_succ]
                refine wpAnyH_take (i := 11) (v := undef) rfl (by kernel_rfl) (by kernel_rfl) (by kernel_rfl) (fun _ _ _ h => h) (Or.inr ⟨by kernel_rfl, rfl⟩) (by assumption) ?_
                simp only [Act.put, List.setIfInBounds_toArray, List.set_cons_zero, List.set_cons_succ, List.getElem_toArray, List.getElem_cons_zero, List.getElem_cons_succ]
                refine wpAnyH_take (i := 12) (v := undef) rfl (by kernel_rfl) (by kernel_rfl) (by kernel_rfl) (fun _ _ _ h => h) (Or.inr ⟨by kernel_rfl, rfl⟩) (by assumption) ?_
                simp only [Act.put, List.setIfInBounds_toArray, List.set_cons_zero, List.set_cons_succ, List.getElem_toArray, List.getElem_cons_zero, List.getElem_cons_succ]
                refine wpAnyH_take (i := 13) (v := undef) rfl (by kernel_rfl) (by kernel_rfl) (by kernel_rfl) (fun _ _ _ h => h) (Or.inr ⟨by kernel_rfl, rfl⟩) (by assumption) ?_
                simp only [Act.put, List.setIfInBounds_toArray, List.set_cons_zero, List.set_cons_succ, List.getElem_toArray, List.getElem_cons_zero, List.getElem_cons_succ]
                refine wpAnyH_take (i := 14) (v := undef) rfl (by kernel_rfl) (by kernel_rfl) (by kernel_rfl) (fun _ _ _ h => h) (Or.inr ⟨by kernel_rfl, rfl⟩) (by assumption) ?_
                simp only [Act.put, List.setIfInBounds_toArray, List.set_cons_zero, List.set_cons_succ, List.getElem_toArray, List.getElem_cons_zero, List.getElem_cons_succ]
                refine wpAnyH_take (i := 15) (v := undef) rfl (by kernel_rfl) (by kernel_rfl) (by kernel_rfl) (fun _ _ _ h => h) (Or.inr ⟨by kernel_rfl, rfl⟩) (by assumption) ?_
                simp only [Act.put, List.setIfInBounds_toArray, List.set_cons_zero, List.set_cons_succ, List.getElem_toArray, List.getElem_cons_zero, List.getElem_cons_succ]
                refine wpAnyH_take (i := 16) (v := ?_) rfl (by kernel_rfl) (by kernel_rfl) (by kernel_rfl) (fun _ _ _ h => h) (Or.inl ⟨by kernel_rfl, ?_⟩) (by assumption) ?_
                rotate_left
                · intro w hSw; (try dsimp only at hSw); go_simp; first | done | with_reducible rfl
                simp only [Act.put, List.setIfInBounds_toArray, List.set_cons_zero, List.set_cons_succ, List.getElem_toArray, List.getElem_cons_zero, List.getElem_cons_succ]
                refine wpAnyH_take (i := 17) (v := ?_) rfl (by kernel_rfl) (by kernel_rfl) (by kernel_rfl) (fun _ _ _ h => h) (Or.inl ⟨by kernel_rfl, ?_⟩) (by assumption) ?_
                rotate_left
                · intro w hSw; (try dsimp only at hSw); go_simp; first | done | with_reducible rfl
                simp only [Act.put, List.setIfInBounds_toArray, List.set_cons_zero, List.set_cons_succ, List.getElem_toArray, List.getElem_cons_zero, List.getElem_cons_succ]
                refine wpAnyH_take (i := 18) (v := ?_) rfl (by kernel_rfl) (by kernel_rfl) (by kernel_rfl) (fun _ _ _ h => h) (Or.inl ⟨by kernel_rfl, ?_⟩) (by assumption) ?_
                rotate_left
                · intro w hSw; (try dsimp only at hSw); go_simp; first | done | with_reducible rfl
                simp only [Act.put, List.setIfInBounds_toArray, List.set_cons_zero, List.set_cons_succ, List.getElem_toArray, List.getElem_cons_zero, List.getElem_cons_succ]
                refine wpAnyH_take (i := 19) (v := ?_) rfl (by kernel_rfl) (by kernel_rfl) (by kernel_rfl) (fun _ _ _ h => h) (Or.inl ⟨by kernel_rfl, ?_⟩) (by assumption) ?_
                rotate_left
                · intro w hSw; (try dsimp only at hSw); go_simp; first | done | with_reducible rfl
                simp only [Act.put, List.setIfInBounds_toArray, List.set_cons_zero, List.set_cons_succ, List.getElem_toArray, List.getElem_cons_zero, List.getElem_cons_succ]
                refine wpAnyH_take (i := 20) (v := ?_) rfl (by kernel_rfl) (by kernel_rfl) (by kernel_rfl) (fun _ _ _ h => h) (Or.inl ⟨by kernel_rfl, ?_⟩) (by assumption) ?_
                rotate_left
                · intro w hSw; (try dsimp only at hSw); go_simp; first | done | with_reducible rfl
                simp only [Act.put, List.setIfInBounds_toArray, List.set_cons_zero, List.set_cons_succ, List.getElem_toArray, List.getElem_cons_zero, List.getElem_cons_succ]
                refine wpAnyH_take (i := 21) (v := .bool true) rfl (by kernel_rfl) (by kernel_rfl) (by kernel_rfl) (fun _ _ _ h => h) (Or.inl ⟨by kernel_rfl, ?_⟩) (by assumption) ?_
                · intro w hSw; clear hSw; go_simp; first | done | with_reducible rfl | omega | (rw [wrap_i64_eq]; omega)
                simp only [Act.put, List.setIfInBounds_toArray, List.set_cons_zero, List.set_cons_succ, List.getElem_toArray, List.getElem_cons_zero, List.getElem_cons_succ]
                refine wpAnyH_take (i := 22) (v := ?_) rfl (by kernel_rfl) (by kernel_rfl) (by kernel_rfl) (fun _ _ _ h => h) (Or.inl ⟨by kernel_rfl, ?_⟩) (by assumption) ?_
                rotate_left
                · intro w hSw; (try dsimp only at hSw); go_simp; first | done | with_reducible rfl
                simp only [Act.put, List.setIfInBounds_toArray, List.set_cons_zero, List.set_cons_succ, List.getElem_toArray, List.getElem_cons_zero, List.getElem_cons_succ]
                refine wpAnyH_take (i := 23) (v := ?_) rfl (by kernel_rfl) (by kernel_rfl) (by kernel_rfl) (fun _ _ _ h => h) (Or.inl ⟨by kernel_rfl, ?_⟩) (by assumption) ?_
                rotate_left
                · intro w hSw; (try dsimp only at hSw); go_simp; first | done | with_reducible rfl
                simp only [Act.put, List.setIfInBounds_toArray, List.set_cons_zero, List.set_cons_succ, List.getElem_toArray, List.getElem_cons_zero, List.getElem_cons_succ]
                refine wpAnyH_take (i := 24) (v := ?_) rfl (by kernel_rfl) (by kernel_rfl) (by kernel_rfl) (fun _ _ _ h => h) (Or.inl ⟨by kernel_rfl, ?_⟩) (by assumption) ?_
                rotate_left
                · intro w hSw; (try dsimp only at hSw); go_simp; first | done | with_reducible rfl
                simp only [Act.put, List.setIfInBounds_toArray, List.set_cons_zero, List.set_cons_succ, List.getElem_toArray, List.getElem_cons_zero, List.getElem_cons_succ]
                refine wpAnyH_take (i := 25) (v := ?_) rfl (by kernel_rfl) (by kernel_rfl) (by kernel_rfl) (fun _ _ _ h => h) (Or.inl ⟨by kernel_rfl, ?_⟩) (by assumption) ?_
                rotate_left
                · intro w hSw; (try dsimp only at hSw); go_simp; first | done | with_reducible rfl
                simp only [Act.put, List.setIfInBounds_toArray, List.set_cons_zero, List.set_cons_succ, List.getElem_toArray, List.getElem_cons_zero, List.getElem_cons_succ]
                refine wpAnyH_take (i := 26) (v := ?_) rfl (by kernel_rfl) (by kernel_rfl) (by kernel_rfl) (fun _ _ _ h => h) (Or.inl ⟨by kernel_rfl, ?_⟩) (by assumption) ?_
                rotate_left
                · intro w hSw; (try dsimp only at hSw); go_simp; first | done | with_reducible rfl
                simp only [Act.put, List.setIfInBounds_toArray, List.set_cons_zero, List.set_cons_succ, List.getElem_toArray, List.getElem_cons_zero, List.getElem_cons_succ]
                refine wpAnyH_take (i := 27) (v := ?_) rfl (by kernel_rfl) (by kernel_rfl) (by kernel_rfl) (fun _ _ _ h => h) (Or.inl ⟨by kernel_rfl, ?_⟩) (by assumption) ?_
                rotate_left
                · intro w hSw; (try dsimp only at hSw); go_simp; first | done | with_reducible rfl
                simp only [Act.put, List.setIfInBounds_toArray, List.set_cons_zero, List.set_cons_succ, List.getElem_toArray, List.getElem_cons_zero, List.getElem_cons_succ]
                refine wpAnyH_take (i := 28) (v := ?_) rfl (by kernel_rfl) (by kernel_rfl) (by kernel_rfl) (fun _ _ _ h => h) (Or.inl ⟨by kernel_rfl, ?_⟩) (by assumption) ?_
                rotate_left
                · intro w hSw; (try dsimp only at hSw); go_simp; first | done | with_reducible rfl
                simp only [Act.put, List.setIfInBounds_toArray, List.set_cons_zero, List.set_cons_succ, List.getElem_toArray, List.getElem_cons_zero, List.getElem_cons_succ]
                refine wpAnyH_take (i := 29) (v := ?_) rfl (by kernel_rfl) (by kernel_rfl) (by kernel_rfl) (fun _ _ _ h => h) (Or.inl ⟨by kernel_rfl, ?_⟩) (by assumption) ?_
                rotate_left
                · intro w hSw; (try dsimp only at hSw); go_simp; first | done | with_reducible rfl
                simp only [Act.put, List.setIfInBounds_toArray, List.set_cons_zero, List.set_cons_succ, List.getElem_toArray, List.getElem_cons_zero, List.getElem_cons_succ]
                refine wpAnyH_take (i := 30) (v := ?_) rfl (by kernel_rfl) (by kernel_rfl) (by kernel_rfl) (fun _ _ _ h => h) (Or.inl ⟨by kernel_rfl, ?_⟩) (by assumption) ?_
                rotate_left
                · intro w hSw; (try dsimp only at hSw); go_simp; first | done | with_reducible rfl
                simp only [Act.put, List.setIfInBounds_toArray, List.set_cons_zero, List.set_cons_succ, List.getElem_toArray, List.getElem_cons_zero, List.getElem_cons_succ]
                refine wpAnyH_take (i := 31) (v := .int .i64 p) rfl (by kernel_rfl) (by kernel_rfl) (by kernel_rfl) (fun _ _ _ h => h) (Or.inl ⟨by kernel_rfl, ?_⟩) (by assumption) ?_
                · intro w hSw; clear hSw; go_simp; first | done | with_reducible rfl | omega | (rw [wrap_i64_eq]; omega)
                simp only [Act.put, List.setIfInBounds_toArray, List.set_cons_zero, List.set_cons_succ, List.getElem_toArray, List.getElem_cons_zero, List.getElem_cons_succ]
                refine wpAnyH_take (i := 32) (v := ?_) rfl (by kernel_rfl) (by kernel_rfl) (by kernel_rfl) (fun _ _ _ h => h) (Or.inl ⟨by kernel_rfl, ?_⟩) (by assumption) ?_
                rotate_left
                · intro w hSw; (try dsimp only at hSw); go_simp; first | done | with_reducible rfl
                simp only [Act.put, List.setIfInBounds_toArray, List.set_cons_zero, List.set_cons_succ, List.getElem_toArray, List.getElem_cons_zero, List.getElem_cons_succ]
                refine wpAnyH_take (i := 33) (v := ?_) rfl (by kernel_rfl) (by kernel_rfl) (by kernel_rfl) (fun _ _ _ h => h) (Or.inl ⟨by kernel_rfl, ?_⟩) (by assumption) ?_
                rotate_left
                · intro w hSw; (try dsimp only at hSw); go_simp; first | done | with_reducible rfl
                simp only [Act.put, List.setIfInBounds_toArray, List.set_cons_zero, List.set_cons_succ, List.getElem_toArray, List.getElem_cons_zero, List.getElem_cons_succ]
                refine wpAnyH_take (i := 34) (v := ?_) rfl (by kernel_rfl) (by kernel_rfl) (by kernel_rfl) (fun _ _ _ h => h) (Or.inl ⟨by kernel_rfl, ?_⟩) (by assumption) ?_
                rotate_left
                · intro w hSw; (try dsimp only at hSw); go_simp; first | done | with_reducible rfl
                simp only [Act.put, List.setIfInBounds_toArray, List.set_cons_zero, List.set_cons_succ, List.getElem_toArray, List.getElem_cons_zero, List.getElem_cons_succ]
                refine wpAnyH_ready (rs := [35]) (by kernel_rfl) (by simp) ?_
                refine AllReadyH.cons rfl (fun K hK => ?_) AllReadyH.nil
                go_simp
                refine CB1.mono ?_
                rintro _ w9 ⟨rfl, hw9⟩
                obtain ⟨kcm, hb9, n1, n2, n3, n4, n5, n6, n7, n8, n9⟩ := HN.out w9 hw9
                have kca := HCA.out w9 hb9
                rw [HMV.out] at kcm
                have kc1 : w9.cell? ⟨mg, j, none⟩ = some (.slice (some ⟨g j, 0, none⟩) (q_n + 3) (cap j)) ∧ w9.cell? ⟨ba, oa + p * 3 + 1, none⟩ = some (.slice q_o q_n q_c) := ⟨kcm, kca⟩
                refine hK.out _ _ kc1 (fun hHeld1 => ?_)
                clear hK K hHeld0
                try simp only [Act.put, List.setIfInBounds_toArray, List.set_cons_zero, List.set_cons_succ, List.getElem_toArray, List.getElem_cons_zero, List.getElem_cons_succ]
                refine wpAnyH_take (i := 36) (v := ?_) rfl (by kernel_rfl) (by kernel_rfl) (by kernel_rfl) (fun _ _ _ h => h) (Or.inl ⟨by kernel_rfl, ?_⟩) (by assumption) ?_
                rotate_left
                · intro w hSw; (try dsimp only at hSw); go_simp; first | done | with_reducible rfl
                simp only [Act.put, List.setIfInBounds_toArray, List.set_cons_zero, List.set_cons_succ, List.getElem_toArray, List.getElem_cons_zero, List.getElem_cons_succ]
                refine wpAnyH_take (i := 37) (v := ?_) rfl (by kernel_rfl) (by kernel_rfl) (by kernel_rfl) (fun _ _ _ h => h) (Or.inl ⟨by kernel_rfl, ?_⟩) (by assumption) ?_
                rotate_left
                · intro w hSw; (try dsimp only at hSw); go_simp; first | done | with_reducible rfl
                simp only [Act.put, List.setIfInBounds_toArray, List.set_cons_zero, List.set_cons_succ, List.getElem_toArray, List.getElem_cons_zero, List.getElem_cons_succ]
                refine wpAnyH_take (i := 38) (v := ?_) rfl (by kernel_rfl) (by kernel_rfl) (by kernel_rfl) (fun _ _ _ h => h) (Or.inl ⟨by kernel_rfl, ?_⟩) (by assumption) ?_
                rotate_left
                · intro w hSw; (try dsimp only at hSw); go_simp; first | done | with_reducible rfl
                simp only [Act.put, List.setIfInBounds_toArray, List.set_cons_zero, List.set_cons_succ, List.getElem_toArray, List.getElem_cons_zero, List.getElem_cons_succ]
                refine wpAnyH_done (by kernel_rfl) ?_ _
                go_wp2
                go_roundw
                case rel => exact ⟨j + 1, by omega, by go_num, n1, n2, n3, n4, n5, n6, n7, n8, n9⟩
                case measure => simp [intOf]; omega
            · obtain rfl : j = n + m := by omega
              clear hlt hj HL hmo
              generalize hw10 : wr = w10 at S_K D_K HS HD HF HB HK HSZ hbr ⊢
              clear hw10
              have HW0 : Hid (w0.heap.size ≤ w.heap.size) := hb0.size
              have S_K := S_K.out
              have D_K := D_K.out
              go_wp2_with fail
              cases bad
              · skip
                have HFA : Hid (DFitA wb.heap.size w10 (sumV a n) (.agg #[.bool s_g, .slice s_o s_n s_c, .int .i64 s_e]) s_r) := Ansd.ok HS.out
                clear HS
                have CSU : Hid _ := law3sum_md ao n ca a ha (bad_ok HBA.out) la hn
                have hdr : Below w10.heap.size w10 w10.drew := (bel_refl w10).drew
                have hbd : Below w0.heap.size w0 w10.drew := hbr.trans (hdr.mono hbr.size)
                have kc0 : w10.drew.cell? ⟨w5.heap.size, 0, none⟩ = some (.bool s_g) ∧ w10.drew.cell? ⟨w5.heap.size, 1, none⟩ = some (.slice s_o s_n s_c) ∧ w10.drew.cell? ⟨w5.heap.size, 2, none⟩ = some (.int .i64 s_e) := ⟨blkC ((hdr.block _ (Array.getElem?_eq_some_iff.1 S_K).1).trans S_K) 0 rfl, blkC ((hdr.block _ (Array.getElem?_eq_some_iff.1 S_K).1).trans S_K) 1 rfl, blkC ((hdr.block _ (Array.getElem?_eq_some_iff.1 S_K).1).trans S_K) 2 rfl⟩
                go_region_held3 (fun W => W.cell? ⟨w5.heap.size, 0, none⟩ = some (.bool s_g) ∧ W.cell? ⟨w5.heap.size, 1, none⟩ = some (.slice s_o s_n s_c) ∧ W.cell? ⟨w5.heap.size, 2, none⟩ = some (.int .i64 s_e))
                  (first | assumption)
                  (first | (go_at_call 24; have _t := kc1; refine (is_any HK11.out (HFA11.out.lower (by have z1 := HBW.out.size; have z2 := hs5.out; have z3 := hs6.out; have z4 := hs7.out; have z5 := hs8.out; have z6 := HSZ.out; have := HW0.out; omega)) want_D hB11.size (fun g hg => (show ¬ g < w.heap.size from (by have h1 := HSL.out g hg; have z1 := HBW.out.size; have z2 := hs5.out; have z3 := hs6.out; have z4 := hs7.out; have z5 := hs8.out; have z6 := HSZ.out; omega)))).mono ?_; rintro _ w12 ⟨rfl, hI, hk12⟩; have S12 := (hI.block _ _ _ _ (by decide) (by decide) S11).trans S11; have D12 := (hI.block _ _ _ _ (by decide) (by decide) D11).trans D11; have HD12 : Hid (Ansd w6.heap.size w12 (mdD n m false worse) DV (.agg #[.bool d_g, .slice d_o d_n d_c, .int .i64 d_e]) d_r) := HD11.out.ik hI; have HF12 : Hid (Fr w w12) := HF11.out.trans hI.fr; have hB12 : Below w0.heap.size w0 w12 := hB11.trans hI.below; have HK12 : Hid (∃ S, Kept w0.heap.size w12 k S ∧ ∀ g, (Value.slice d_o d_n d_c).ownBlock = some g → ¬ S g) := ⟨_, hk12, s2_apart HSL.out HDL.out (by have z1 := HBW.out.size; have z2 := hs5.out; have z3 := hs6.out; have z4 := hs7.out; have z5 := hs8.out; have z6 := HSZ.out; omega) (by have z1 := HBW.out.size; have z2 := hs5.out; have z3 := hs6.out; have z4 := hs7.out; have z5 := hs8.out; have z6 := HSZ.out; omega) (by have z1 := HBW.out.size; have z2 := hs5.out; have z3 := hs6.out; have z4 := hs7.out; have z5 := hs8.out; have z6 := HSZ.out; have := hw11.size; omega)⟩; have kc2 : w12.cell? ⟨w5.heap.size, 0, none⟩ = some (.bool s_g) ∧ w12.cell? ⟨w5.heap.size, 1, none⟩ = some (.slice s_o s_n s_c) ∧ w12.cell? ⟨w5.heap.size, 2, none⟩ = some (.int .i64 s_e) := ⟨blkC S12 0 rfl, blkC S12 1 rfl, blkC S12 2 rfl⟩) | (go_at_call 46; have _t := kc0; refine (CSU.out _ hbd).mono ?_; rintro _ w11 ⟨v_g, v_o, v_n, v_c, v_e, rfl, hw, want_D⟩; have hw11 := bel_trans hdr hw; have S11 := (hw11.block _ (Array.getElem?_eq_some_iff.1 S_K).1).trans S_K; have D11 := (hw11.block _ (Array.getElem?_eq_some_iff.1 D_K).1).trans D_K; have HD11 : Hid (Ansd w6.heap.size w11 (mdD n m false worse) DV (.agg #[.bool d_g, .slice d_o d_n d_c, .int .i64 d_e]) d_r) := HD.out.keeps hw11; have HF11 : Hid (Fr w w11) := HF.out.trans (Fr.of hw11); have hB11 : Below w0.heap.size w0 w11 := hbr.trans (hw11.mono hbr.size); have HK11 : Hid (Kept w0.heap.size w11 k (fun g => g < w.heap.size)) := HK.out.keeps hw11; have kc1 : w11.cell? ⟨w5.heap.size, 0, none⟩ = some (.bool s_g) ∧ w11.cell? ⟨w5.heap.size, 1, none⟩ = some (.slice s_o s_n s_c) ∧ w11.cell? ⟨w5.heap.size, 2, none⟩ = some (.int .i64 s_e) := ⟨blkC S11 0 rfl, blkC S11 1 rfl, blkC S11 2 rfl⟩; have HFA11 : Hid (DFitA wb.heap.size w11 (sumV a n) (.agg #[.bool s_g, .slice s_o s_n s_c, .int .i64 s_e]) s_r) := HFA.out.keeps hw11))
                clear kc0 kc1 kc2 S12 S11 D11 HD11 HF11 HK11 HFA HFA11 CSU want_D
                have D_K := D12
                clear D12
                by_cases e : n = m
                · subst e
                  cases worse
                  · have HFD : Hid (DFitA w6.heap.size w12 (dotV a b n) (.agg #[.bool d_g, .slice d_o d_n d_c, .int .i64 d_e]) d_r) := (show DFitA w6.heap.size w12 (dotV a b n) (.agg #[.bool d_g, .slice d_o d_n d_c, .int .i64 d_e]) d_r by have h := HD12.out; unfold mdD at h; rw [if_pos rfl, HVD.out rfl] at h; exact Ansd.ok h)
                    have CDO : Hid _ := rdot3_md ao bo n ca cb a b ha hb (bad_ok HBA.out) (bad_ok HBD.out) la lb hn
                    clear HD12
                    have f0 := blkC D_K 0 rfl
                    have f1 := blkC D_K 1 rfl
                    have f2 := blkC D_K 2 rfl
                    have hdr2 : Below w12.heap.size w12 w12.drew := (bel_refl w12).drew
                    have hbd2 : Below w0.heap.size w0 w12.drew := hB12.trans (hdr2.mono hB12.size)
                    obtain ⟨S12, hK12, hap12⟩ := HK12.out
                    have HK13 : Hid (Kept w0.heap.size w12 k S12) := hK12
                    have HAP : Hid (∀ g, (Value.slice d_o d_n d_c).ownBlock = some g → ¬ S12 g) := hap12
                    clear hK12 hap12 HK12 f0 f1 f2
                    go_wp2_with fail
                    have kd0 : w12.drew.cell? ⟨w7.heap.size, 0, none⟩ = some (.bool d_g) ∧ w12.drew.cell? ⟨w7.heap.size, 1, none⟩ = some (.slice d_o d_n d_c) ∧ w12.drew.cell? ⟨w7.heap.size, 2, none⟩ = some (.int .i64 d_e) := ⟨blkC ((hdr2.block _ (Array.getElem?_eq_some_iff.1 D_K).1).trans D_K) 0 rfl, blkC ((hdr2.block _ (Array.getElem?_eq_some_iff.1 D_K).1).trans D_K) 1 rfl, blkC ((hdr2.block _ (Array.getElem?_eq_some_iff.1 D_K).1).trans D_K) 2 rfl⟩
                    go_region_held3 (fun W => W.cell? ⟨w7.heap.size, 0, none⟩ = some (.bool d_g) ∧ W.cell? ⟨w7.heap.size, 1, none⟩ = some (.slice d_o d_n d_c) ∧ W.cell? ⟨w7.heap.size, 2, none⟩ = some (.int .i64 d_e))
                      (first | assumption)
                      (first | (go_at_call 24; have _t := kd1; refine (is_any HK14.out (HFD13.out.lower (by have z1 := HBW.out.size; have z2 := hs5.out; have z3 := hs6.out; have z4 := hs7.out; have z5 := hs8.out; have z6 := HSZ.out; have := HW0.out; omega)) want_D hB13.size HAP.out).mono ?_; rintro _ w14 ⟨rfl, hI, hk14⟩; have D14 := (hI.block _ _ _ _ (by decide) (by decide) D13).trans D13; have HK15 : Hid (∃ S, Kept w0.heap.size w14 k S) := ⟨_, hk14⟩; have HF14 : Hid (Fr w w14) := HF13.out.trans hI.fr; have hB14 : Below w0.heap.size w0 w14 := hB13.trans hI.below; have kd2 : w14.cell? ⟨w7.heap.size, 0, none⟩ = some (.bool d_g) ∧ w14.cell? ⟨w7.heap.size, 1, none⟩ = some (.slice d_o d_n d_c) ∧ w14.cell? ⟨w7.heap.size, 2, none⟩ = some (.int .i64 d_e) := ⟨blkC D14 0 rfl, blkC D14 1 rfl, blkC D14 2 rfl⟩) | (go_at_call 47; have _t := kd0; refine (CDO.out _ hbd2).mono ?_; rintro _ w13 ⟨v_g, v_o, v_n, v_c, v_e, rfl, hw, want_D⟩; have hw13 := bel_trans hdr2 hw; have D13 := (hw13.block _ (Array.getElem?_eq_some_iff.1 D_K).1).trans D_K; have HFD13 : Hid (DFitA w6.heap.size w13 (dotV a b n) (.agg #[.bool d_g, .slice d_o d_n d_c, .int .i64 d_e]) d_r) := HFD.out.keeps hw13; have HF13 : Hid (Fr w w13) := HF12.out.trans (Fr.of hw13); have hB13 : Below w0.heap.size w0 w13 := hB12.trans (hw13.mono hB12.size); have HK14 : Hid (Kept w0.heap.size w13 k S12) := HK13.out.keeps hw13; have kd1 : w13.cell? ⟨w7.heap.size, 0, none⟩ = some (.bool d_g) ∧ w13.cell? ⟨w7.heap.size, 1, none⟩ = some (.slice d_o d_n d_c) ∧ w13.cell? ⟨w7.heap.size, 2, none⟩ = some (.int .i64 d_e) := ⟨blkC D13 0 rfl, blkC D13 1 rfl, blkC D13 2 rfl⟩))
                    all_goals go_wp2
                    all_goals go_ret
                    all_goals exact ⟨rfl, hB14, HK15.out, HF14.out⟩
                  · obtain ⟨⟨rfl, rfl, rfl, rfl, rfl⟩, rfl⟩ := Ansd.bad (show Ansd w6.heap.size w12 1 DV (.agg #[.bool d_g, .slice d_o d_n d_c, .int .i64 d_e]) d_r by have h := HD12.out; unfold mdD at h; rw [if_pos rfl] at h; exact h)
                    clear HD12
                    have f0 := blkC D_K 0 rfl
                    have f1 := blkC D_K 1 rfl
                    have f2 := blkC D_K 2 rfl
                    have hdr2 : Below w12.heap.size w12 w12.drew := (bel_refl w12).drew
                    obtain ⟨S12, hK12, _⟩ := HK12.out
                    have HK13 : Hid (Kept w0.heap.size w12 k S12) := hK12
                    clear hK12
                    go_wp2_with (go_at_call 24; refine (is_bad _).mono ?_; rintro _ w13 ⟨rfl, hw⟩)
                    go_ret
                    exact ⟨rfl, hB12.trans (hw.mono hB12.size), ⟨_, HK13.out.keeps hw⟩, HF12.out.trans (Fr.of hw)⟩
                · obtain ⟨⟨rfl, rfl, rfl, rfl, rfl⟩, rfl⟩ := Ansd.arg (show Ansd w6.heap.size w12 2 DV (.agg #[.bool d_g, .slice d_o d_n d_c, .int .i64 d_e]) d_r by have h := HD12.out; unfold mdD at h; rw [if_neg e] at h; exact h)
                  clear HD12
                  have f0 := blkC D_K 0 rfl
                  have f1 := blkC D_K 1 rfl
                  have f2 := blkC D_K 2 rfl
                  have e1 : ¬ ((n : Int) = (m : Int)) := by omega
                  obtain ⟨S12, hK12, _⟩ := HK12.out
                  have HK13 : Hid (Kept w0.heap.size w12 k S12) := hK12
                  clear hK12
                  go_wp2_with (go_at_call 15; refine (sameD_yes (DNum.zero _) (DNum.zero _)).mono ?_; rintro _ w13 ⟨rfl, hw⟩)
                  go_ret
                  exact ⟨rfl, hB12.trans (hw.mono hB12.size), ⟨_, HK13.out.keeps hw⟩, HF12.out.trans (Fr.of hw)⟩
              · skip
                obtain ⟨⟨rfl, rfl, rfl, rfl, rfl⟩, rfl⟩ := Ansd.bad HS.out
                clear HS
                have hdr : Below w10.heap.size w10 w10.drew := (bel_refl w10).drew
                have hbd : Below w0.heap.size w0 w10.drew := hbr.trans (hdr.mono hbr.size)
                have kc0 : w10.drew.cell? ⟨w5.heap.size, 0, none⟩ = some (.bool false) ∧ w10.drew.cell? ⟨w5.heap.size, 1, none⟩ = some (.slice none 0 0) ∧ w10.drew.cell? ⟨w5.heap.size, 2, none⟩ = some (.int .i64 0) := ⟨blkC ((hdr.block _ (Array.getElem?_eq_some_iff.1 S_K).1).trans S_K) 0 rfl, blkC ((hdr.block _ (Array.getElem?_eq_some_iff.1 S_K).1).trans S_K) 1 rfl, blkC ((hdr.block _ (Array.getElem?_eq_some_iff.1 S_K).1).trans S_K) 2 rfl⟩
                go_region_held3 (fun W => W.cell? ⟨w5.heap.size, 0, none⟩ = some (.bool false) ∧ W.cell? ⟨w5.heap.size, 1, none⟩ = some (.slice none 0 0) ∧ W.cell? ⟨w5.heap.size, 2, none⟩ = some (.int .i64 0))
                  (first | assumption)
                  (first | (go_at_call 24; have _t := kc1; refine (is_bad _).mono ?_; rintro _ w12 ⟨rfl, hw⟩; have S12 := (hw.block _ (Array.getElem?_eq_some_iff.1 S11).1).trans S11; have D12 := (hw.block _ (Array.getElem?_eq_some_iff.1 D11).1).trans D11; have HD12 : Hid (Ansd w6.heap.size w12 (mdD n m true worse) DV (.agg #[.bool d_g, .slice d_o d_n d_c, .int .i64 d_e]) d_r) := HD11.out.keeps hw; have HF12 : Hid (Fr w w12) := HF11.out.trans (Fr.of hw); have hB12 : Below w0.heap.size w0 w12 := hB11.trans (hw.mono hB11.size); have HK12 : Hid (∃ S, Kept w0.heap.size w12 k S ∧ ∀ g, (Value.slice d_o d_n d_c).ownBlock = some g → ¬ S g) := ⟨_, HK11.out.keeps hw, fun g hg => (show ¬ g < w.heap.size from (by have h1 := HDL.out g hg; have z1 := HBW.out.size; have z2 := hs5.out; have z3 := hs6.out; have z4 := hs7.out; have z5 := hs8.out; have z6 := HSZ.out; omega))⟩; have kc2 : w12.cell? ⟨w5.heap.size, 0, none⟩ = some (.bool false) ∧ w12.cell? ⟨w5.heap.size, 1, none⟩ = some (.slice none 0 0) ∧ w12.cell? ⟨w5.heap.size, 2, none⟩ = some (.int .i64 0) := ⟨blkC S12 0 rfl, blkC S12 1 rfl, blkC S12 2 rfl⟩) | (go_at_call 46; have _t := kc0; refine (law3sum_bad ao n ca _).mono ?_; rintro _ w11 ⟨rfl, hw⟩; have hw11 := bel_trans hdr hw; have S11 := (hw11.block _ (Array.getElem?_eq_some_iff.1 S_K).1).trans S_K; have D11 := (hw11.block _ (Array.getElem?_eq_some_iff.1 D_K).1).trans D_K; have HD11 : Hid (Ansd w6.heap.size w11 (mdD n m true worse) DV (.agg #[.bool d_g, .slice d_o d_n d_c, .int .i64 d_e]) d_r) := HD.out.keeps hw11; have HF11 : Hid (Fr w w11) := HF.out.trans (Fr.of hw11); have hB11 : Below w0.heap.size w0 w11 := hbr.trans (hw11.mono hbr.size); have HK11 : Hid (Kept w0.heap.size w11 k (fun g => g < w.heap.size)) := HK.out.keeps hw11; have kc1 : w11.cell? ⟨w5.heap.size, 0, none⟩ = some (.bool false) ∧ w11.cell? ⟨w5.heap.size, 1, none⟩ = some (.slice none 0 0) ∧ w11.cell? ⟨w5.heap.size, 2, none⟩ = some (.int .i64 0) := ⟨blkC S11 0 rfl, blkC S11 1 rfl, blkC S11 2 rfl⟩))
                clear kc0 kc1 kc2 S12 S11 D11 HD11 HF11 HK11
                have D_K := D12
                clear D12
                by_cases e : n = m
                · subst e
                  obtain ⟨⟨rfl, rfl, rfl, rfl, rfl⟩, rfl⟩ := Ansd.bad (show Ansd w6.heap.size w12 1 DV (.agg #[.bool d_g, .slice d_o d_n d_c, .int .i64 d_e]) d_r by have h := HD12.out; unfold mdD at h; rw [if_pos rfl] at h; exact h)
                  clear HD12
                  have f0 := blkC D_K 0 rfl
                  have f1 := blkC D_K 1 rfl
                  have f2 := blkC D_K 2 rfl
                  have hdr2 : Below w12.heap.size w12 w12.drew := (bel_refl w12).drew
                  obtain ⟨S12, hK12, _⟩ := HK12.out
                  have HK13 : Hid (Kept w0.heap.size w12 k S12) := hK12
                  clear hK12
                  go_wp2_with (go_at_call 24; refine (is_bad _).mono ?_; rintro _ w13 ⟨rfl, hw⟩)
                  go_ret
                  exact ⟨rfl, hB12.trans (hw.mono hB12.size), ⟨_, HK13.out.keeps hw⟩, HF12.out.trans (Fr.of hw)⟩
                · obtain ⟨⟨rfl, rfl, rfl, rfl, rfl⟩, rfl⟩ := Ansd.arg (show Ansd w6.heap.size w12 2 DV (.agg #[.bool d_g, .slice d_o d_n d_c, .int .i64 d_e]) d_r by have h := HD12.out; unfold mdD at h; rw [if_neg e] at h; exact h)
                  clear HD12
                  have f0 := blkC D_K 0 rfl
                  have f1 := blkC D_K 1 rfl
                  have f2 := blkC D_K 2 rfl
                  have e1 : ¬ ((n : Int) = (m : Int)) := by omega
                  obtain ⟨S12, hK12, _⟩ := HK12.out
                  have HK13 : Hid (Kept w0.heap.size w12 k S12) := hK12
                  clear hK12
                  go_wp2_with (go_at_call 15; refine (sameD_yes (DNum.zero _) (DNum.zero _)).mono ?_; rintro _ w13 ⟨rfl, hw⟩)
                  go_ret
                  exact ⟨rfl, hB12.trans (hw.mono hB12.size), ⟨_, HK13.out.keeps hw⟩, HF12.out.trans (Fr.of hw)⟩
end Go.Proofs.YtnhkagiionkjaaaGreatDoor
