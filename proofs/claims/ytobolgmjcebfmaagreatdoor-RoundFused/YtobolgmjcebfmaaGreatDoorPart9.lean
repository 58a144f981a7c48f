/-
  Package round: quotient, by its contract. (Written by tools/r_quot2.py.)
-/
import Derived.Test.YtobolgmjcebfmaaGreatDoorPart8
namespace Go.Proofs.YtobolgmjcebfmaaGreatDoor
open Go Go.RowKit Go.Proofs.YtobolgmjcebfmaaGreatDoor.M
set_option linter.unusedSimpArgs false
set_option linter.unusedVariables false

set_option maxRecDepth 100000 in
set_option maxHeartbeats 4000000 in
theorem quotient_any (p : Nat) (a b : NumR) (w : World) (hg : w.heap[p]? = some (.cells #[.bool a.ng, .slice a.ao a.n a.cap, .int .i64 a.e, .bool b.ng, .slice b.ao b.n b.cap, .int .i64 b.e] 31 (0, 0))) (ra : Row w a.ao a.n a.cap a.d) (rb : Row w b.ao b.n b.cap b.d) (oa : okR a = true) (ob : okR b = true) (hb0 : 0 < b.n) (hT : Tab w) :
    Calls Tryz.prog 53 #[.slice (some ⟨p, 0, none⟩) 2 2] w fun r w' => r = .returned (.tuple #[valV (a.ng != b.ng) (scV (val a.d a.n) (qK (val a.d a.n) (val b.d b.n)) / val b.d b.n).toNat (a.e - b.e - qK (val a.d a.n) (val b.d b.n)) (scC (val a.d a.n) (qK (val a.d a.n) (val b.d b.n)) || decide (scV (val a.d a.n) (qK (val a.d a.n) (val b.d b.n)) % val b.d b.n ≠ 0)) false, .int .i64 0]) ∧ Below w.heap.size w w' := by
  obtain ⟨a_g, a_o, a_n, a_c, a_d, a_e⟩ := a
  obtain ⟨b_g, b_o, b_n, b_c, b_d, b_e⟩ := b
  obtain ⟨na, hn, ea0, ea1⟩ := okR_sane oa
  obtain ⟨nb, hm, eb0, eb1⟩ := okR_sane ob
  simp only at *
  have hA0 := val_nonneg na.1
  have hB0 : 0 < val b_d b_n := val_pos nb hb0
  have hAl := blen_nrm na
  have hBl := blen_nrm nb
  have hsm := qK_small hA0 hB0
  have CBa : Hid (∀ W, Below w.heap.size w W → _) := fun W hb => bitLength_any a_o a_n a_c a_d W (ra.keeps hb) na (by omega)
  have CBb : Hid (∀ W, Below w.heap.size w W → _) := fun W hb => bitLength_any b_o b_n b_c b_d W (rb.keeps hb) nb (by omega)
  have hqk : qK (val a_d a_n) (val b_d b_n) = 62 + (blen (val b_d b_n) : Int) - (blen (val a_d a_n) : Int) := rfl
  obtain ⟨KQ, hK⟩ : ∃ K, qK (val a_d a_n) (val b_d b_n) = K := ⟨_, rfl⟩
  have CSc : Hid (∀ W, Below w.heap.size w W → _) := fun W hb => scaled_any a_o a_n a_c a_d KQ W (ra.keeps hb) na hn (by omega) (fun h => by
    rcases Int.lt_or_eq_of_le hA0 with h1 | h1
    · exact h1
    · exfalso; have h2 := hK.symm.trans hqk; rw [← h1, blen_zero] at h2; omega) (hT.keeps hb)
  obtain ⟨cutb, hC0⟩ : ∃ c, scC (val a_d a_n) KQ = c := ⟨_, rfl⟩
  rw [hC0] at CSc
  rw [hK] at hsm hqk ⊢
  rw [hC0]
  obtain ⟨SV, hSV⟩ : ∃ S, scV (val a_d a_n) KQ = S := ⟨_, rfl⟩
  rw [hSV] at CSc hsm ⊢
  have hSl : SV < P 5000 := by
    have h1 : val b_d b_n < P 2000 := (okR_dy ob).2.1
    have h3 : val b_d b_n * 9223372036854775808 ≤ P 2000 * 9223372036854775808 := Int.mul_le_mul_of_nonneg_right (Int.le_of_lt h1) (by decide)
    have h4 : P 2000 * 9223372036854775808 ≤ P 2000 * P 3 := Int.mul_le_mul_of_nonneg_left (by decide) (Int.le_of_lt (P_pos _))
    exact Int.lt_of_lt_of_le hsm.2.1 (Int.le_trans h3 (Int.le_trans h4 (by rw [← P_add]; exact P_le (by decide))))
  have CDv : Hid (∀ (W : World) so sn sc, Below w.heap.size w W → Num W (.slice so sn sc) SV → Calls Tryz.prog 81 #[.slice so sn sc, .slice b_o b_n b_c] W fun e w' => ∃ v1 v2, e = .returned (.tuple #[v1, v2]) ∧ Ans2 W w' (SV / val b_d b_n) v1 (SV % val b_d b_n) v2) := fun W so sn sc hb hN => by
    obtain ⟨ao', n', ca', d', hs, hR, hN', hV, hl⟩ := hN.parts hSl
    simp only [Value.slice.injEq] at hs
    obtain ⟨rfl, rfl, rfl⟩ := hs
    rw [← hV]
    exact divide_any _ _ _ _ _ _ _ _ _ hR (rb.keeps hb) hN' nb hl hb0
  obtain ⟨Q, hQ⟩ : ∃ Q : Nat, SV / val b_d b_n = (Q : Int) := Int.eq_ofNat_of_zero_le hsm.2.2.1
  rw [hQ] at CDv hsm ⊢
  rw [Int.toNat_natCast]
  have CM : Hid (∀ (W' : World) so sn sc, Num W' (.slice so sn sc) (Q : Int) → Calls Tryz.prog 71 #[.slice so sn sc] W' fun e w' => e = .returned (.int .i64 (Q : Int)) ∧ w' = W') := fun W' so sn sc hA => by
    obtain ⟨ao', n', ca', d', hs, hR, hN, hV, hl⟩ := hA.parts (k := 3) (by rw [show P 3 = 1237940039285380274899124224 by decide]; omega)
    simp only [Value.slice.injEq] at hs
    obtain ⟨rfl, rfl, rfl⟩ := hs
    rw [← hV]
    exact small_any _ _ _ _ _ hR hN.1 hl (by omega)
  obtain ⟨M, hM⟩ : ∃ M, SV % val b_d b_n = M := ⟨_, rfl⟩
  rw [hM] at CDv ⊢
  obtain ⟨BA, hBA⟩ : ∃ B : Int, (blen (val a_d a_n) : Int) = B := ⟨_, rfl⟩
  obtain ⟨BB, hBB⟩ : ∃ B : Int, (blen (val b_d b_n) : Int) = B := ⟨_, rfl⟩
  rw [hBA] at CBa hqk
  rw [hBB] at CBb hqk
  have hqk2 : 62 + BB - BA = KQ := hqk.symm
  have w1' : IntKind.i64.wrap (62 + BB) = 62 + BB := by rw [wrap_i64_eq]; omega
  have w2' : IntKind.i64.wrap (62 + BB - BA) = KQ := by rw [wrap_i64_eq]; omega
  have w3' : IntKind.u64.wrap (Q : Int) = (Q : Int) := by rw [IntKind.wrap_u64]; omega
  have w4' : IntKind.i64.wrap (a_e - b_e) = a_e - b_e := by rw [wrap_i64_eq]; omega
  have w5' : IntKind.i64.wrap (a_e - b_e - KQ) = a_e - b_e - KQ := by rw [wrap_i64_eq]; omega
  have hbn : ¬ (b_n : Int) = 0 := by omega
  clear hqk hqk2 hBA hBB hM hQ hSV hC0 hK hsm hSl hAl hBl hA0 hB0 oa ob hT
  unfold valV
  have k0 := blkC hg 0 rfl
  have k1 := blkC hg 1 rfl
  have k2 := blkC hg 2 rfl
  have k3 := blkC hg 3 rfl
  have k4 := blkC hg 4 rfl
  have k5 := blkC hg 5 rfl
  go_enter Tryz.func53, Tryz.ntmps53
  go_wp2_with fail
  have q0 := heap_alloc_new w (.cells #[.bool false, .int .u64 0, .int .i64 0, .bool false, .bool false] 50)
  have hb1 := bel_alloc w (.cells #[.bool false, .int .u64 0, .int .i64 0, .bool false, .bool false] 50)
  have l0 := cell_keeps k0 hb1
  have l1 := cell_keeps k1 hb1
  have l2 := cell_keeps k2 hb1
  have l3 := cell_keeps k3 hb1
  have l4 := cell_keeps k4 hb1
  have l5 := cell_keeps k5 hb1
  have hsz : w.heap.size < (w.alloc (.cells #[.bool false, .int .u64 0, .int .i64 0, .bool false, .bool false] 50)).heap.size := by simp
  generalize w.alloc (.cells #[.bool false, .int .u64 0, .int .i64 0, .bool false, .bool false] 50) = w1 at hsz q0 hb1 l0 l1 l2 l3 l4 l5 ⊢
  have hp1 : p < w1.heap.size := Nat.lt_of_lt_of_le (Array.getElem?_eq_some_iff.1 hg).1 hb1.size
  have hc : p < w1.heap.size ∧ w1.heap.size ≤ w1.drew.heap.size ∧ w1.drew.cell? ⟨p, 0, none⟩ = some (.bool a_g) ∧ w1.drew.cell? ⟨p, 1, none⟩ = some (.slice a_o a_n a_c) ∧ w1.drew.cell? ⟨p, 2, none⟩ = some (.int .i64 a_e) ∧ w1.drew.cell? ⟨p, 3, none⟩ = some (.bool b_g) ∧ w1.drew.cell? ⟨p, 4, none⟩ = some (.slice b_o b_n b_c) ∧ w1.drew.cell? ⟨p, 5, none⟩ = some (.int .i64 b_e) := ⟨hp1, Nat.le_refl _, l0, l1, l2, l3, l4, l5⟩
  go_region_held3 (fun W => p < w1.heap.size ∧ w1.heap.size ≤ W.heap.size ∧ W.cell? ⟨p, 0, none⟩ = some (.bool a_g) ∧ W.cell? ⟨p, 1, none⟩ = some (.slice a_o a_n a_c) ∧ W.cell? ⟨p, 2, none⟩ = some (.int .i64 a_e) ∧ W.cell? ⟨p, 3, none⟩ = some (.bool b_g) ∧ W.cell? ⟨p, 4, none⟩ = some (.slice b_o b_n b_c) ∧ W.cell? ⟨p, 5, none⟩ = some (.int .i64 b_e))
    (first | assumption | (repeat (first | exact hc | refine cells6_alloc _ ?_ | refine cells6_set (by first | omega | (simp; omega)) ?_)))
    (fail)
  · have A_K : ((w1.alloc (.cells #[.bool a_g, .slice a_o a_n a_c, .int .i64 a_e] 31)).alloc (.cells #[.bool b_g, .slice b_o b_n b_c, .int .i64 b_e] 31)).drew.heap[w1.heap.size]? = some (.cells #[.bool a_g, .slice a_o a_n a_c, .int .i64 a_e] 31 (0, 0)) := heap_a2 w1 (.cells #[.bool a_g, .slice a_o a_n a_c, .int .i64 a_e] 31) (.cells #[.bool b_g, .slice b_o b_n b_c, .int .i64 b_e] 31)
    have B_K : ((w1.alloc (.cells #[.bool a_g, .slice a_o a_n a_c, .int .i64 a_e] 31)).alloc (.cells #[.bool b_g, .slice b_o b_n b_c, .int .i64 b_e] 31)).drew.heap[w1.heap.size + 1]? = some (.cells #[.bool b_g, .slice b_o b_n b_c, .int .i64 b_e] 31 (0, 0)) := heap_b2 w1 (.cells #[.bool a_g, .slice a_o a_n a_c, .int .i64 a_e] 31) (.cells #[.bool b_g, .slice b_o b_n b_c, .int .i64 b_e] 31)
    have hb2 : Below w1.heap.size w1 ((w1.alloc (.cells #[.bool a_g, .slice a_o a_n a_c, .int .i64 a_e] 31)).alloc (.cells #[.bool b_g, .slice b_o b_n b_c, .int .i64 b_e] 31)).drew := (bel_alloc2 w1 _ _).drew
    have R_K := (hb2.block _ (Array.getElem?_eq_some_iff.1 q0).1).trans q0
    have hbw := bel_trans hb1 hb2
    generalize ((w1.alloc (.cells #[.bool a_g, .slice a_o a_n a_c, .int .i64 a_e] 31)).alloc (.cells #[.bool b_g, .slice b_o b_n b_c, .int .i64 b_e] 31)).drew = w2 at A_K B_K hb2 R_K hbw ⊢
    clear q0 hb1 hb2 l0 l1 l2 l3 l4 l5 hc hp1 k0 k1 k2 k3 k4 k5
    have a1 := blkC A_K 1 rfl
    have b1 := blkC B_K 1 rfl
    go_wp2_with fail
    have hdr : Below w2.heap.size w2 w2.drew := (bel_refl w2).drew
    have hbd := bel_trans hbw hdr
    go_region_held3 (fun W => W.cell? ⟨w1.heap.size, 1, none⟩ = some (.slice a_o a_n a_c) ∧ W.cell? ⟨w1.heap.size + 1, 1, none⟩ = some (.slice b_o b_n b_c))
      (first | assumption | exact ⟨a1, b1⟩)
      (first | (go_at_call 63; have _t := FB; refine (CBa.out _ hbd).mono ?_; rintro _ _ ⟨rfl, rfl⟩) | (go_at_call 63; refine (CBb.out _ hbd).mono ?_; rintro _ _ ⟨rfl, rfl⟩; have FB : True := trivial))
    go_wp2_with fail
    refine (CSc.out _ hbd).mono ?_
    rintro _ w3 ⟨v3, rfl, hA3⟩
    have hb3 := bel_trans hdr hA3.below
    have hbw3 := bel_trans hbw hb3
    obtain ⟨so, sn, sc, rfl⟩ := hA3.num.shape
    have CD1 : Hid (Calls Tryz.prog 81 #[.slice so sn sc, .slice b_o b_n b_c] w3 fun e w' => ∃ v1 v2, e = .returned (.tuple #[v1, v2]) ∧ Ans2 w3 w' (Q : Int) v1 M v2) := CDv.out w3 so sn sc hbw3 hA3.num
    have A_3 := (hb3.block _ (Array.getElem?_eq_some_iff.1 A_K).1).trans A_K
    have B_3 := (hb3.block _ (Array.getElem?_eq_some_iff.1 B_K).1).trans B_K
    have R_3 := (hb3.block _ (Array.getElem?_eq_some_iff.1 R_K).1).trans R_K
    clear hA3 CSc CDv A_K B_K R_K a1 b1 hb3 hdr hbd CBa CBb
    have b1 := blkC B_3 1 rfl
    go_wp2_with fail
    refine CD1.out.mono ?_
    rintro _ w4 ⟨v1, v2, rfl, hA1, hA2, _⟩
    have hb4 := hA1.below
    have hbw4 := bel_trans hbw3 hb4
    obtain ⟨qo, qn, qc, rfl⟩ := hA1.num.shape
    obtain ⟨lo, ln, lc, rfl⟩ := hA2.num.shape
    have hln := num_len0 hA2.num
    have CM1 : Hid (Calls Tryz.prog 71 #[.slice qo qn qc] w4.drew fun e w' => e = .returned (.int .i64 (Q : Int)) ∧ w' = w4.drew) := CM.out w4.drew qo qn qc (hA1.num.keeps (bel_refl w4).drew)
    have A_4 := (hb4.block _ (Array.getElem?_eq_some_iff.1 A_3).1).trans A_3
    have B_4 := (hb4.block _ (Array.getElem?_eq_some_iff.1 B_3).1).trans B_3
    have R_4 := (hb4.block _ (Array.getElem?_eq_some_iff.1 R_3).1).trans R_3
    clear hA1 hA2 CD1 A_3 B_3 R_3 b1 hb4 CM
    have a0 := blkC A_4 0 rfl
    have a2 := blkC A_4 2 rfl
    have b0 := blkC B_4 0 rfl
    have b2 := blkC B_4 2 rfl
    have x0 := blkC R_4 0 rfl
    have x1 := blkC R_4 1 rfl
    have x2 := blkC R_4 2 rfl
    have x3 := blkC R_4 3 rfl
    have x4 := blkC R_4 4 rfl
    have z0 := blkF R_4 0
    have z1 := blkF R_4 1
    have z2 := blkF R_4 2
    have z3 := blkF R_4 3
    have z4 := blkF R_4 4
    have s1 : w1.heap.size ≠ w.heap.size := by omega
    have s2 : w1.heap.size + 1 ≠ w.heap.size := by omega
    go_wp2_with fail
    cases cutb
    · have kc0 : w4.drew.cell? ⟨w1.heap.size, 0, none⟩ = some (.bool a_g) ∧ w4.drew.cell? ⟨w1.heap.size, 2, none⟩ = some (.int .i64 a_e) ∧ w4.drew.cell? ⟨w1.heap.size + 1, 0, none⟩ = some (.bool b_g) ∧ w4.drew.cell? ⟨w1.heap.size + 1, 2, none⟩ = some (.int .i64 b_e) := ⟨a0, a2, b0, b2⟩
      refine wp_region_held_drew (S := fun W => W.cell? ⟨w1.heap.size, 0, none⟩ = some (.bool a_g) ∧ W.cell? ⟨w1.heap.size, 2, none⟩ = some (.int .i64 a_e) ∧ W.cell? ⟨w1.heap.size + 1, 0, none⟩ = some (.bool b_g) ∧ W.cell? ⟨w1.heap.size + 1, 2, none⟩ = some (.int .i64 b_e)) (by kernel_rfl) kc0 (fun hHeld0 => ?_)
      refine wpAnyH_take (i := 0) (v := ?_) rfl (by kernel_rfl) (by kernel_rfl) (by kernel_rfl) (fun _ _ _ h => h) (Or.inl ⟨by kernel_rfl, ?_⟩) (by assumption) ?_
      rotate_left
      · intro w hSw; (try dsimp only at hSw); go_simp; first | done | with_reducible rfl
      simp only [Act.put, List.setIfInBounds_toArray, List.set_cons_zero, List.set_cons_succ, List.getElem_toArray, List.getElem_cons_zero, List.getElem_cons_succ]
      refine wpAnyH_take (i := 1) (v := ?_) rfl (by kernel_rfl) (by kernel_rfl) (by kernel_rfl) (fun _ _ _ h => h) (Or.inl ⟨by kernel_rfl, ?_⟩) (by assumption) ?_
      rotate_left
      · intro w hSw; (try dsimp only at hSw); go_simp; first | done | with_reducible rfl
      simp only [Act.put, List.setIfInBounds_toArray, List.set_cons_zero, List.set_cons_succ, List.getElem_toArray, List.getElem_cons_zero, List.getElem_cons_succ]
      refine wpAnyH_take (i := 2) (v := ?_) rfl (by kernel_rfl) (by kernel_rfl) (by kernel_rfl) (fun _ _ _ h => h) (Or.inl ⟨by kernel_rfl, ?_⟩) (by assumption) ?_
      rotate_left
      · intro w hSw; (try dsimp only at hSw); go_simp; first | done | with_reducible rfl
      simp only [Act.put, List.setIfInBounds_toArray, List.set_cons_zero, List.set_cons_succ, List.getElem_toArray, List.getElem_cons_zero, List.getElem_cons_succ]
      refine wpAnyH_take (i := 3) (v := ?_) rfl (by kernel_rfl) (by kernel_rfl) (by kernel_rfl) (fun _ _ _ h => h) (Or.inl ⟨by kernel_rfl, ?_⟩) (by assumption) ?_
      rotate_left
      · intro w hSw; (try dsimp only at hSw); go_simp; first | done | with_reducible rfl
      simp only [Act.put, List.setIfInBounds_toArray, List.set_cons_zero, List.set_cons_succ, List.getElem_toArray, List.getElem_cons_zero, List.getElem_cons_succ]
      refine wpAnyH_take (i := 4) (v := ?_) rfl (by kernel_rfl) (by kernel_rfl) (by kernel_rfl) (fun _ _ _ h => h) (Or.inl ⟨by kernel_rfl, ?_⟩) (by assumption) ?_
      rotate_left
      · intro w hSw; (try dsimp only at hSw); go_simp; first | done | with_reducible rfl
      simp only [Act.put, List.setIfInBounds_toArray, List.set_cons_zero, List.set_cons_succ, List.getElem_toArray, List.getElem_cons_zero, List.getElem_cons_succ]
      refine wpAnyH_take (i := 5) (v := ?_) rfl (by kernel_rfl) (by kernel_rfl) (by kernel_rfl) (fun _ _ _ h => h) (Or.inl ⟨by kernel_rfl, ?_⟩) (by assumption) ?_
      rotate_left
      · intro w hSw; (try dsimp only at hSw); go_simp; first | done | with_reducible rfl
      simp only [Act.put, List.setIfInBounds_toArray, List.set_cons_zero, List.set_cons_succ, List.getElem_toArray, List.getElem_cons_zero, List.getElem_cons_succ]
      refine wpAnyH_take (i := 8) (v := ?_) rfl (by kernel_rfl) (by kernel_rfl) (by kernel_rfl) (fun _ _ _ h => h) (Or.inl ⟨by kernel_rfl, ?_⟩) (by assumption) ?_
      rotate_left
      · intro w hSw; (try dsimp only at hSw); go_simp; first | done | with_reducible rfl
      simp only [Act.put, List.setIfInBounds_toArray, List.set_cons_zero, List.set_cons_succ, List.getElem_toArray, List.getElem_cons_zero, List.getElem_cons_succ]
      refine wpAnyH_take (i := 9) (v := ?_) rfl (by kernel_rfl) (by kernel_rfl) (by kernel_rfl) (fun _ _ _ h => h) (Or.inl ⟨by kernel_rfl, ?_⟩) (by assumption) ?_
      rotate_left
      · intro w hSw; (try dsimp only at hSw); go_simp; first | done | with_reducible rfl
      simp only [Act.put, List.setIfInBounds_toArray, List.set_cons_zero, List.set_cons_succ, List.getElem_toArray, List.getElem_cons_zero, List.getElem_cons_succ]
      refine wpAnyH_take (i := 10) (v := ?_) rfl (by kernel_rfl) (by kernel_rfl) (by kernel_rfl) (fun _ _ _ h => h) (Or.inl ⟨by kernel_rfl, ?_⟩) (by assumption) ?_
      rotate_left
      · intro w hSw; (try dsimp only at hSw); go_simp; first | done | with_reducible rfl
      simp only [Act.put, List.setIfInBounds_toArray, List.set_cons_zero, List.set_cons_succ, List.getElem_toArray, List.getElem_cons_zero, List.getElem_cons_succ]
      refine wpAnyH_take (i := 11) (v := ?_) rfl (by kernel_rfl) (by kernel_rfl) (by kernel_rfl) (fun _ _ _ h => h) (Or.inl ⟨by kernel_rfl, ?_⟩) (by assumption) ?_
      rotate_left
      · intro w hSw; (try dsimp only at hSw); go_simp; first | done | with_reducible rfl
      simp only [Act.put, List.setIfInBounds_toArray, List.set_cons_zero, List.set_cons_succ, List.getElem_toArray, List.getElem_cons_zero, List.getElem_cons_succ]
      refine wpAnyH_take (i := 12) (v := ?_) rfl (by kernel_rfl) (by kernel_rfl) (by kernel_rfl) (fun _ _ _ h => h) (Or.inl ⟨by kernel_rfl, ?_⟩) (by assumption) ?_
      rotate_left
      · intro w hSw; (try dsimp only at hSw); go_simp; first | done | with_reducible rfl
      simp only [Act.put, List.setIfInBounds_toArray, List.set_cons_zero, List.set_cons_succ, List.getElem_toArray, List.getElem_cons_zero, List.getElem_cons_succ]
      refine wpAnyH_take (i := 13) (v := ?_) rfl (by kernel_rfl) (by kernel_rfl) (by kernel_rfl) (fun _ _ _ h => h) (Or.inl ⟨by kernel_rfl, ?_⟩) (by assumption) ?_
      rotate_left
      · intro w hSw; (try dsimp only at hSw); go_simp; first | done | with_reducible rfl
      simp only [Act.put, List.setIfInBounds_toArray, List.set_cons_zero, List.set_cons_succ, List.getElem_toArray, List.getElem_cons_zero, List.getElem_cons_succ]
      refine wpAnyH_take (i := 14) (v := ?_) rfl (by kernel_rfl) (by kernel_rfl) (by kernel_rfl) (fun _ _ _ h => h) (Or.inl ⟨by kernel_rfl, ?_⟩) (by assumption) ?_
      rotate_left
      · intro w hSw; (try dsimp only at hSw); go_simp; first | done | with_reducible rfl
      simp only [Act.put, List.setIfInBounds_toArray, List.set_cons_zero, List.set_cons_succ, List.getElem_toArray, List.getElem_cons_zero, List.getElem_cons_succ]
      refine wpAnyH_take (i := 15) (v := ?_) rfl (by kernel_rfl) (by kernel_rfl) (by kernel_rfl) (fun _ _ _ h => h) (Or.inl ⟨by kernel_rfl, ?_⟩) (by assumption) ?_
      rotate_left
      · intro w hSw; (try dsimp only at hSw); go_simp; first | done | with_reducible rfl
      simp only [Act.put, List.setIfInBounds_toArray, List.set_cons_zero, List.set_cons_succ, List.getElem_toArray, List.getElem_cons_zero, List.getElem_cons_succ]
      refine wpAnyH_ready (rs := [6]) (by kernel_rfl) (by simp) ?_
      refine AllReadyH.cons rfl (fun K hK => ?_) AllReadyH.nil
      go_simp
      refine CM1.out.mono ?_
      rintro _ _ ⟨rfl, rfl⟩
      refine hK.out _ _ kc0 (fun hHeld1 => ?_)
      clear hK K
      try simp only [Act.put, List.setIfInBounds_toArray, List.set_cons_zero, List.set_cons_succ, List.getElem_toArray, List.getElem_cons_zero, List.getElem_cons_succ]
      refine wpAnyH_take (i := 7) (v := ?_) rfl (by kernel_rfl) (by kernel_rfl) (by kernel_rfl) (fun _ _ _ h => h) (Or.inl ⟨by kernel_rfl, ?_⟩) (by assumption) ?_
      rotate_left
      · intro w hSw; (try dsimp only at hSw); go_simp; first | done | with_reducible rfl
      simp only [Act.put, List.setIfInBounds_toArray, List.set_cons_zero, List.set_cons_succ, List.getElem_toArray, List.getElem_cons_zero, List.getElem_cons_succ]
      refine wpAnyH_take (i := 16) (v := ?_) rfl (by kernel_rfl) (by kernel_rfl) (by kernel_rfl) (fun _ _ _ h => h) (Or.inl ⟨by kernel_rfl, ?_⟩) (by assumption) ?_
      rotate_left
      · intro w hSw; (try dsimp only at hSw); go_simp; first | done | with_reducible rfl
      simp only [Act.put, List.setIfInBounds_toArray, List.set_cons_zero, List.set_cons_succ, List.getElem_toArray, List.getElem_cons_zero, List.getElem_cons_succ]
      refine wpAnyH_take (i := 17) (v := ?_) rfl (by kernel_rfl) (by kernel_rfl) (by kernel_rfl) (fun _ _ _ h => h) (Or.inl ⟨by kernel_rfl, ?_⟩) (by assumption) ?_
      rotate_left
      · intro w hSw; (try dsimp only at hSw); go_simp; first | done | with_reducible rfl
      simp only [Act.put, List.setIfInBounds_toArray, List.set_cons_zero, List.set_cons_succ, List.getElem_toArray, List.getElem_cons_zero, List.getElem_cons_succ]
      refine wpAnyH_take (i := 18) (v := ?_) rfl (by kernel_rfl) (by kernel_rfl) (by kernel_rfl) (fun _ _ _ h => h) (Or.inl ⟨by kernel_rfl, ?_⟩) (by assumption) ?_
      rotate_left
      · intro w hSw; (try dsimp only at hSw); go_simp; first | done | with_reducible rfl
      simp only [Act.put, List.setIfInBounds_toArray, List.set_cons_zero, List.set_cons_succ, List.getElem_toArray, List.getElem_cons_zero, List.getElem_cons_succ]
      refine wpAnyH_take (i := 19) (v := ?_) rfl (by kernel_rfl) (by kernel_rfl) (by kernel_rfl) (fun _ _ _ h => h) (Or.inl ⟨by kernel_rfl, ?_⟩) (by assumption) ?_
      rotate_left
      · intro w hSw; (try dsimp only at hSw); go_simp; first | done | with_reducible rfl
      simp only [Act.put, List.setIfInBounds_toArray, List.set_cons_zero, List.set_cons_succ, List.getElem_toArray, List.getElem_cons_zero, List.getElem_cons_succ]
      refine wpAnyH_take (i := 20) (v := ?_) rfl (by kernel_rfl) (by kernel_rfl) (by kernel_rfl) (fun _ _ _ h => h) (Or.inl ⟨by kernel_rfl, ?_⟩) (by assumption) ?_
      rotate_left
      · intro w hSw; (try dsimp only at hSw); go_simp; first | done | with_reducible rfl
      simp only [Act.put, List.setIfInBounds_toArray, List.set_cons_zero, List.set_cons_succ, List.getElem_toArray, List.getElem_cons_zero, List.getElem_cons_succ]
      refine wpAnyH_take (i := 21) (v := ?_) rfl (by kernel_rfl) (by kernel_rfl) (by kernel_rfl) (fun _ _ _ h => h) (Or.inl ⟨by kernel_rfl, ?_⟩) (by assumption) ?_
      rotate_left
      · intro w hSw; (try dsimp only at hSw); go_simp; first | done | with_reducible rfl
      simp only [Act.put, List.setIfInBounds_toArray, List.set_cons_zero, List.set_cons_succ, List.getElem_toArray, List.getElem_cons_zero, List.getElem_cons_succ]
      refine wpAnyH_ready (rs := [22]) (by kernel_rfl) (by simp) ?_
      refine AllReadyH.cons rfl (fun K hK => ?_) AllReadyH.nil
      go_simp
      refine hK.out _ _ ?_ (fun hHeld2 => ?_)
      · exact cells4_drew (cells4_set s1 s2 (cells4_set s1 s2 (cells4_set s1 s2 (cells4_set s1 s2 (cells4_set s1 s2 ⟨a0, a2, b0, b2⟩)))))
      clear hK K hHeld0
      try simp only [Act.put, List.setIfInBounds_toArray, List.set_cons_zero, List.set_cons_succ, List.getElem_toArray, List.getElem_cons_zero, List.getElem_cons_succ]
      refine wpAnyH_take (i := 23) (v := ?_) rfl (by kernel_rfl) (by kernel_rfl) (by kernel_rfl) (fun _ _ _ h => h) (Or.inl ⟨by kernel_rfl, ?_⟩) (by assumption) ?_
      rotate_left
      · intro w hSw; (try dsimp only at hSw); go_simp; first | done | with_reducible rfl
      simp only [Act.put, List.setIfInBounds_toArray, List.set_cons_zero, List.set_cons_succ, List.getElem_toArray, List.getElem_cons_zero, List.getElem_cons_succ]
      refine wpAnyH_done (by kernel_rfl) ?_ _
      go_wp2
      refine bodyPost_ret (v := .tuple #[.agg #[.bool (a_g != b_g), .int .u64 Q, .int .i64 (a_e - b_e - KQ), .bool (false || decide (M ≠ 0)), .bool false], .int .i64 0]) (by rw [hln]; simp [results, Tryz.results53, go_sem, x0, x1, x2, x3, x4]; try (cases a_g <;> cases b_g <;> rfl)) rfl ⟨rfl, ?_⟩
      exact ((wr5 w4 w.heap.size _ _ _ _ _).below hbw4 hbw4.size (Nat.le_refl _)).drew
    · have kc0 : w4.drew.cell? ⟨w1.heap.size, 0, none⟩ = some (.bool a_g) ∧ w4.drew.cell? ⟨w1.heap.size, 2, none⟩ = some (.int .i64 a_e) ∧ w4.drew.cell? ⟨w1.heap.size + 1, 0, none⟩ = some (.bool b_g) ∧ w4.drew.cell? ⟨w1.heap.size + 1, 2, none⟩ = some (.int .i64 b_e) := ⟨a0, a2, b0, b2⟩
      refine wp_region_held_drew (S := fun W => W.cell? ⟨w1.heap.size, 0, none⟩ = some (.bool a_g) ∧ W.cell? ⟨w1.heap.size, 2, none⟩ = some (.int .i64 a_e) ∧ W.cell? ⟨w1.heap.size + 1, 0, none⟩ = some (.bool b_g) ∧ W.cell? ⟨w1.heap.size + 1, 2, none⟩ = some (.int .i64 b_e)) (by kernel_rfl) kc0 (fun hHeld0 => ?_)
      refine wpAnyH_take (i := 0) (v := ?_) rfl (by kernel_rfl) (by kernel_rfl) (by kernel_rfl) (fun _ _ _ h => h) (Or.inl ⟨by kernel_rfl, ?_⟩) (by assumption) ?_
      rotate_left
      · intro w hSw; (try dsimp only at hSw); go_simp; first | done | with_reducible rfl
      simp only [Act.put, List.setIfInBounds_toArray, List.set_cons_zero, List.set_cons_succ, List.getElem_toArray, List.getElem_cons_zero, List.getElem_cons_succ]
      refine wpAnyH_take (i := 1) (v := ?_) rfl (by kernel_rfl) (by kernel_rfl) (by kernel_rfl) (fun _ _ _ h => h) (Or.inl ⟨by kernel_rfl, ?_⟩) (by assumption) ?_
      rotate_left
      · intro w hSw; (try dsimp only at hSw); go_simp; first | done | with_reducible rfl
      simp only [Act.put, List.setIfInBounds_toArray, List.set_cons_zero, List.set_cons_succ, List.getElem_toArray, List.getElem_cons_zero, List.getElem_cons_succ]
      refine wpAnyH_take (i := 2) (v := ?_) rfl (by kernel_rfl) (by kernel_rfl) (by kernel_rfl) (fun _ _ _ h => h) (Or.inl ⟨by kernel_rfl, ?_⟩) (by assumption) ?_
      rotate_left
      · intro w hSw; (try dsimp only at hSw); go_simp; first | done | with_reducible rfl
      simp only [Act.put, List.setIfInBounds_toArray, List.set_cons_zero, List.set_cons_succ, List.getElem_toArray, List.getElem_cons_zero, List.getElem_cons_succ]
      refine wpAnyH_take (i := 3) (v := ?_) rfl (by kernel_rfl) (by kernel_rfl) (by kernel_rfl) (fun _ _ _ h => h) (Or.inl ⟨by kernel_rfl, ?_⟩) (by assumption) ?_
      rotate_left
      · intro w hSw; (try dsimp only at hSw); go_simp; first | done | with_reducible rfl
      simp only [Act.put, List.setIfInBounds_toArray, List.set_cons_zero, List.set_cons_succ, List.getElem_toArray, List.getElem_cons_zero, List.getElem_cons_succ]
      refine wpAnyH_take (i := 4) (v := ?_) rfl (by kernel_rfl) (by kernel_rfl) (by kernel_rfl) (fun _ _ _ h => h) (Or.inl ⟨by kernel_rfl, ?_⟩) (by assumption) ?_
      rotate_left
      · intro w hSw; (try dsimp only at hSw); go_simp; first | done | with_reducible rfl
      simp only [Act.put, List.setIfInBounds_toArray, List.set_cons_zero, List.set_cons_succ, List.getElem_toArray, List.getElem_cons_zero, List.getElem_cons_succ]
      refine wpAnyH_take (i := 5) (v := ?_) rfl (by kernel_rfl) (by kernel_rfl) (by kernel_rfl) (fun _ _ _ h => h) (Or.inl ⟨by kernel_rfl, ?_⟩) (by assumption) ?_
      rotate_left
      · intro w hSw; (try dsimp only at hSw); go_simp; first | done | with_reducible rfl
      simp only [Act.put, List.setIfInBounds_toArray, List.set_cons_zero, List.set_cons_succ, List.getElem_toArray, List.getElem_cons_zero, List.getElem_cons_succ]
      refine wpAnyH_take (i := 8) (v := ?_) rfl (by kernel_rfl) (by kernel_rfl) (by kernel_rfl) (fun _ _ _ h => h) (Or.inl ⟨by kernel_rfl, ?_⟩) (by assumption) ?_
      rotate_left
      · intro w hSw; (try dsimp only at hSw); go_simp; first | done | with_reducible rfl
      simp only [Act.put, List.setIfInBounds_toArray, List.set_cons_zero, List.set_cons_succ, List.getElem_toArray, List.getElem_cons_zero, List.getElem_cons_succ]
      refine wpAnyH_take (i := 9) (v := ?_) rfl (by kernel_rfl) (by kernel_rfl) (by kernel_rfl) (fun _ _ _ h => h) (Or.inl ⟨by kernel_rfl, ?_⟩) (by assumption) ?_
      rotate_left
      · intro w hSw; (try dsimp only at hSw); go_simp; first | done | with_reducible rfl
      simp only [Act.put, List.setIfInBounds_toArray, List.set_cons_zero, List.set_cons_succ, List.getElem_toArray, List.getElem_cons_zero, List.getElem_cons_succ]
      refine wpAnyH_take (i := 10) (v := ?_) rfl (by kernel_rfl) (by kernel_rfl) (by kernel_rfl) (fun _ _ _ h => h) (Or.inl ⟨by kernel_rfl, ?_⟩) (by assumption) ?_
      rotate_left
      · intro w hSw; (try dsimp only at hSw); go_simp; first | done | with_reducible rfl
      simp only [Act.put, List.setIfInBounds_toArray, List.set_cons_zero, List.set_cons_succ, List.getElem_toArray, List.getElem_cons_zero, List.getElem_cons_succ]
      refine wpAnyH_take (i := 11) (v := ?_) rfl (by kernel_rfl) (by kernel_rfl) (by kernel_rfl) (fun _ _ _ h => h) (Or.inl ⟨by kernel_rfl, ?_⟩) (by assumption) ?_
      rotate_left
      · intro w hSw; (try dsimp only at hSw); go_simp; first | done | with_reducible rfl
      simp only [Act.put, List.setIfInBounds_toArray, List.set_cons_zero, List.set_cons_succ, List.getElem_toArray, List.getElem_cons_zero, List.getElem_cons_succ]
      refine wpAnyH_take (i := 12) (v := ?_) rfl (by kernel_rfl) (by kernel_rfl) (by kernel_rfl) (fun _ _ _ h => h) (Or.inl ⟨by kernel_rfl, ?_⟩) (by assumption) ?_
      rotate_left
      · intro w hSw; (try dsimp only at hSw); go_simp; first | done | with_reducible rfl
      simp only [Act.put, List.setIfInBounds_toArray, List.set_cons_zero, List.set_cons_succ, List.getElem_toArray, List.getElem_cons_zero, List.getElem_cons_succ]
      refine wpAnyH_take (i := 13) (v := ?_) rfl (by kernel_rfl) (by kernel_rfl) (by kernel_rfl) (fun _ _ _ h => h) (Or.inl ⟨by kernel_rfl, ?_⟩) (by assumption) ?_
      rotate_left
      · intro w hSw; (try dsimp only at hSw); go_simp; first | done | with_reducible rfl
      simp only [Act.put, List.setIfInBounds_toArray, List.set_cons_zero, List.set_cons_succ, List.getElem_toArray, List.getElem_cons_zero, List.getElem_cons_succ]
      refine wpAnyH_take (i := 14) (v := ?_) rfl (by kernel_rfl) (by kernel_rfl) (by kernel_rfl) (fun _ _ _ h => h) (Or.inl ⟨by kernel_rfl, ?_⟩) (by assumption) ?_
      rotate_left
      · intro w hSw; (try dsimp only at hSw); go_simp; first | done | with_reducible rfl
      simp only [Act.put, List.setIfInBounds_toArray, List.set_cons_zero, List.set_cons_succ, List.getElem_toArray, List.getElem_cons_zero, List.getElem_cons_succ]
      refine wpAnyH_take (i := 15) (v := ?_) rfl (by kernel_rfl) (by kernel_rfl) (by kernel_rfl) (fun _ _ _ h => h) (Or.inl ⟨by kernel_rfl, ?_⟩) (by assumption) ?_
      rotate_left
      · intro w hSw; (try dsimp only at hSw); go_simp; first | done | with_reducible rfl
      simp only [Act.put, List.setIfInBounds_toArray, List.set_cons_zero, List.set_cons_succ, List.getElem_toArray, List.getElem_cons_zero, List.getElem_cons_succ]
      refine wpAnyH_ready (rs := [6]) (by kernel_rfl) (by simp) ?_
      refine AllReadyH.cons rfl (fun K hK => ?_) AllReadyH.nil
      go_simp
      refine CM1.out.mono ?_
      rintro _ _ ⟨rfl, rfl⟩
      refine hK.out _ _ kc0 (fun hHeld1 => ?_)
      clear hK K
      try simp only [Act.put, List.setIfInBounds_toArray, List.set_cons_zero, List.set_cons_succ, List.getElem_toArray, List.getElem_cons_zero, List.getElem_cons_succ]
      refine wpAnyH_take (i := 7) (v := ?_) rfl (by kernel_rfl) (by kernel_rfl) (by kernel_rfl) (fun _ _ _ h => h) (Or.inl ⟨by kernel_rfl, ?_⟩) (by assumption) ?_
      rotate_left
      · intro w hSw; (try dsimp only at hSw); go_simp; first | done | with_reducible rfl
      simp only [Act.put, List.setIfInBounds_toArray, List.set_cons_zero, List.set_cons_succ, List.getElem_toArray, List.getElem_cons_zero, List.getElem_cons_succ]
      refine wpAnyH_take (i := 16) (v := ?_) rfl (by kernel_rfl) (by kernel_rfl) (by kernel_rfl) (fun _ _ _ h => h) (Or.inl ⟨by kernel_rfl, ?_⟩) (by assumption) ?_
      rotate_left
      · intro w hSw; (try dsimp only at hSw); go_simp; first | done | with_reducible rfl
      simp only [Act.put, List.setIfInBounds_toArray, List.set_cons_zero, List.set_cons_succ, List.getElem_toArray, List.getElem_cons_zero, List.getElem_cons_succ]
      refine wpAnyH_take (i := 17) (v := undef) rfl (by kernel_rfl) (by kernel_rfl) (by kernel_rfl) (fun _ _ _ h => h) (Or.inr ⟨by kernel_rfl, rfl⟩) (by assumption) ?_
      simp only [Act.put, List.setIfInBounds_toArray, List.set_cons_zero, List.set_cons_succ, List.getElem_toArray, List.getElem_cons_zero, List.getElem_cons_succ]
      refine wpAnyH_take (i := 18) (v := undef) rfl (by kernel_rfl) (by kernel_rfl) (by kernel_rfl) (fun _ _ _ h => h) (Or.inr ⟨by kernel_rfl, rfl⟩) (by assumption) ?_
      simp only [Act.put, List.setIfInBounds_toArray, List.set_cons_zero, List.set_cons_succ, List.getElem_toArray, List.getElem_cons_zero, List.getElem_cons_succ]
      refine wpAnyH_take (i := 19) (v := undef) rfl (by kernel_rfl) (by kernel_rfl) (by kernel_rfl) (fun _ _ _ h => h) (Or.inr ⟨by kernel_rfl, rfl⟩) (by assumption) ?_
      simp only [Act.put, List.setIfInBounds_toArray, List.set_cons_zero, List.set_cons_succ, List.getElem_toArray, List.getElem_cons_zero, List.getElem_cons_succ]
      refine wpAnyH_take (i := 20) (v := ?_) rfl (by kernel_rfl) (by kernel_rfl) (by kernel_rfl) (fun _ _ _ h => h) (Or.inl ⟨by kernel_rfl, ?_⟩) (by assumption) ?_
      rotate_left
      · intro w hSw; (try dsimp only at hSw); go_simp; first | done | with_reducible rfl
      simp only [Act.put, List.setIfInBounds_toArray, List.set_cons_zero, List.set_cons_succ, List.getElem_toArray, List.getElem_cons_zero, List.getElem_cons_succ]
      refine wpAnyH_take (i := 21) (v := ?_) rfl (by kernel_rfl) (by kernel_rfl) (by kernel_rfl) (fun _ _ _ h => h) (Or.inl ⟨by kernel_rfl, ?_⟩) (by assumption) ?_
      rotate_left
      · intro w hSw; (try dsimp only at hSw); go_simp; first | done | with_reducible rfl
      simp only [Act.put, List.setIfInBounds_toArray, List.set_cons_zero, List.set_cons_succ, List.getElem_toArray, List.getElem_cons_zero, List.getElem_cons_succ]
      refine wpAnyH_ready (rs := [22]) (by kernel_rfl) (by simp) ?_
      refine AllReadyH.cons rfl (fun K hK => ?_) AllReadyH.nil
      go_simp
      refine hK.out _ _ ?_ (fun hHeld2 => ?_)
      · exact cells4_drew (cells4_set s1 s2 (cells4_set s1 s2 (cells4_set s1 s2 (cells4_set s1 s2 (cells4_set s1 s2 ⟨a0, a2, b0, b2⟩)))))
      clear hK K hHeld0
      try simp only [Act.put, List.setIfInBounds_toArray, List.set_cons_zero, List.set_cons_succ, List.getElem_toArray, List.getElem_cons_zero, List.getElem_cons_succ]
      refine wpAnyH_take (i := 23) (v := ?_) rfl (by kernel_rfl) (by kernel_rfl) (by kernel_rfl) (fun _ _ _ h => h) (Or.inl ⟨by kernel_rfl, ?_⟩) (by assumption) ?_
      rotate_left
      · intro w hSw; (try dsimp only at hSw); go_simp; first | done | with_reducible rfl
      simp only [Act.put, List.setIfInBounds_toArray, List.set_cons_zero, List.set_cons_succ, List.getElem_toArray, List.getElem_cons_zero, List.getElem_cons_succ]
      refine wpAnyH_done (by kernel_rfl) ?_ _
      go_wp2
      refine bodyPost_ret (v := .tuple #[.agg #[.bool (a_g != b_g), .int .u64 Q, .int .i64 (a_e - b_e - KQ), .bool (true || decide (M ≠ 0)), .bool false], .int .i64 0]) (by rw [hln]; simp [results, Tryz.results53, go_sem, x0, x1, x2, x3, x4]; try (cases a_g <;> cases b_g <;> rfl)) rfl ⟨rfl, ?_⟩
      exact ((wr5 w4 w.heap.size _ _ _ _ _).below hbw4 hbw4.size (Nat.le_refl _)).drew
  · have A_K : ((w1.alloc (.cells #[.bool b_g, .slice b_o b_n b_c, .int .i64 b_e] 31)).alloc (.cells #[.bool a_g, .slice a_o a_n a_c, .int .i64 a_e] 31)).drew.heap[w1.heap.size + 1]? = some (.cells #[.bool a_g, .slice a_o a_n a_c, .int .i64 a_e] 31 (0, 0)) := heap_b2 w1 (.cells #[.bool b_g, .slice b_o b_n b_c, .int .i64 b_e] 31) (.cells #[.bool a_g, .slice a_o a_n a_c, .int .i64 a_e] 31)
    have B_K : ((w1.alloc (.cells #[.bool b_g, .slice b_o b_n b_c, .int .i64 b_e] 31)).alloc (.cells #[.bool a_g, .slice a_o a_n a_c, .int .i64 a_e] 31)).drew.heap[w1.heap.size]? = some (.cells #[.bool b_g, .slice b_o b_n b_c, .int .i64 b_e] 31 (0, 0)) := heap_a2 w1 (.cells #[.bool b_g, .slice b_o b_n b_c, .int .i64 b_e] 31) (.cells #[.bool a_g, .slice a_o a_n a_c, .int .i64 a_e] 31)
    have hb2 : Below w1.heap.size w1 ((w1.alloc (.cells #[.bool b_g, .slice b_o b_n b_c, .int .i64 b_e] 31)).alloc (.cells #[.bool a_g, .slice a_o a_n a_c, .int .i64 a_e] 31)).drew := (bel_alloc2 w1 _ _).drew
    have R_K := (hb2.block _ (Array.getElem?_eq_some_iff.1 q0).1).trans q0
    have hbw := bel_trans hb1 hb2
    generalize ((w1.alloc (.cells #[.bool b_g, .slice b_o b_n b_c, .int .i64 b_e] 31)).alloc (.cells #[.bool a_g, .slice a_o a_n a_c, .int .i64 a_e] 31)).drew = w2 at A_K B_K hb2 R_K hbw ⊢
    clear q0 hb1 hb2 l0 l1 l2 l3 l4 l5 hc hp1 k0 k1 k2 k3 k4 k5
    have a1 := blkC A_K 1 rfl
    have b1 := blkC B_K 1 rfl
    go_wp2_with fail
    have hdr : Below w2.heap.size w2 w2.drew := (bel_refl w2).drew
    have hbd := bel_trans hbw hdr
    go_region_held3 (fun W => W.cell? ⟨w1.heap.size + 1, 1, none⟩ = some (.slice a_o a_n a_c) ∧ W.cell? ⟨w1.heap.size, 1, none⟩ = some (.slice b_o b_n b_c))
      (first | assumption | exact ⟨a1, b1⟩)
      (first | (go_at_call 63; have _t := FB; refine (CBa.out _ hbd).mono ?_; rintro _ _ ⟨rfl, rfl⟩) | (go_at_call 63; refine (CBb.out _ hbd).mono ?_; rintro _ _ ⟨rfl, rfl⟩; have FB : True := trivial))
    go_wp2_with fail
    refine (CSc.out _ hbd).mono ?_
    rintro _ w3 ⟨v3, rfl, hA3⟩
    have hb3 := bel_trans hdr hA3.below
    have hbw3 := bel_trans hbw hb3
    obtain ⟨so, sn, sc, rfl⟩ := hA3.num.shape
    have CD1 : Hid (Calls Tryz.prog 81 #[.slice so sn sc, .slice b_o b_n b_c] w3 fun e w' => ∃ v1 v2, e = .returned (.tuple #[v1, v2]) ∧ Ans2 w3 w' (Q : Int) v1 M v2) := CDv.out w3 so sn sc hbw3 hA3.num
    have A_3 := (hb3.block _ (Array.getElem?_eq_some_iff.1 A_K).1).trans A_K
    have B_3 := (hb3.block _ (Array.getElem?_eq_some_iff.1 B_K).1).trans B_K
    have R_3 := (hb3.block _ (Array.getElem?_eq_some_iff.1 R_K).1).trans R_K
    clear hA3 CSc CDv A_K B_K R_K a1 b1 hb3 hdr hbd CBa CBb
    have b1 := blkC B_3 1 rfl
    go_wp2_with fail
    refine CD1.out.mono ?_
    rintro _ w4 ⟨v1, v2, rfl, hA1, hA2, _⟩
    have hb4 := hA1.below
    have hbw4 := bel_trans hbw3 hb4
    obtain ⟨qo, qn, qc, rfl⟩ := hA1.num.shape
    obtain ⟨lo, ln, lc, rfl⟩ := hA2.num.shape
    have hln := num_len0 hA2.num
    have CM1 : Hid (Calls Tryz.prog 71 #[.slice qo qn qc] w4.drew fun e w' => e = .returned (.int .i64 (Q : Int)) ∧ w' = w4.drew) := CM.out w4.drew qo qn qc (hA1.num.keeps (bel_refl w4).drew)
    have A_4 := (hb4.block _ (Array.getElem?_eq_some_iff.1 A_3).1).trans A_3
    have B_4 := (hb4.block _ (Array.getElem?_eq_some_iff.1 B_3).1).trans B_3
    have R_4 := (hb4.block _ (Array.getElem?_eq_some_iff.1 R_3).1).trans R_3
    clear hA1 hA2 CD1 A_3 B_3 R_3 b1 hb4 CM
    have a0 := blkC A_4 0 rfl
    have a2 := blkC A_4 2 rfl
    have b0 := blkC B_4 0 rfl
    have b2 := blkC B_4 2 rfl
    have x0 := blkC R_4 0 rfl
    have x1 := blkC R_4 1 rfl
    have x2 := blkC R_4 2 rfl
    have x3 := blkC R_4 3 rfl
    have x4 := blkC R_4 4 rfl
    have z0 := blkF R_4 0
    have z1 := blkF R_4 1
    have z2 := blkF R_4 2
    have z3 := blkF R_4 3
    have z4 := blkF R_4 4
    have s1 : w1.heap.size + 1 ≠ w.heap.size := by omega
    have s2 : w1.heap.size ≠ w.heap.size := by omega
    go_wp2_with fail
    cases cutb
    · have kc0 : w4.drew.cell? ⟨w1.heap.size + 1, 0, none⟩ = some (.bool a_g) ∧ w4.drew.cell? ⟨w1.heap.size + 1, 2, none⟩ = some (.int .i64 a_e) ∧ w4.drew.cell? ⟨w1.heap.size, 0, none⟩ = some (.bool b_g) ∧ w4.drew.cell? ⟨w1.heap.size, 2, none⟩ = some (.int .i64 b_e) := ⟨a0, a2, b0, b2⟩
      refine wp_region_held_drew (S := fun W => W.cell? ⟨w1.heap.size + 1, 0, none⟩ = some (.bool a_g) ∧ W.cell? ⟨w1.heap.size + 1, 2, none⟩ = some (.int .i64 a_e) ∧ W.cell? ⟨w1.heap.size, 0, none⟩ = some (.bool b_g) ∧ W.cell? ⟨w1.heap.size, 2, none⟩ = some (.int .i64 b_e)) (by kernel_rfl) kc0 (fun hHeld0 => ?_)
      refine wpAnyH_take (i := 0) (v := ?_) rfl (by kernel_rfl) (by kernel_rfl) (by kernel_rfl) (fun _ _ _ h => h) (Or.inl ⟨by kernel_rfl, ?_⟩) (by assumption) ?_
      rotate_left
      · intro w hSw; (try dsimp only at hSw); go_simp; first | done | with_reducible rfl
      simp only [Act.put, List.setIfInBounds_toArray, List.set_cons_zero, List.set_cons_succ, List.getElem_toArray, List.getElem_cons_zero, List.getElem_cons_succ]
      refine wpAnyH_take (i := 1) (v := ?_) rfl (by kernel_rfl) (by kernel_rfl) (by kernel_rfl) (fun _ _ _ h => h) (Or.inl ⟨by kernel_rfl, ?_⟩) (by assumption) ?_
      rotate_left
      · intro w hSw; (try dsimp only at hSw); go_simp; first | done | with_reducible rfl
      simp only [Act.put, List.setIfInBounds_toArray, List.set_cons_zero, List.set_cons_succ, List.getElem_toArray, List.getElem_cons_zero, List.getElem_cons_succ]
      refine wpAnyH_take (i := 2) (v := ?_) rfl (by kernel_rfl) (by kernel_rfl) (by kernel_rfl) (fun _ _ _ h => h) (Or.inl ⟨by kernel_rfl, ?_⟩) (by assumption) ?_
      rotate_left
      · intro w hSw; (try dsimp only at hSw); go_simp; first | done | with_reducible rfl
      simp only [Act.put, List.setIfInBounds_toArray, List.set_cons_zero, List.set_cons_succ, List.getElem_toArray, List.getElem_cons_zero, List.getElem_cons_succ]
      refine wpAnyH_take (i := 3) (v := ?_) rfl (by kernel_rfl) (by kernel_rfl) (by kernel_rfl) (fun _ _ _ h => h) (Or.inl ⟨by kernel_rfl, ?_⟩) (by assumption) ?_
      rotate_left
      · intro w hSw; (try dsimp only at hSw); go_simp; first | done | with_reducible rfl
      simp only [Act.put, List.setIfInBounds_toArray, List.set_cons_zero, List.set_cons_succ, List.getElem_toArray, List.getElem_cons_zero, List.getElem_cons_succ]
      refine wpAnyH_take (i := 4) (v := ?_) rfl (by kernel_rfl) (by kernel_rfl) (by kernel_rfl) (fun _ _ _ h => h) (Or.inl ⟨by kernel_rfl, ?_⟩) (by assumption) ?_
      rotate_left
      · intro w hSw; (try dsimp only at hSw); go_simp; first | done | with_reducible rfl
      simp only [Act.put, List.setIfInBounds_toArray, List.set_cons_zero, List.set_cons_succ, List.getElem_toArray, List.getElem_cons_zero, List.getElem_cons_succ]
      refine wpAnyH_take (i := 5) (v := ?_) rfl (by kernel_rfl) (by kernel_rfl) (by kernel_rfl) (fun _ _ _ h => h) (Or.inl ⟨by kernel_rfl, ?_⟩) (by assumption) ?_
      rotate_left
      · intro w hSw; (try dsimp only at hSw); go_simp; first | done | with_reducible rfl
      simp only [Act.put, List.setIfInBounds_toArray, List.set_cons_zero, List.set_cons_succ, List.getElem_toArray, List.getElem_cons_zero, List.getElem_cons_succ]
      refine wpAnyH_take (i := 8) (v := ?_) rfl (by kernel_rfl) (by kernel_rfl) (by kernel_rfl) (fun _ _ _ h => h) (Or.inl ⟨by kernel_rfl, ?_⟩) (by assumption) ?_
      rotate_left
      · intro w hSw; (try dsimp only at hSw); go_simp; first | done | with_reducible rfl
      simp only [Act.put, List.setIfInBounds_toArray, List.set_cons_zero, List.set_cons_succ, List.getElem_toArray, List.getElem_cons_zero, List.getElem_cons_succ]
      refine wpAnyH_take (i := 9) (v := ?_) rfl (by kernel_rfl) (by kernel_rfl) (by kernel_rfl) (fun _ _ _ h => h) (Or.inl ⟨by kernel_rfl, ?_⟩) (by assumption) ?_
      rotate_left
      · intro w hSw; (try dsimp only at hSw); go_simp; first | done | with_reducible rfl
      simp only [Act.put, List.setIfInBounds_toArray, List.set_cons_zero, List.set_cons_succ, List.getElem_toArray, List.getElem_cons_zero, List.getElem_cons_succ]
      refine wpAnyH_take (i := 10) (v := ?_) rfl (by kernel_rfl) (by kernel_rfl) (by kernel_rfl) (fun _ _ _ h => h) (Or.inl ⟨by kernel_rfl, ?_⟩) (by assumption) ?_
      rotate_left
      · intro w hSw; (try dsimp only at hSw); go_simp; first | done | with_reducible rfl
      simp only [Act.put, List.setIfInBounds_toArray, List.set_cons_zero, List.set_cons_succ, List.getElem_toArray, List.getElem_cons_zero, List.getElem_cons_succ]
      refine wpAnyH_take (i := 11) (v := ?_) rfl (by kernel_rfl) (by kernel_rfl) (by kernel_rfl) (fun _ _ _ h => h) (Or.inl ⟨by kernel_rfl, ?_⟩) (by assumption) ?_
      rotate_left
      · intro w hSw; (try dsimp only at hSw); go_simp; first | done | with_reducible rfl
      simp only [Act.put, List.setIfInBounds_toArray, List.set_cons_zero, List.set_cons_succ, List.getElem_toArray, List.getElem_cons_zero, List.getElem_cons_succ]
      refine wpAnyH_take (i := 12) (v := ?_) rfl (by kernel_rfl) (by kernel_rfl) (by kernel_rfl) (fun _ _ _ h => h) (Or.inl ⟨by kernel_rfl, ?_⟩) (by assumption) ?_
      rotate_left
      · intro w hSw; (try dsimp only at hSw); go_simp; first | done | with_reducible rfl
      simp only [Act.put, List.setIfInBounds_toArray, List.set_cons_zero, List.set_cons_succ, List.getElem_toArray, List.getElem_cons_zero, List.getElem_cons_succ]
      refine wpAnyH_take (i := 13) (v := ?_) rfl (by kernel_rfl) (by kernel_rfl) (by kernel_rfl) (fun _ _ _ h => h) (Or.inl ⟨by kernel_rfl, ?_⟩) (by assumption) ?_
      rotate_left
      · intro w hSw; (try dsimp only at hSw); go_simp; first | done | with_reducible rfl
      simp only [Act.put, List.setIfInBounds_toArray, List.set_cons_zero, List.set_cons_succ, List.getElem_toArray, List.getElem_cons_zero, List.getElem_cons_succ]
      refine wpAnyH_take (i := 14) (v := ?_) rfl (by kernel_rfl) (by kernel_rfl) (by kernel_rfl) (fun _ _ _ h => h) (Or.inl ⟨by kernel_rfl, ?_⟩) (by assumption) ?_
      rotate_left
      · intro w hSw; (try dsimp only at hSw); go_simp; first | done | with_reducible rfl
      simp only [Act.put, List.setIfInBounds_toArray, List.set_cons_zero, List.set_cons_succ, List.getElem_toArray, List.getElem_cons_zero, List.getElem_cons_succ]
      refine wpAnyH_take (i := 15) (v := ?_) rfl (by kernel_rfl) (by kernel_rfl) (by kernel_rfl) (fun _ _ _ h => h) (Or.inl ⟨by kernel_rfl, ?_⟩) (by assumption) ?_
      rotate_left
      · intro w hSw; (try dsimp only at hSw); go_simp; first | done | with_reducible rfl
      simp only [Act.put, List.setIfInBounds_toArray, List.set_cons_zero, List.set_cons_succ, List.getElem_toArray, List.getElem_cons_zero, List.getElem_cons_succ]
      refine wpAnyH_ready (rs := [6]) (by kernel_rfl) (by simp) ?_
      refine AllReadyH.cons rfl (fun K hK => ?_) AllReadyH.nil
      go_simp
      refine CM1.out.mono ?_
      rintro _ _ ⟨rfl, rfl⟩
      refine hK.out _ _ kc0 (fun hHeld1 => ?_)
      clear hK K
      try simp only [Act.put, List.setIfInBounds_toArray, List.set_cons_zero, List.set_cons_succ, List.getElem_toArray, List.getElem_cons_zero, List.getElem_cons_succ]
      refine wpAnyH_take (i := 7) (v := ?_) rfl (by kernel_rfl) (by kernel_rfl) (by kernel_rfl) (fun _ _ _ h => h) (Or.inl ⟨by kernel_rfl, ?_⟩) (by assumption) ?_
      rotate_left
      · intro w hSw; (try dsimp only at hSw); go_simp; first | done | with_reducible rfl
      simp only [Act.put, List.setIfInBounds_toArray, List.set_cons_zero, List.set_cons_succ, List.getElem_toArray, List.getElem_cons_zero, List.getElem_cons_succ]
      refine wpAnyH_take (i := 16) (v := ?_) rfl (by kernel_rfl) (by kernel_rfl) (by kernel_rfl) (fun _ _ _ h => h) (Or.inl ⟨by kernel_rfl, ?_⟩) (by assumption) ?_
      rotate_left
      · intro w hSw; (try dsimp only at hSw); go_simp; first | done | with_reducible rfl
      simp only [Act.put, List.setIfInBounds_toArray, List.set_cons_zero, List.set_cons_succ, List.getElem_toArray, List.getElem_cons_zero, List.getElem_cons_succ]
      refine wpAnyH_take (i := 17) (v := ?_) rfl (by kernel_rfl) (by kernel_rfl) (by kernel_rfl) (fun _ _ _ h => h) (Or.inl ⟨by kernel_rfl, ?_⟩) (by assumption) ?_
      rotate_left
      · intro w hSw; (try dsimp only at hSw); go_simp; first | done | with_reducible rfl
      simp only [Act.put, List.setIfInBounds_toArray, List.set_cons_zero, List.set_cons_succ, List.getElem_toArray, List.getElem_cons_zero, List.getElem_cons_succ]
      refine wpAnyH_take (i := 18) (v := ?_) rfl (by kernel_rfl) (by kernel_rfl) (by kernel_rfl) (fun _ _ _ h => h) (Or.inl ⟨by kernel_rfl, ?_⟩) (by assumption) ?_
      rotate_left
      · intro w hSw; (try dsimp only at hSw); go_simp; first | done | with_reducible rfl
      simp only [Act.put, List.setIfInBounds_toArray, List.set_cons_zero, List.set_cons_succ, List.getElem_toArray, List.getElem_cons_zero, List.getElem_cons_succ]
      refine wpAnyH_take (i := 19) (v := ?_) rfl (by kernel_rfl) (by kernel_rfl) (by kernel_rfl) (fun _ _ _ h => h) (Or.inl ⟨by kernel_rfl, ?_⟩) (by assumption) ?_
      rotate_left
      · intro w hSw; (try dsimp only at hSw); go_simp; first | done | with_reducible rfl
      simp only [Act.put, List.setIfInBounds_toArray, List.set_cons_zero, List.set_cons_succ, List.getElem_toArray, List.getElem_cons_zero, List.getElem_cons_succ]
      refine wpAnyH_take (i := 20) (v := ?_) rfl (by kernel_rfl) (by kernel_rfl) (by kernel_rfl) (fun _ _ _ h => h) (Or.inl ⟨by kernel_rfl, ?_⟩) (by assumption) ?_
      rotate_left
      · intro w hSw; (try dsimp only at hSw); go_simp; first | done | with_reducible rfl
      simp only [Act.put, List.setIfInBounds_toArray, List.set_cons_zero, List.set_cons_succ, List.getElem_toArray, List.getElem_cons_zero, List.getElem_cons_succ]
      refine wpAnyH_take (i := 21) (v := ?_) rfl (by kernel_rfl) (by kernel_rfl) (by kernel_rfl) (fun _ _ _ h => h) (Or.inl ⟨by kernel_rfl, ?_⟩) (by assumption) ?_
      rotate_left
      · intro w hSw; (try dsimp only at hSw); go_simp; first | done | with_reducible rfl
      simp only [Act.put, List.setIfInBounds_toArray, List.set_cons_zero, List.set_cons_succ, List.getElem_toArray, List.getElem_cons_zero, List.getElem_cons_succ]
      refine wpAnyH_ready (rs := [22]) (by kernel_rfl) (by simp) ?_
      refine AllReadyH.cons rfl (fun K hK => ?_) AllReadyH.nil
      go_simp
      refine hK.out _ _ ?_ (fun hHeld2 => ?_)
      · exact cells4_drew (cells4_set s1 s2 (cells4_set s1 s2 (cells4_set s1 s2 (cells4_set s1 s2 (cells4_set s1 s2 ⟨a0, a2, b0, b2⟩)))))
      clear hK K hHeld0
      try simp only [Act.put, List.setIfInBounds_toArray, List.set_cons_zero, List.set_cons_succ, List.getElem_toArray, List.getElem_cons_zero, List.getElem_cons_succ]
      refine wpAnyH_take (i := 23) (v := ?_) rfl (by kernel_rfl) (by kernel_rfl) (by kernel_rfl) (fun _ _ _ h => h) (Or.inl ⟨by kernel_rfl, ?_⟩) (by assumption) ?_
      rotate_left
      · intro w hSw; (try dsimp only at hSw); go_simp; first | done | with_reducible rfl
      simp only [Act.put, List.setIfInBounds_toArray, List.set_cons_zero, List.set_cons_succ, List.getElem_toArray, List.getElem_cons_zero, List.getElem_cons_succ]
      refine wpAnyH_done (by kernel_rfl) ?_ _
      go_wp2
      refine bodyPost_ret (v := .tuple #[.agg #[.bool (a_g != b_g), .int .u64 Q, .int .i64 (a_e - b_e - KQ), .bool (false || decide (M ≠ 0)), .bool false], .int .i64 0]) (by rw [hln]; simp [results, Tryz.results53, go_sem, x0, x1, x2, x3, x4]; try (cases a_g <;> cases b_g <;> rfl)) rfl ⟨rfl, ?_⟩
      exact ((wr5 w4 w.heap.size _ _ _ _ _).below hbw4 hbw4.size (Nat.le_refl _)).drew
    · have kc0 : w4.drew.cell? ⟨w1.heap.size + 1, 0, none⟩ = some (.bool a_g) ∧ w4.drew.cell? ⟨w1.heap.size + 1, 2, none⟩ = some (.int .i64 a_e) ∧ w4.drew.cell? ⟨w1.heap.size, 0, none⟩ = some (.bool b_g) ∧ w4.drew.cell? ⟨w1.heap.size, 2, none⟩ = some (.int .i64 b_e) := ⟨a0, a2, b0, b2⟩
      refine wp_region_held_drew (S := fun W => W.cell? ⟨w1.heap.size + 1, 0, none⟩ = some (.bool a_g) ∧ W.cell? ⟨w1.heap.size + 1, 2, none⟩ = some (.int .i64 a_e) ∧ W.cell? ⟨w1.heap.size, 0, none⟩ = some (.bool b_g) ∧ W.cell? ⟨w1.heap.size, 2, none⟩ = some (.int .i64 b_e)) (by kernel_rfl) kc0 (fun hHeld0 => ?_)
      refine wpAnyH_take (i := 0) (v := ?_) rfl (by kernel_rfl) (by kernel_rfl) (by kernel_rfl) (fun _ _ _ h => h) (Or.inl ⟨by kernel_rfl, ?_⟩) (by assumption) ?_
      rotate_left
      · intro w hSw; (try dsimp only at hSw); go_simp; first | done | with_reducible rfl
      simp only [Act.put, List.setIfInBounds_toArray, List.set_cons_zero, List.set_cons_succ, List.getElem_toArray, List.getElem_cons_zero, List.getElem_cons_succ]
      refine wpAnyH_take (i := 1) (v := ?_) rfl (by kernel_rfl) (by kernel_rfl) (by kernel_rfl) (fun _ _ _ h => h) (Or.inl ⟨by kernel_rfl, ?_⟩) (by assumption) ?_
      rotate_left
      · intro w hSw; (try dsimp only at hSw); go_simp; first | done | with_reducible rfl
      simp only [Act.put, List.setIfInBounds_toArray, List.set_cons_zero, List.set_cons_succ, List.getElem_toArray, List.getElem_cons_zero, List.getElem_cons_succ]
      refine wpAnyH_take (i := 2) (v := ?_) rfl (by kernel_rfl) (by kernel_rfl) (by kernel_rfl) (fun _ _ _ h => h) (Or.inl ⟨by kernel_rfl, ?_⟩) (by assumption) ?_
      rotate_left
      · intro w hSw; (try dsimp only at hSw); go_simp; first | done | with_reducible rfl
      simp only [Act.put, List.setIfInBounds_toArray, List.set_cons_zero, List.set_cons_succ, List.getElem_toArray, List.getElem_cons_zero, List.getElem_cons_succ]
      refine wpAnyH_take (i := 3) (v := ?_) rfl (by kernel_rfl) (by kernel_rfl) (by kernel_rfl) (fun _ _ _ h => h) (Or.inl ⟨by kernel_rfl, ?_⟩) (by assumption) ?_
      rotate_left
      · intro w hSw; (try dsimp only at hSw); go_simp; first | done | with_reducible rfl
      simp only [Act.put, List.setIfInBounds_toArray, List.set_cons_zero, List.set_cons_succ, List.getElem_toArray, List.getElem_cons_zero, List.getElem_cons_succ]
      refine wpAnyH_take (i := 4) (v := ?_) rfl (by kernel_rfl) (by kernel_rfl) (by kernel_rfl) (fun _ _ _ h => h) (Or.inl ⟨by kernel_rfl, ?_⟩) (by assumption) ?_
      rotate_left
      · intro w hSw; (try dsimp only at hSw); go_simp; first | done | with_reducible rfl
      simp only [Act.put, List.setIfInBounds_toArray, List.set_cons_zero, List.set_cons_succ, List.getElem_toArray, List.getElem_cons_zero, List.getElem_cons_succ]
      refine wpAnyH_take (i := 5) (v := ?_) rfl (by kernel_rfl) (by kernel_rfl) (by kernel_rfl) (fun _ _ _ h => h) (Or.inl ⟨by kernel_rfl, ?_⟩) (by assumption) ?_
      rotate_left
      · intro w hSw; (try dsimp only at hSw); go_simp; first | done | with_reducible rfl
      simp only [Act.put, List.setIfInBounds_toArray, List.set_cons_zero, List.set_cons_succ, List.getElem_toArray, List.getElem_cons_zero, List.getElem_cons_succ]
      refine wpAnyH_take (i := 8) (v := ?_) rfl (by kernel_rfl) (by kernel_rfl) (by kernel_rfl) (fun _ _ _ h => h) (Or.inl ⟨by kernel_rfl, ?_⟩) (by assumption) ?_
      rotate_left
      · intro w hSw; (try dsimp only at hSw); go_simp; first | done | with_reducible rfl
      simp only [Act.put, List.setIfInBounds_toArray, List.set_cons_zero, List.set_cons_succ, List.getElem_toArray, List.getElem_cons_zero, List.getElem_cons_succ]
      refine wpAnyH_take (i := 9) (v := ?_) rfl (by kernel_rfl) (by kernel_rfl) (by kernel_rfl) (fun _ _ _ h => h) (Or.inl ⟨by kernel_rfl, ?_⟩) (by assumption) ?_
      rotate_left
      · intro w hSw; (try dsimp only at hSw); go_simp; first | done | with_reducible rfl
      simp only [Act.put, List.setIfInBounds_toArray, List.set_cons_zero, List.set_cons_succ, List.getElem_toArray, List.getElem_cons_zero, List.getElem_cons_succ]
      refine wpAnyH_take (i := 10) (v := ?_) rfl (by kernel_rfl) (by kernel_rfl) (by kernel_rfl) (fun _ _ _ h => h) (Or.inl ⟨by kernel_rfl, ?_⟩) (by assumption) ?_
      rotate_left
      · intro w hSw; (try dsimp only at hSw); go_simp; first | done | with_reducible rfl
      simp only [Act.put, List.setIfInBounds_toArray, List.set_cons_zero, List.set_cons_succ, List.getElem_toArray, List.getElem_cons_zero, List.getElem_cons_succ]
      refine wpAnyH_take (i := 11) (v := ?_) rfl (by kernel_rfl) (by kernel_rfl) (by kernel_rfl) (fun _ _ _ h => h) (Or.inl ⟨by kernel_rfl, ?_⟩) (by assumption) ?_
      rotate_left
      · intro w hSw; (try dsimp only at hSw); go_simp; first | done | with_reducible rfl
      simp only [Act.put, List.setIfInBounds_toArray, List.set_cons_zero, List.set_cons_succ, List.getElem_toArray, List.getElem_cons_zero, List.getElem_cons_succ]
      refine wpAnyH_take (i := 12) (v := ?_) rfl (by kernel_rfl) (by kernel_rfl) (by kernel_rfl) (fun _ _ _ h => h) (Or.inl ⟨by kernel_rfl, ?_⟩) (by assumption) ?_
      rotate_left
      · intro w hSw; (try dsimp only at hSw); go_simp; first | done | with_reducible rfl
      simp only [Act.put, List.setIfInBounds_toArray, List.set_cons_zero, List.set_cons_succ, List.getElem_toArray, List.getElem_cons_zero, List.getElem_cons_succ]
      refine wpAnyH_take (i := 13) (v := ?_) rfl (by kernel_rfl) (by kernel_rfl) (by kernel_rfl) (fun _ _ _ h => h) (Or.inl ⟨by kernel_rfl, ?_⟩) (by assumption) ?_
      rotate_left
      · intro w hSw; (try dsimp only at hSw); go_simp; first | done | with_reducible rfl
      simp only [Act.put, List.setIfInBounds_toArray, List.set_cons_zero, List.set_cons_succ, List.getElem_toArray, List.getElem_cons_zero, List.getElem_cons_succ]
      refine wpAnyH_take (i := 14) (v := ?_) rfl (by kernel_rfl) (by kernel_rfl) (by kernel_rfl) (fun _ _ _ h => h) (Or.inl ⟨by kernel_rfl, ?_⟩) (by assumption) ?_
      rotate_left
      · intro w hSw; (try dsimp only at hSw); go_simp; first | done | with_reducible rfl
      simp only [Act.put, List.setIfInBounds_toArray, List.set_cons_zero, List.set_cons_succ, List.getElem_toArray, List.getElem_cons_zero, List.getElem_cons_succ]
      refine wpAnyH_take (i := 15) (v := ?_) rfl (by kernel_rfl) (by kernel_rfl) (by kernel_rfl) (fun _ _ _ h => h) (Or.inl ⟨by kernel_rfl, ?_⟩) (by assumption) ?_
      rotate_left
      · intro w hSw; (try dsimp only at hSw); go_simp; first | done | with_reducible rfl
      simp only [Act.put, List.setIfInBounds_toArray, List.set_cons_zero, List.set_cons_succ, List.getElem_toArray, List.getElem_cons_zero, List.getElem_cons_succ]
      refine wpAnyH_ready (rs := [6]) (by kernel_rfl) (by simp) ?_
      refine AllReadyH.cons rfl (fun K hK => ?_) AllReadyH.nil
      go_simp
      refine CM1.out.mono ?_
      rintro _ _ ⟨rfl, rfl⟩
      refine hK.out _ _ kc0 (fun hHeld1 => ?_)
      clear hK K
      try simp only [Act.put, List.setIfInBounds_toArray, List.set_cons_zero, List.set_cons_succ, List.getElem_toArray, List.getElem_cons_zero, List.getElem_cons_succ]
      refine wpAnyH_take (i := 7) (v := ?_) rfl (by kernel_rfl) (by kernel_rfl) (by kernel_rfl) (fun _ _ _ h => h) (Or.inl ⟨by kernel_rfl, ?_⟩) (by assumption) ?_
      rotate_left
      · intro w hSw; (try dsimp only at hSw); go_simp; first | done | with_reducible rfl
      simp only [Act.put, List.setIfInBounds_toArray, List.set_cons_zero, List.set_cons_succ, List.getElem_toArray, List.getElem_cons_zero, List.getElem_cons_succ]
      refine wpAnyH_take (i := 16) (v := ?_) rfl (by kernel_rfl) (by kernel_rfl) (by kernel_rfl) (fun _ _ _ h => h) (Or.inl ⟨by kernel_rfl, ?_⟩) (by assumption) ?_
      rotate_left
      · intro w hSw; (try dsimp only at hSw); go_simp; first | done | with_reducible rfl
      simp only [Act.put, List.setIfInBounds_toArray, List.set_cons_zero, List.set_cons_succ, List.getElem_toArray, List.getElem_cons_zero, List.getElem_cons_succ]
      refine wpAnyH_take (i := 17) (v := undef) rfl (by kernel_rfl) (by kernel_rfl) (by kernel_rfl) (fun _ _ _ h => h) (Or.inr ⟨by kernel_rfl, rfl⟩) (by assumption) ?_
      simp only [Act.put, List.setIfInBounds_toArray, List.set_cons_zero, List.set_cons_succ, List.getElem_toArray, List.getElem_cons_zero, List.getElem_cons_succ]
      refine wpAnyH_take (i := 18) (v := undef) rfl (by kernel_rfl) (by kernel_rfl) (by kernel_rfl) (fun _ _ _ h => h) (Or.inr ⟨by kernel_rfl, rfl⟩) (by assumption) ?_
      simp only [Act.put, List.setIfInBounds_toArray, List.set_cons_zero, List.set_cons_succ, List.getElem_toArray, List.getElem_cons_zero, List.getElem_cons_succ]
      refine wpAnyH_take (i := 19) (v := undef) rfl (by kernel_rfl) (by kernel_rfl) (by kernel_rfl) (fun _ _ _ h => h) (Or.inr ⟨by kernel_rfl, rfl⟩) (by assumption) ?_
      simp only [Act.put, List.setIfInBounds_toArray, List.set_cons_zero, List.set_cons_succ, List.getElem_toArray, List.getElem_cons_zero, List.getElem_cons_succ]
      refine wpAnyH_take (i := 20) (v := ?_) rfl (by kernel_rfl) (by kernel_rfl) (by kernel_rfl) (fun _ _ _ h => h) (Or.inl ⟨by kernel_rfl, ?_⟩) (by assumption) ?_
      rotate_left
      · intro w hSw; (try dsimp only at hSw); go_simp; first | done | with_reducible rfl
      simp only [Act.put, List.setIfInBounds_toArray, List.set_cons_zero, List.set_cons_succ, List.getElem_toArray, List.getElem_cons_zero, List.getElem_cons_succ]
      refine wpAnyH_take (i := 21) (v := ?_) rfl (by kernel_rfl) (by kernel_rfl) (by kernel_rfl) (fun _ _ _ h => h) (Or.inl ⟨by kernel_rfl, ?_⟩) (by assumption) ?_
      rotate_left
      · intro w hSw; (try dsimp only at hSw); go_simp; first | done | with_reducible rfl
      simp only [Act.put, List.setIfInBounds_toArray, List.set_cons_zero, List.set_cons_succ, List.getElem_toArray, List.getElem_cons_zero, List.getElem_cons_succ]
      refine wpAnyH_ready (rs := [22]) (by kernel_rfl) (by simp) ?_
      refine AllReadyH.cons rfl (fun K hK => ?_) AllReadyH.nil
      go_simp
      refine hK.out _ _ ?_ (fun hHeld2 => ?_)
      · exact cells4_drew (cells4_set s1 s2 (cells4_set s1 s2 (cells4_set s1 s2 (cells4_set s1 s2 (cells4_set s1 s2 ⟨a0, a2, b0, b2⟩)))))
      clear hK K hHeld0
      try simp only [Act.put, List.setIfInBounds_toArray, List.set_cons_zero, List.set_cons_succ, List.getElem_toArray, List.getElem_cons_zero, List.getElem_cons_succ]
      refine wpAnyH_take (i := 23) (v := ?_) rfl (by kernel_rfl) (by kernel_rfl) (by kernel_rfl) (fun _ _ _ h => h) (Or.inl ⟨by kernel_rfl, ?_⟩) (by assumption) ?_
      rotate_left
      · intro w hSw; (try dsimp only at hSw); go_simp; first | done | with_reducible rfl
      simp only [Act.put, List.setIfInBounds_toArray, List.set_cons_zero, List.set_cons_succ, List.getElem_toArray, List.getElem_cons_zero, List.getElem_cons_succ]
      refine wpAnyH_done (by kernel_rfl) ?_ _
      go_wp2
      refine bodyPost_ret (v := .tuple #[.agg #[.bool (a_g != b_g), .int .u64 Q, .int .i64 (a_e - b_e - KQ), .bool (true || decide (M ≠ 0)), .bool false], .int .i64 0]) (by rw [hln]; simp [results, Tryz.results53, go_sem, x0, x1, x2, x3, x4]; try (cases a_g <;> cases b_g <;> rfl)) rfl ⟨rfl, ?_⟩
      exact ((wr5 w4 w.heap.size _ _ _ _ _).below hbw4 hbw4.size (Nat.le_refl _)).drew
end Go.Proofs.YtobolgmjcebfmaaGreatDoor
