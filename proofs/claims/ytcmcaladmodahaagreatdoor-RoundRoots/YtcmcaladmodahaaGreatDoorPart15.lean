/-
  Parts of the proof, one behind another.
-/
import Derived.Test.YtcmcaladmodahaaGreatDoorPart11
import Derived.Test.YtcmcaladmodahaaGreatDoorPart14
/-
  Package round: root, by its contract.
-/
namespace Go.Proofs.YtcmcaladmodahaaGreatDoor
open Go Go.RowKit Go.Proofs.YtcmcaladmodahaaGreatDoor.M
set_option linter.unusedSimpArgs false
set_option linter.unusedVariables false

set_option maxRecDepth 100000 in
set_option maxHeartbeats 4000000 in
theorem rroot_any (p : Nat) (x : NumR) (w : World) (s : Int) (hg : w.heap[p]? = some (.cells #[.bool x.ng, .slice x.ao x.n x.cap, .int .i64 x.e] 24 (0, 0))) (rx : Row w x.ao x.n x.cap x.d) (ok : okR x = true) (hng : x.ng = false) (hs : IsRoot (scV (val x.d x.n) (tK (val x.d x.n) x.e)) s) (hT : Tab w) :
    Calls Tryz.prog 16 #[.slice (some ⟨p, 0, none⟩) 1 1] w fun r w' => r = .returned (.tuple #[valV false s.toNat ((x.e - tK (val x.d x.n) x.e) / 2) (scC (val x.d x.n) (tK (val x.d x.n) x.e) || decide (scV (val x.d x.n) (tK (val x.d x.n) x.e) - s * s ≠ 0)) false, .int .i64 0]) ∧ Below w.heap.size w w' := by
  obtain ⟨x_g, x_o, x_n, x_c, x_d, x_e⟩ := x
  obtain ⟨na, hn, ea0, ea1⟩ := okR_sane ok
  simp only at *
  subst hng
  have hA0 := val_nonneg na.1
  have hAl := blen_nrm na
  obtain ⟨k1, k2, k3⟩ := tK_in (M := val x_d x_n) (e := x_e)
  have hhigh := scV_high hA0 (n := 124) (k := tK (val x_d x_n) x_e) (by omega)
  have hsm := root_small hs hhigh.2
  have hs0 := hs.1
  have CBa : Hid (∀ W, Below w.heap.size w W → _) := fun W hb => bitLength_any x_o x_n x_c x_d W (rx.keeps hb) na (by omega)
  obtain ⟨KQ, hK⟩ : ∃ K, tK (val x_d x_n) x_e = K := ⟨_, rfl⟩
  have hqk : tK (val x_d x_n) x_e = 124 - (blen (val x_d x_n) : Int) - (x_e - (124 - (blen (val x_d x_n) : Int))) % 2 := rfl
  rw [hK] at hs hhigh k1 k2 k3 hqk ⊢
  have CSc : Hid (∀ W, Below w.heap.size w W → _) := fun W hb => scaled_any x_o x_n x_c x_d KQ W (rx.keeps hb) na hn (by omega) (fun h => by
    rcases Int.lt_or_eq_of_le hA0 with h1 | h1
    · exact h1
    · exfalso; rw [← h1, blen_zero] at k1; omega) (hT.keeps hb)
  obtain ⟨cutb, hC0⟩ : ∃ c, scC (val x_d x_n) KQ = c := ⟨_, rfl⟩
  rw [hC0] at CSc ⊢
  obtain ⟨SV, hSV⟩ : ∃ S, scV (val x_d x_n) KQ = S := ⟨_, rfl⟩
  rw [hSV] at CSc hs hhigh ⊢
  have hSl : SV < P 2000 := Int.lt_of_lt_of_le hhigh.2 (by
    have e : (2 : Int) ^ 124 ≤ P 5 := by unfold P; decide
    exact Int.le_trans e (P_le (by decide)))
  have CRt : Hid (∀ (W : World) so sn sc, Num W (.slice so sn sc) SV → Calls Tryz.prog 38 #[.slice so sn sc] W fun e w' => ∃ v1 v2, e = .returned (.tuple #[v1, v2, .int .i64 0]) ∧ Ans2 W w' s v1 (SV - s * s) v2) := fun W so sn sc hN => by
    refine (root_num hN hSl).mono ?_
    rintro _ w' ⟨v1, v2, rfl, t, ht, hA⟩
    obtain rfl := isRoot_unique ht hs
    exact ⟨v1, v2, rfl, hA⟩
  obtain ⟨Q, hQ⟩ : ∃ Q : Nat, s = (Q : Int) := Int.eq_ofNat_of_zero_le hs0
  subst hQ
  rw [Int.toNat_natCast]
  have CM : Hid (∀ (W' : World) so sn sc, Num W' (.slice so sn sc) (Q : Int) → Calls Tryz.prog 39 #[.slice so sn sc] W' fun e w' => e = .returned (.int .i64 (Q : Int)) ∧ w' = W') := fun W' so sn sc hA => by
    obtain ⟨ao', n', ca', d', hs, hR, hN, hV, hl⟩ := hA.parts (k := 3) (by rw [show P 3 = 1237940039285380274899124224 by decide]; omega)
    simp only [Value.slice.injEq] at hs
    obtain ⟨rfl, rfl, rfl⟩ := hs
    rw [← hV]
    exact small_any _ _ _ _ _ hR hN.1 hl (by omega)
  obtain ⟨M, hM⟩ : ∃ M, SV - (Q : Int) * (Q : Int) = M := ⟨_, rfl⟩
  rw [hM] at CRt ⊢
  obtain ⟨BA, hBA⟩ : ∃ B : Int, (blen (val x_d x_n) : Int) = B := ⟨_, rfl⟩
  rw [hBA] at CBa hqk k1 k2
  have hBl : 0 ≤ BA ∧ BA ≤ 150000 := by omega
  have w1' : IntKind.i64.wrap (124 - BA) = 124 - BA := by rw [wrap_i64_eq]; omega
  have w2' : IntKind.i64.wrap (x_e - (124 - BA)) = x_e - (124 - BA) := by rw [wrap_i64_eq]; omega
  have w3' : bits .and .i64 (x_e - (124 - BA)) 1 = (x_e - (124 - BA)) % 2 := and_one _
  have w4' : IntKind.i64.wrap (124 - BA - (x_e - (124 - BA)) % 2) = KQ := by rw [wrap_i64_eq]; omega
  have w5' : IntKind.u64.wrap (Q : Int) = (Q : Int) := by rw [IntKind.wrap_u64]; omega
  have w6' : IntKind.i64.wrap (x_e - KQ) = x_e - KQ := by rw [wrap_i64_eq]; omega
  obtain ⟨E, hE⟩ : ∃ E, (x_e - KQ) / 2 = E := ⟨_, rfl⟩
  have w7' : (x_e - KQ).tdiv 2 = E := by
    obtain ⟨t, ht⟩ : ∃ t, x_e - KQ = 2 * t := ⟨(x_e - KQ) / 2, by omega⟩
    rw [ht] at hE ⊢
    rw [Int.mul_tdiv_cancel_left _ (by decide)]
    omega
  have w8' : IntKind.i64.wrap E = E := by rw [wrap_i64_eq]; omega
  rw [hE]
  clear hqk hBA hM hSV hC0 hK hsm hSl hAl hA0 ok hT hhigh k1 k2 k3 hs hs0 hE hBl
  unfold valV
  have hb1 := bel_alloc w (.cells #[.bool false, .int .u64 0, .int .i64 0, .bool false, .bool false] 43)
  have l0 := cell_keeps (blkC hg 0 rfl) hb1
  have l1 := cell_keeps (blkC hg 1 rfl) hb1
  have l2 := cell_keeps (blkC hg 2 rfl) hb1
  have hb2 := bel_alloc2 w (.cells #[.bool false, .int .u64 0, .int .i64 0, .bool false, .bool false] 43) (.cells #[.bool false, .slice x_o x_n x_c, .int .i64 x_e] 24)
  have A_K := heap_b2 w (.cells #[.bool false, .int .u64 0, .int .i64 0, .bool false, .bool false] 43) (.cells #[.bool false, .slice x_o x_n x_c, .int .i64 x_e] 24)
  have R_K := heap_a2 w (.cells #[.bool false, .int .u64 0, .int .i64 0, .bool false, .bool false] 43) (.cells #[.bool false, .slice x_o x_n x_c, .int .i64 x_e] 24)
  have a0 := blkC A_K 0 rfl
  have a1 := blkC A_K 1 rfl
  go_enter Tryz.func16, Tryz.ntmps16
  go_wp2_with fail
  clear l0 l1 l2 a0 a1 hb1
  generalize (w.alloc (.cells #[.bool false, .int .u64 0, .int .i64 0, .bool false, .bool false] 43)).alloc (.cells #[.bool false, .slice x_o x_n x_c, .int .i64 x_e] 24) = w2 at hb2 A_K R_K ⊢
  refine (CBa.out _ hb2).mono ?_
  rintro _ _ ⟨rfl, rfl⟩
  have a1 := blkC A_K 1 rfl
  have a2 := blkC A_K 2 rfl
  go_wp2_with fail
  refine (CSc.out _ hb2).mono ?_
  rintro _ w3 ⟨v3, rfl, hA3⟩
  have hb3 := hA3.below
  have hbw3 := bel_trans hb2 hb3
  obtain ⟨so, sn, sc, rfl⟩ := hA3.num.shape
  have CR1 := CRt.out w3 so sn sc hA3.num
  have A_3 := (hb3.block _ (Array.getElem?_eq_some_iff.1 A_K).1).trans A_K
  have R_3 := (hb3.block _ (Array.getElem?_eq_some_iff.1 R_K).1).trans R_K
  clear hA3 CSc CRt A_K R_K a1 a2 hb3 CBa
  go_wp2_with fail
  refine CR1.mono ?_
  rintro _ w4 ⟨v1, v2, rfl, hA1, hA2, _⟩
  have hb4 := hA1.below
  have hbw4 := bel_trans hbw3 hb4
  obtain ⟨qo, qn, qc, rfl⟩ := hA1.num.shape
  obtain ⟨lo, ln, lc, rfl⟩ := hA2.num.shape
  have hln := num_len0 hA2.num
  have CM1 : Hid (Calls Tryz.prog 39 #[.slice qo qn qc] w4.drew fun e w' => e = .returned (.int .i64 (Q : Int)) ∧ w' = w4.drew) := CM.out w4.drew qo qn qc (hA1.num.keeps (bel_refl w4).drew)
  have A_4 := (hb4.block _ (Array.getElem?_eq_some_iff.1 A_3).1).trans A_3
  have R_4 := (hb4.block _ (Array.getElem?_eq_some_iff.1 R_3).1).trans R_3
  clear hA1 hA2 CR1 A_3 R_3 hb4 CM
  have a0 := blkC A_4 0 rfl
  have a2 := blkC A_4 2 rfl
  have x0 := blkC R_4 0 rfl
  have x1 := blkC R_4 1 rfl
  have x2 := blkC R_4 2 rfl
  have x3 := blkC R_4 3 rfl
  have x4 := blkC R_4 4 rfl
  have z0 := blkF R_4 0
  have z1 := blkF R_4 1
  have z2 := blkF R_4 2
  have z3 := blkF R_4 3
  have z4 := blkF R_4 4
  have s1 : w.heap.size + 1 ≠ w.heap.size := by omega
  go_wp2_with fail
  cases cutb
  · have kc0 : w4.drew.cell? ⟨w.heap.size + 1, 0, none⟩ = some (.bool false) ∧ w4.drew.cell? ⟨w.heap.size + 1, 2, none⟩ = some (.int .i64 x_e) ∧ w4.drew.cell? ⟨w.heap.size + 1, 0, none⟩ = some (.bool false) ∧ w4.drew.cell? ⟨w.heap.size + 1, 2, none⟩ = some (.int .i64 x_e) := ⟨a0, a2, a0, a2⟩
    refine wp_region_held_drew (S := fun W => W.cell? ⟨w.heap.size + 1, 0, none⟩ = some (.bool false) ∧ W.cell? ⟨w.heap.size + 1, 2, none⟩ = some (.int .i64 x_e) ∧ W.cell? ⟨w.heap.size + 1, 0, none⟩ = some (.bool false) ∧ W.cell? ⟨w.heap.size + 1, 2, none⟩ = some (.int .i64 x_e)) (by kernel_rfl) kc0 (fun hHeld0 => ?_)
    refine wpAnyH_take (i := 0) (v := ?_) rfl (by kernel_rfl) (by kernel_rfl) (by kernel_rfl) (fun _ _ _ h => h) (Or.inl ⟨by kernel_rfl, ?_⟩) (by assumption) ?_
    rotate_left
    · intro w hSw; (try dsimp only at hSw); go_simp; first | done | with_reducible rfl
    simp only [Act.put, List.setIfInBounds_toArray, List.set_cons_zero, List.set_cons_succ, List.getElem_toArray, List.getElem_cons_zero, List.getElem_cons_succ]
    refine wpAnyH_take (i := 3) (v := ?_) rfl (by kernel_rfl) (by kernel_rfl) (by kernel_rfl) (fun _ _ _ h => h) (Or.inl ⟨by kernel_rfl, ?_⟩) (by assumption) ?_
    rotate_left
    · intro w hSw; (try dsimp only at hSw); go_simp; first | done | with_reducible rfl
    simp only [Act.put, List.setIfInBounds_toArray, List.set_cons_zero, List.set_cons_succ, List.getElem_toArray, List.getElem_cons_zero, List.getElem_cons_succ]
    refine wpAnyH_take (i := 4) (v := ?_) rfl (by kernel_rfl) (by kernel_rfl) (by kernel_rfl) (fun _ _ _ h => h) (Or.inl ⟨by kernel_rfl, ?_⟩) (by assumption) ?_
    rotate_left
    · intro w hSw; (try dsimp only at hSw); go_simp; first | done | with_reducible rfl
    simp only [Act.put, List.setIfInBounds_toArray, List.set_cons_zero, List.set_cons_succ, List.getElem_toArray, List.getElem_cons_zero, List.getElem_cons_succ]
    refine wpAnyH_take (i := 5) (v := ?_) rfl (by kernel_rfl) (by kernel_rfl) (by kernel_rfl) (fun _ _ _ h => h) (Or.inl ⟨by kernel_rfl, ?_⟩) (by assumption) ?_
    rotate_left
    · intro w hSw; (try dsimp only at hSw); go_simp; first | done | with_reducible rfl
    simp only [Act.put, List.setIfInBounds_toArray, List.set_cons_zero, List.set_cons_succ, List.getElem_toArray, List.getElem_cons_zero, List.getElem_cons_succ]
    refine wpAnyH_take (i := 6) (v := ?_) rfl (by kernel_rfl) (by kernel_rfl) (by kernel_rfl) (fun _ _ _ h => h) (Or.inl ⟨by kernel_rfl, ?_⟩) (by assumption) ?_
    rotate_left
    · intro w hSw; (try dsimp only at hSw); go_simp; first | done | with_reducible rfl
    simp only [Act.put, List.setIfInBounds_toArray, List.set_cons_zero, List.set_cons_succ, List.getElem_toArray, List.getElem_cons_zero, List.getElem_cons_succ]
    refine wpAnyH_take (i := 7) (v := ?_) rfl (by kernel_rfl) (by kernel_rfl) (by kernel_rfl) (fun _ _ _ h => h) (Or.inl ⟨by kernel_rfl, ?_⟩) (by assumption) ?_
    rotate_left
    · intro w hSw; (try dsimp only at hSw); go_simp; first | done | with_reducible rfl
    simp only [Act.put, List.setIfInBounds_toArray, List.set_cons_zero, List.set_cons_succ, List.getElem_toArray, List.getElem_cons_zero, List.getElem_cons_succ]
    refine wpAnyH_take (i := 8) (v := ?_) rfl (by kernel_rfl) (by kernel_rfl) (by kernel_rfl) (fun _ _ _ h => h) (Or.inl ⟨by kernel_rfl, ?_⟩) (by assumption) ?_
    rotate_left
    · intro w hSw; (try dsimp only at hSw); go_simp; first | done | with_reducible rfl
    simp only [Act.put, List.setIfInBounds_toArray, List.set_cons_zero, List.set_cons_succ, List.getElem_toArray, List.getElem_cons_zero, List.getElem_cons_succ]
    refine wpAnyH_ready (rs := [1]) (by kernel_rfl) (by simp) ?_
    refine AllReadyH.cons rfl (fun K hK => ?_) AllReadyH.nil
    go_simp
    refine CM1.out.mono ?_
    rintro _ _ ⟨rfl, rfl⟩
    refine hK.out _ _ kc0 (fun hHeld1 => ?_)
    clear hK K
    try simp only [Act.put, List.setIfInBounds_toArray, List.set_cons_zero, List.set_cons_succ, List.getElem_toArray, List.getElem_cons_zero, List.getElem_cons_succ]
    refine wpAnyH_take (i := 2) (v := ?_) rfl (by kernel_rfl) (by kernel_rfl) (by kernel_rfl) (fun _ _ _ h => h) (Or.inl ⟨by kernel_rfl, ?_⟩) (by assumption) ?_
    rotate_left
    · intro w hSw; (try dsimp only at hSw); go_simp; first | done | with_reducible rfl
    simp only [Act.put, List.setIfInBounds_toArray, List.set_cons_zero, List.set_cons_succ, List.getElem_toArray, List.getElem_cons_zero, List.getElem_cons_succ]
    refine wpAnyH_take (i := 9) (v := ?_) rfl (by kernel_rfl) (by kernel_rfl) (by kernel_rfl) (fun _ _ _ h => h) (Or.inl ⟨by kernel_rfl, ?_⟩) (by assumption) ?_
    rotate_left
    · intro w hSw; (try dsimp only at hSw); go_simp; first | done | with_reducible rfl
    simp only [Act.put, List.setIfInBounds_toArray, List.set_cons_zero, List.set_cons_succ, List.getElem_toArray, List.getElem_cons_zero, List.getElem_cons_succ]
    refine wpAnyH_take (i := 10) (v := ?_) rfl (by kernel_rfl) (by kernel_rfl) (by kernel_rfl) (fun _ _ _ h => h) (Or.inl ⟨by kernel_rfl, ?_⟩) (by assumption) ?_
    rotate_left
    · intro w hSw; (try dsimp only at hSw); go_simp; first | done | with_reducible rfl
    simp only [Act.put, List.setIfInBounds_toArray, List.set_cons_zero, List.set_cons_succ, List.getElem_toArray, List.getElem_cons_zero, List.getElem_cons_succ]
    refine wpAnyH_take (i := 11) (v := ?_) rfl (by kernel_rfl) (by kernel_rfl) (by kernel_rfl) (fun _ _ _ h => h) (Or.inl ⟨by kernel_rfl, ?_⟩) (by assumption) ?_
    rotate_left
    · intro w hSw; (try dsimp only at hSw); go_simp; first | done | with_reducible rfl
    simp only [Act.put, List.setIfInBounds_toArray, List.set_cons_zero, List.set_cons_succ, List.getElem_toArray, List.getElem_cons_zero, List.getElem_cons_succ]
    refine wpAnyH_take (i := 12) (v := ?_) rfl (by kernel_rfl) (by kernel_rfl) (by kernel_rfl) (fun _ _ _ h => h) (Or.inl ⟨by kernel_rfl, ?_⟩) (by assumption) ?_
    rotate_left
    · intro w hSw; (try dsimp only at hSw); go_simp; first | done | with_reducible rfl
    simp only [Act.put, List.setIfInBounds_toArray, List.set_cons_zero, List.set_cons_succ, List.getElem_toArray, List.getElem_cons_zero, List.getElem_cons_succ]
    refine wpAnyH_take (i := 13) (v := ?_) rfl (by kernel_rfl) (by kernel_rfl) (by kernel_rfl) (fun _ _ _ h => h) (Or.inl ⟨by kernel_rfl, ?_⟩) (by assumption) ?_
    rotate_left
    · intro w hSw; (try dsimp only at hSw); go_simp; first | done | with_reducible rfl
    simp only [Act.put, List.setIfInBounds_toArray, List.set_cons_zero, List.set_cons_succ, List.getElem_toArray, List.getElem_cons_zero, List.getElem_cons_succ]
    refine wpAnyH_take (i := 14) (v := ?_) rfl (by kernel_rfl) (by kernel_rfl) (by kernel_rfl) (fun _ _ _ h => h) (Or.inl ⟨by kernel_rfl, ?_⟩) (by assumption) ?_
    rotate_left
    · intro w hSw; (try dsimp only at hSw); go_simp; first | done | with_reducible rfl
    simp only [Act.put, List.setIfInBounds_toArray, List.set_cons_zero, List.set_cons_succ, List.getElem_toArray, List.getElem_cons_zero, List.getElem_cons_succ]
    refine wpAnyH_ready (rs := [15]) (by kernel_rfl) (by simp) ?_
    refine AllReadyH.cons rfl (fun K hK => ?_) AllReadyH.nil
    go_simp
    refine hK.out _ _ ?_ (fun hHeld2 => ?_)
    · exact cells4_drew (cells4_set s1 s1 (cells4_set s1 s1 (cells4_set s1 s1 (cells4_set s1 s1 (cells4_set s1 s1 ⟨a0, a2, a0, a2⟩)))))
    clear hK K hHeld0
    try simp only [Act.put, List.setIfInBounds_toArray, List.set_cons_zero, List.set_cons_succ, List.getElem_toArray, List.getElem_cons_zero, List.getElem_cons_succ]
    refine wpAnyH_take (i := 16) (v := ?_) rfl (by kernel_rfl) (by kernel_rfl) (by kernel_rfl) (fun _ _ _ h => h) (Or.inl ⟨by kernel_rfl, ?_⟩) (by assumption) ?_
    rotate_left
    · intro w hSw; (try dsimp only at hSw); go_simp; first | done | with_reducible rfl
    simp only [Act.put, List.setIfInBounds_toArray, List.set_cons_zero, List.set_cons_succ, List.getElem_toArray, List.getElem_cons_zero, List.getElem_cons_succ]
    refine wpAnyH_done (by kernel_rfl) ?_ _
    go_wp2
    refine bodyPost_ret (v := .tuple #[.agg #[.bool false, .int .u64 Q, .int .i64 E, .bool (false || decide (M ≠ 0)), .bool false], .int .i64 0]) (by rw [hln]; simp [results, Tryz.results16, go_sem, x0, x1, x2, x3, x4]) rfl ⟨rfl, ?_⟩
    exact ((wr5 w4 w.heap.size _ _ _ _ _).below hbw4 hbw4.size (Nat.le_refl _)).drew
  · have kc0 : w4.drew.cell? ⟨w.heap.size + 1, 0, none⟩ = some (.bool false) ∧ w4.drew.cell? ⟨w.heap.size + 1, 2, none⟩ = some (.int .i64 x_e) ∧ w4.drew.cell? ⟨w.heap.size + 1, 0, none⟩ = some (.bool false) ∧ w4.drew.cell? ⟨w.heap.size + 1, 2, none⟩ = some (.int .i64 x_e) := ⟨a0, a2, a0, a2⟩
    refine wp_region_held_drew (S := fun W => W.cell? ⟨w.heap.size + 1, 0, none⟩ = some (.bool false) ∧ W.cell? ⟨w.heap.size + 1, 2, none⟩ = some (.int .i64 x_e) ∧ W.cell? ⟨w.heap.size + 1, 0, none⟩ = some (.bool false) ∧ W.cell? ⟨w.heap.size + 1, 2, none⟩ = some (.int .i64 x_e)) (by kernel_rfl) kc0 (fun hHeld0 => ?_)
    refine wpAnyH_take (i := 0) (v := ?_) rfl (by kernel_rfl) (by kernel_rfl) (by kernel_rfl) (fun _ _ _ h => h) (Or.inl ⟨by kernel_rfl, ?_⟩) (by assumption) ?_
    rotate_left
    · intro w hSw; (try dsimp only at hSw); go_simp; first | done | with_reducible rfl
    simp only [Act.put, List.setIfInBounds_toArray, List.set_cons_zero, List.set_cons_succ, List.getElem_toArray, List.getElem_cons_zero, List.getElem_cons_succ]
    refine wpAnyH_take (i := 3) (v := ?_) rfl (by kernel_rfl) (by kernel_rfl) (by kernel_rfl) (fun _ _ _ h => h) (Or.inl ⟨by kernel_rfl, ?_⟩) (by assumption) ?_
    rotate_left
    · intro w hSw; (try dsimp only at hSw); go_simp; first | done | with_reducible rfl
    simp only [Act.put, List.setIfInBounds_toArray, List.set_cons_zero, List.set_cons_succ, List.getElem_toArray, List.getElem_cons_zero, List.getElem_cons_succ]
    refine wpAnyH_take (i := 4) (v := ?_) rfl (by kernel_rfl) (by kernel_rfl) (by kernel_rfl) (fun _ _ _ h => h) (Or.inl ⟨by kernel_rfl, ?_⟩) (by assumption) ?_
    rotate_left
    · intro w hSw; (try dsimp only at hSw); go_simp; first | done | with_reducible rfl
    simp only [Act.put, List.setIfInBounds_toArray, List.set_cons_zero, List.set_cons_succ, List.getElem_toArray, List.getElem_cons_zero, List.getElem_cons_succ]
    refine wpAnyH_take (i := 5) (v := ?_) rfl (by kernel_rfl) (by kernel_rfl) (by kernel_rfl) (fun _ _ _ h => h) (Or.inl ⟨by kernel_rfl, ?_⟩) (by assumption) ?_
    rotate_left
    · intro w hSw; (try dsimp only at hSw); go_simp; first | done | with_reducible rfl
    simp only [Act.put, List.setIfInBounds_toArray, List.set_cons_zero, List.set_cons_succ, List.getElem_toArray, List.getElem_cons_zero, List.getElem_cons_succ]
    refine wpAnyH_take (i := 6) (v := ?_) rfl (by kernel_rfl) (by kernel_rfl) (by kernel_rfl) (fun _ _ _ h => h) (Or.inl ⟨by kernel_rfl, ?_⟩) (by assumption) ?_
    rotate_left
    · intro w hSw; (try dsimp only at hSw); go_simp; first | done | with_reducible rfl
    simp only [Act.put, List.setIfInBounds_toArray, List.set_cons_zero, List.set_cons_succ, List.getElem_toArray, List.getElem_cons_zero, List.getElem_cons_succ]
    refine wpAnyH_take (i := 7) (v := ?_) rfl (by kernel_rfl) (by kernel_rfl) (by kernel_rfl) (fun _ _ _ h => h) (Or.inl ⟨by kernel_rfl, ?_⟩) (by assumption) ?_
    rotate_left
    · intro w hSw; (try dsimp only at hSw); go_simp; first | done | with_reducible rfl
    simp only [Act.put, List.setIfInBounds_toArray, List.set_cons_zero, List.set_cons_succ, List.getElem_toArray, List.getElem_cons_zero, List.getElem_cons_succ]
    refine wpAnyH_take (i := 8) (v := ?_) rfl (by kernel_rfl) (by kernel_rfl) (by kernel_rfl) (fun _ _ _ h => h) (Or.inl ⟨by kernel_rfl, ?_⟩) (by assumption) ?_
    rotate_left
    · intro w hSw; (try dsimp only at hSw); go_simp; first | done | with_reducible rfl
    simp only [Act.put, List.setIfInBounds_toArray, List.set_cons_zero, List.set_cons_succ, List.getElem_toArray, List.getElem_cons_zero, List.getElem_cons_succ]
    refine wpAnyH_ready (rs := [1]) (by kernel_rfl) (by simp) ?_
    refine AllReadyH.cons rfl (fun K hK => ?_) AllReadyH.nil
    go_simp
    refine CM1.out.mono ?_
    rintro _ _ ⟨rfl, rfl⟩
    refine hK.out _ _ kc0 (fun hHeld1 => ?_)
    clear hK K
    try simp only [Act.put, List.setIfInBounds_toArray, List.set_cons_zero, List.set_cons_succ, List.getElem_toArray, List.getElem_cons_zero, List.getElem_cons_succ]
    refine wpAnyH_take (i := 2) (v := ?_) rfl (by kernel_rfl) (by kernel_rfl) (by kernel_rfl) (fun _ _ _ h => h) (Or.inl ⟨by kernel_rfl, ?_⟩) (by assumption) ?_
    rotate_left
    · intro w hSw; (try dsimp only at hSw); go_simp; first | done | with_reducible rfl
    simp only [Act.put, List.setIfInBounds_toArray, List.set_cons_zero, List.set_cons_succ, List.getElem_toArray, List.getElem_cons_zero, List.getElem_cons_succ]
    refine wpAnyH_take (i := 9) (v := ?_) rfl (by kernel_rfl) (by kernel_rfl) (by kernel_rfl) (fun _ _ _ h => h) (Or.inl ⟨by kernel_rfl, ?_⟩) (by assumption) ?_
    rotate_left
    · intro w hSw; (try dsimp only at hSw); go_simp; first | done | with_reducible rfl
    simp only [Act.put, List.setIfInBounds_toArray, List.set_cons_zero, List.set_cons_succ, List.getElem_toArray, List.getElem_cons_zero, List.getElem_cons_succ]
    refine wpAnyH_take (i := 10) (v := undef) rfl (by kernel_rfl) (by kernel_rfl) (by kernel_rfl) (fun _ _ _ h => h) (Or.inr ⟨by kernel_rfl, rfl⟩) (by assumption) ?_
    simp only [Act.put, List.setIfInBounds_toArray, List.set_cons_zero, List.set_cons_succ, List.getElem_toArray, List.getElem_cons_zero, List.getElem_cons_succ]
    refine wpAnyH_take (i := 11) (v := undef) rfl (by kernel_rfl) (by kernel_rfl) (by kernel_rfl) (fun _ _ _ h => h) (Or.inr ⟨by kernel_rfl, rfl⟩) (by assumption) ?_
    simp only [Act.put, List.setIfInBounds_toArray, List.set_cons_zero, List.set_cons_succ, List.getElem_toArray, List.getElem_cons_zero, List.getElem_cons_succ]
    refine wpAnyH_take (i := 12) (v := undef) rfl (by kernel_rfl) (by kernel_rfl) (by kernel_rfl) (fun _ _ _ h => h) (Or.inr ⟨by kernel_rfl, rfl⟩) (by assumption) ?_
    simp only [Act.put, List.setIfInBounds_toArray, List.set_cons_zero, List.set_cons_succ, List.getElem_toArray, List.getElem_cons_zero, List.getElem_cons_succ]
    refine wpAnyH_take (i := 13) (v := ?_) rfl (by kernel_rfl) (by kernel_rfl) (by kernel_rfl) (fun _ _ _ h => h) (Or.inl ⟨by kernel_rfl, ?_⟩) (by assumption) ?_
    rotate_left
    · intro w hSw; (try dsimp only at hSw); go_simp; first | done | with_reducible rfl
    simp only [Act.put, List.setIfInBounds_toArray, List.set_cons_zero, List.set_cons_succ, List.getElem_toArray, List.getElem_cons_zero, List.getElem_cons_succ]
    refine wpAnyH_take (i := 14) (v := ?_) rfl (by kernel_rfl) (by kernel_rfl) (by kernel_rfl) (fun _ _ _ h => h) (Or.inl ⟨by kernel_rfl, ?_⟩) (by assumption) ?_
    rotate_left
    · intro w hSw; (try dsimp only at hSw); go_simp; first | done | with_reducible rfl
    simp only [Act.put, List.setIfInBounds_toArray, List.set_cons_zero, List.set_cons_succ, List.getElem_toArray, List.getElem_cons_zero, List.getElem_cons_succ]
    refine wpAnyH_ready (rs := [15]) (by kernel_rfl) (by simp) ?_
    refine AllReadyH.cons rfl (fun K hK => ?_) AllReadyH.nil
    go_simp
    refine hK.out _ _ ?_ (fun hHeld2 => ?_)
    · exact cells4_drew (cells4_set s1 s1 (cells4_set s1 s1 (cells4_set s1 s1 (cells4_set s1 s1 (cells4_set s1 s1 ⟨a0, a2, a0, a2⟩)))))
    clear hK K hHeld0
    try simp only [Act.put, List.setIfInBounds_toArray, List.set_cons_zero, List.set_cons_succ, List.getElem_toArray, List.getElem_cons_zero, List.getElem_cons_succ]
    refine wpAnyH_take (i := 16) (v := ?_) rfl (by kernel_rfl) (by kernel_rfl) (by kernel_rfl) (fun _ _ _ h => h) (Or.inl ⟨by kernel_rfl, ?_⟩) (by assumption) ?_
    rotate_left
    · intro w hSw; (try dsimp only at hSw); go_simp; first | done | with_reducible rfl
    simp only [Act.put, List.setIfInBounds_toArray, List.set_cons_zero, List.set_cons_succ, List.getElem_toArray, List.getElem_cons_zero, List.getElem_cons_succ]
    refine wpAnyH_done (by kernel_rfl) ?_ _
    go_wp2
    refine bodyPost_ret (v := .tuple #[.agg #[.bool false, .int .u64 Q, .int .i64 E, .bool (true || decide (M ≠ 0)), .bool false], .int .i64 0]) (by rw [hln]; simp [results, Tryz.results16, go_sem, x0, x1, x2, x3, x4]) rfl ⟨rfl, ?_⟩
    exact ((wr5 w4 w.heap.size _ _ _ _ _).below hbw4 hbw4.size (Nat.le_refl _)).drew
end Go.Proofs.YtcmcaladmodahaaGreatDoor

/-
  Package round: Quot by 0.
-/
namespace Go.Proofs.YtcmcaladmodahaaGreatDoor
open Go Go.RowKit Go.Proofs.YtcmcaladmodahaaGreatDoor.M
set_option linter.unusedSimpArgs false
set_option linter.unusedVariables false

set_option maxRecDepth 100000 in
set_option maxHeartbeats 1000000 in
theorem quotient_no (p : Nat) (a b : NumR) (w : World) (hg : w.heap[p]? = some (.cells #[.bool a.ng, .slice a.ao a.n a.cap, .int .i64 a.e, .bool b.ng, .slice b.ao b.n b.cap, .int .i64 b.e] 24 (0, 0))) (hb0 : b.n = 0) :
    Calls Tryz.prog 43 #[.slice (some ⟨p, 0, none⟩) 2 2] w fun r w' => r = .returned (.tuple #[.agg #[.bool false, .int .u64 0, .int .i64 0, .bool false, .bool false], .int .i64 12]) ∧ Below w.heap.size w w' := by
  obtain ⟨a_g, a_o, a_n, a_c, a_d, a_e⟩ := a
  obtain ⟨b_g, b_o, b_n, b_c, b_d, b_e⟩ := b
  simp only at *
  subst hb0
  have k0 := blkC hg 0 rfl
  have k1 := blkC hg 1 rfl
  have k2 := blkC hg 2 rfl
  have k3 := blkC hg 3 rfl
  have k4 := blkC hg 4 rfl
  have k5 := blkC hg 5 rfl
  go_enter Tryz.func43, Tryz.ntmps43
  go_wp2_with fail
  have q0 := heap_alloc_new w (.cells #[.bool false, .int .u64 0, .int .i64 0, .bool false, .bool false] 43)
  have hb1 := bel_alloc w (.cells #[.bool false, .int .u64 0, .int .i64 0, .bool false, .bool false] 43)
  have l0 := cell_keeps k0 hb1
  have l1 := cell_keeps k1 hb1
  have l2 := cell_keeps k2 hb1
  have l3 := cell_keeps k3 hb1
  have l4 := cell_keeps k4 hb1
  have l5 := cell_keeps k5 hb1
  have hsz : w.heap.size < (w.alloc (.cells #[.bool false, .int .u64 0, .int .i64 0, .bool false, .bool false] 43)).heap.size := by simp
  generalize w.alloc (.cells #[.bool false, .int .u64 0, .int .i64 0, .bool false, .bool false] 43) = w1 at hsz q0 hb1 l0 l1 l2 l3 l4 l5 ⊢
  have hp1 : p < w1.heap.size := Nat.lt_of_lt_of_le (Array.getElem?_eq_some_iff.1 hg).1 hb1.size
  have hc : p < w1.heap.size ∧ w1.heap.size ≤ w1.drew.heap.size ∧ w1.drew.cell? ⟨p, 0, none⟩ = some (.bool a_g) ∧ w1.drew.cell? ⟨p, 1, none⟩ = some (.slice a_o a_n a_c) ∧ w1.drew.cell? ⟨p, 2, none⟩ = some (.int .i64 a_e) ∧ w1.drew.cell? ⟨p, 3, none⟩ = some (.bool b_g) ∧ w1.drew.cell? ⟨p, 4, none⟩ = some (.slice b_o 0 b_c) ∧ w1.drew.cell? ⟨p, 5, none⟩ = some (.int .i64 b_e) := ⟨hp1, Nat.le_refl _, l0, l1, l2, l3, l4, l5⟩
  go_region_held3 (fun W => p < w1.heap.size ∧ w1.heap.size ≤ W.heap.size ∧ W.cell? ⟨p, 0, none⟩ = some (.bool a_g) ∧ W.cell? ⟨p, 1, none⟩ = some (.slice a_o a_n a_c) ∧ W.cell? ⟨p, 2, none⟩ = some (.int .i64 a_e) ∧ W.cell? ⟨p, 3, none⟩ = some (.bool b_g) ∧ W.cell? ⟨p, 4, none⟩ = some (.slice b_o 0 b_c) ∧ W.cell? ⟨p, 5, none⟩ = some (.int .i64 b_e))
    (first | assumption | (repeat (first | exact hc | refine cells6_alloc _ ?_ | refine cells6_set (by first | omega | (simp; omega)) ?_)))
    (fail)
  · have A_K : ((w1.alloc (.cells #[.bool a_g, .slice a_o a_n a_c, .int .i64 a_e] 24)).alloc (.cells #[.bool b_g, .slice b_o 0 b_c, .int .i64 b_e] 24)).drew.heap[w1.heap.size]? = some (.cells #[.bool a_g, .slice a_o a_n a_c, .int .i64 a_e] 24 (0, 0)) := heap_a2 w1 (.cells #[.bool a_g, .slice a_o a_n a_c, .int .i64 a_e] 24) (.cells #[.bool b_g, .slice b_o 0 b_c, .int .i64 b_e] 24)
    have B_K : ((w1.alloc (.cells #[.bool a_g, .slice a_o a_n a_c, .int .i64 a_e] 24)).alloc (.cells #[.bool b_g, .slice b_o 0 b_c, .int .i64 b_e] 24)).drew.heap[w1.heap.size + 1]? = some (.cells #[.bool b_g, .slice b_o 0 b_c, .int .i64 b_e] 24 (0, 0)) := heap_b2 w1 (.cells #[.bool a_g, .slice a_o a_n a_c, .int .i64 a_e] 24) (.cells #[.bool b_g, .slice b_o 0 b_c, .int .i64 b_e] 24)
    have hb2 : Below w1.heap.size w1 ((w1.alloc (.cells #[.bool a_g, .slice a_o a_n a_c, .int .i64 a_e] 24)).alloc (.cells #[.bool b_g, .slice b_o 0 b_c, .int .i64 b_e] 24)).drew := (bel_alloc2 w1 _ _).drew
    have R_K := (hb2.block _ (Array.getElem?_eq_some_iff.1 q0).1).trans q0
    have hbw := bel_trans hb1 hb2
    generalize ((w1.alloc (.cells #[.bool a_g, .slice a_o a_n a_c, .int .i64 a_e] 24)).alloc (.cells #[.bool b_g, .slice b_o 0 b_c, .int .i64 b_e] 24)).drew = w2 at A_K B_K hb2 R_K hbw ⊢
    clear q0 hb1 hb2 l0 l1 l2 l3 l4 l5 hc hp1 k0 k1 k2 k3 k4 k5
    have a1 := blkC A_K 1 rfl
    have s0 := blkC B_K 1 rfl
    have x0 := blkC R_K 0 rfl
    have x1 := blkC R_K 1 rfl
    have x2 := blkC R_K 2 rfl
    have x3 := blkC R_K 3 rfl
    have x4 := blkC R_K 4 rfl
    have z0 := blkF R_K 0
    have z1 := blkF R_K 1
    have z2 := blkF R_K 2
    have z3 := blkF R_K 3
    have z4 := blkF R_K 4
    go_wp2
    all_goals refine bodyPost_ret (v := .tuple #[.agg #[.bool false, .int .u64 0, .int .i64 0, .bool false, .bool false], .int .i64 12]) (by simp [results, Tryz.results43, go_sem, x0, x1, x2, x3, x4]) rfl ⟨rfl, ?_⟩
    all_goals exact (wr5 w2 w.heap.size _ _ _ _ _).below hbw hbw.size (Nat.le_refl _)
  · have A_K : ((w1.alloc (.cells #[.bool b_g, .slice b_o 0 b_c, .int .i64 b_e] 24)).alloc (.cells #[.bool a_g, .slice a_o a_n a_c, .int .i64 a_e] 24)).drew.heap[w1.heap.size + 1]? = some (.cells #[.bool a_g, .slice a_o a_n a_c, .int .i64 a_e] 24 (0, 0)) := heap_b2 w1 (.cells #[.bool b_g, .slice b_o 0 b_c, .int .i64 b_e] 24) (.cells #[.bool a_g, .slice a_o a_n a_c, .int .i64 a_e] 24)
    have B_K : ((w1.alloc (.cells #[.bool b_g, .slice b_o 0 b_c, .int .i64 b_e] 24)).alloc (.cells #[.bool a_g, .slice a_o a_n a_c, .int .i64 a_e] 24)).drew.heap[w1.heap.size]? = some (.cells #[.bool b_g, .slice b_o 0 b_c, .int .i64 b_e] 24 (0, 0)) := heap_a2 w1 (.cells #[.bool b_g, .slice b_o 0 b_c, .int .i64 b_e] 24) (.cells #[.bool a_g, .slice a_o a_n a_c, .int .i64 a_e] 24)
    have hb2 : Below w1.heap.size w1 ((w1.alloc (.cells #[.bool b_g, .slice b_o 0 b_c, .int .i64 b_e] 24)).alloc (.cells #[.bool a_g, .slice a_o a_n a_c, .int .i64 a_e] 24)).drew := (bel_alloc2 w1 _ _).drew
    have R_K := (hb2.block _ (Array.getElem?_eq_some_iff.1 q0).1).trans q0
    have hbw := bel_trans hb1 hb2
    generalize ((w1.alloc (.cells #[.bool b_g, .slice b_o 0 b_c, .int .i64 b_e] 24)).alloc (.cells #[.bool a_g, .slice a_o a_n a_c, .int .i64 a_e] 24)).drew = w2 at A_K B_K hb2 R_K hbw ⊢
    clear q0 hb1 hb2 l0 l1 l2 l3 l4 l5 hc hp1 k0 k1 k2 k3 k4 k5
    have a1 := blkC A_K 1 rfl
    have s0 := blkC B_K 1 rfl
    have x0 := blkC R_K 0 rfl
    have x1 := blkC R_K 1 rfl
    have x2 := blkC R_K 2 rfl
    have x3 := blkC R_K 3 rfl
    have x4 := blkC R_K 4 rfl
    have z0 := blkF R_K 0
    have z1 := blkF R_K 1
    have z2 := blkF R_K 2
    have z3 := blkF R_K 3
    have z4 := blkF R_K 4
    go_wp2
    all_goals refine bodyPost_ret (v := .tuple #[.agg #[.bool false, .int .u64 0, .int .i64 0, .bool false, .bool false], .int .i64 12]) (by simp [results, Tryz.results43, go_sem, x0, x1, x2, x3, x4]) rfl ⟨rfl, ?_⟩
    all_goals exact (wr5 w2 w.heap.size _ _ _ _ _).below hbw hbw.size (Nat.le_refl _)
end Go.Proofs.YtcmcaladmodahaaGreatDoor

/-
  Package round: Quot by 0: rounded and Quot.
-/
namespace Go.Proofs.YtcmcaladmodahaaGreatDoor
open Go Go.RowKit Go.Proofs.YtcmcaladmodahaaGreatDoor.M
set_option linter.unusedSimpArgs false
set_option linter.unusedVariables false

set_option maxRecDepth 100000 in
set_option maxHeartbeats 1000000 in
theorem rounded_no (way : Int) (hw : 0 ≤ way ∧ way ≤ 3) (F G : Nat) (lo : Option Addr) (ln lc : Nat) (r : Nat → NumR) (w : World) (hl : Nums w lo ln lc r) (ok : ∀ i, i < ln → okR (r i) = true) 
    (hEG : ∀ (cap : Array Value) (w : World), (callFunc G cap).run Tryz.prog w = .ok (.enter G cap) w)
    (hG : ∀ W, Below w.heap.size w W → Calls Tryz.prog G #[.slice lo ln lc] W fun e w' => e = .returned (.tuple #[.agg #[.bool false, .int .u64 0, .int .i64 0, .bool false, .bool false], .int .i64 12]) ∧ Below W.heap.size W w') :
    Calls Tryz.prog 14 #[.int .i64 way, .func (.func F) #[] #[], .func (.func G) #[] #[], .slice lo ln lc] w fun e w' => e = .returned (.tuple #[.int .i64 0, .bool false, .int .i64 12]) ∧ Below w.heap.size w w' := by
  have hst : ∀ (p : Addr) (F : Nat) (m : Mode) (w : World), (store p (.func (.func F) #[] #[]) m).run Tryz.prog w = stored Tryz.prog w p (.func (.func F) #[] #[]) m := fun p F m w => run_store _ w p _ m rfl
  have hle := hl.le
  have hma := hl.max
  have CW := wayOf_any way w
  rw [if_pos hw, decide_eq_true hw] at CW
  unfold wayV at CW
  generalize wayF way = K at *
  go_enter Tryz.func14, Tryz.ntmps14
  go_wp2_with fail
  refine CW.mono ?_
  rintro _ w1 ⟨rfl, hb1⟩
  have q1 := heap_alloc_new w1 (.cells #[.nilFunc] 60)
  have y0 := blkC q1 0 rfl
  have y1 := blkF q1 0
  go_wp2_with fail
  have q2 := heap_alloc_new w1 (.cells #[.func (.func K) #[] #[]] 60)
  have hb2 := bel_trans hb1 (bel_alloc w1 (.cells #[.func (.func K) #[] #[]] 60))
  generalize w1.alloc (.cells #[.func (.func K) #[] #[]] 60) = w2 at q2 hb2 ⊢
  clear q1 y0 y1 CW
  go_loopw [28] (fun iv wr => ∃ k : Nat, iv = .int .i64 k ∧ k ≤ ln ∧ Hid (wr.heap[w1.heap.size]? = some (.cells #[.func (.func K) #[] #[]] 60 (0, 0))) ∧ Below w.heap.size w wr) (fun iv _ => ln - (intOf iv).toNat)
  case atStart => exact ⟨0, rfl, Nat.zero_le _, q2, hb2⟩
  case round =>
    clear q2 hb2
    obtain ⟨k, rfl, hk, HQ, hbw⟩ := hrel
    by_cases hlt : k < ln
    · obtain ⟨ba, oa, rfl, hba, hca⟩ := hl.spot (by omega)
      obtain ⟨c0, c1, c2, hR⟩ := (hca k hlt).keeps hbw hba
      have hok := ok k hlt
      have CV := fun W (hb : Below wr.heap.size wr W) => dvalid_any (r k).ng (r k).ao (r k).n (r k).cap (r k).d (r k).e W (hR.keeps hb)
      unfold okR at hok
      rw [hok] at CV
      clear hok hR hca
      generalize r k = x at c0 c1 c2 CV
      obtain ⟨x_g, x_o, x_n, x_c, x_d, x_e⟩ := x
      simp only at c0 c1 c2 CV
      have hb3 := bel_alloc wr (.cells #[.bool x_g, .slice x_o x_n x_c, .int .i64 x_e] 24)
      have HQ3 : Hid ((wr.alloc (.cells #[.bool x_g, .slice x_o x_n x_c, .int .i64 x_e] 24)).heap[w1.heap.size]? = some (.cells #[.func (.func K) #[] #[]] 60 (0, 0))) := (hb3.block _ (Array.getElem?_eq_some_iff.1 HQ.out).1).trans HQ.out
      go_wp2_with fail
      refine (CV _ hb3).mono ?_
      rintro _ w4 ⟨rfl, hb4⟩
      have HQ4 : Hid (w4.heap[w1.heap.size]? = some (.cells #[.func (.func K) #[] #[]] 60 (0, 0))) := (hb4.block _ (Array.getElem?_eq_some_iff.1 HQ3.out).1).trans HQ3.out
      have hbw4 := hbw.trans ((bel_trans hb3 hb4).mono hbw.size)
      clear CV HQ3 hb3 hb4 c0 c1 c2
      go_wp2
      go_roundw
      case rel => exact ⟨k + 1, by go_num, by omega, HQ4.out, hbw4⟩
      case measure => simp [intOf]; omega
    · obtain rfl : k = ln := by omega
      go_wp2_with fail
      refine (hG _ hbw).mono ?_
      rintro _ w4 ⟨rfl, hb4⟩
      have p4 := (hb4.block _ (Array.getElem?_eq_some_iff.1 HQ.out).1).trans HQ.out
      have hbw4 := hbw.trans (hb4.mono hbw.size)
      have hb5 := bel_alloc w4 (.cells #[.bool false, .int .u64 0, .int .i64 0, .bool false, .bool false] 43)
      have hbw5 := hbw4.trans (hb5.mono hbw4.size)
      clear hG hb4 p4
      go_wp2
      all_goals refine bodyPost_ret (v := .tuple #[.int .i64 0, .bool false, .int .i64 12]) (by simp [results, Tryz.results14, go_sem]) rfl ⟨rfl, hbw5⟩
set_option maxRecDepth 100000 in
set_option maxHeartbeats 1000000 in
theorem quot_no (way : Int) (hw : 0 ≤ way ∧ way ≤ 3) (a b : NumR) (w : World) (ra : Row w a.ao a.n a.cap a.d) (rb : Row w b.ao b.n b.cap b.d) (oa : okR a = true) (ob : okR b = true) (hb0 : b.n = 0) (Ev : Env w) (hT : Tab w) :
    Calls Tryz.prog 20 #[a.v, b.v, .int .i64 way] w fun e w' => e = .returned (.tuple #[.int .i64 0, .bool false, .int .i64 12]) ∧ Below w.heap.size w w' := by
  have hEF : ∀ (cap : Array Value) (w : World), (callFunc 15 cap).run Tryz.prog w = .ok (.enter 15 cap) w := by
    intro cap w
    simp [go_sem]
  have hEG : ∀ (cap : Array Value) (w : World), (callFunc 43 cap).run Tryz.prog w = .ok (.enter 43 cap) w := by
    intro cap w
    simp [go_sem]
  have hmf : ∀ (fn : Fn) (first cap : Array Value) (w : World), (Instr.makeFunc fn first cap).run Tryz.prog w = .ok (.func fn first cap) w := fun _ _ _ _ => rfl
  have CR := fun W (hb : Below w.heap.size w W) (g : Nat) (hg : W.heap[g]? = some (.cells #[.bool a.ng, .slice a.ao a.n a.cap, .int .i64 a.e, .bool b.ng, .slice b.ao b.n b.cap, .int .i64 b.e] 24 (0, 0))) => rounded_no way hw 15 43 (some ⟨g, 0, none⟩) 2 2 (pair2 a b) W (nums2 hg (ra.keeps hb) (rb.keeps hb))
    (fun i hi => by
      have hi2 : i = 0 ∨ i = 1 := by omega
      rcases hi2 with rfl | rfl
      · exact oa
      · exact ob) hEG
    (fun W2 hb2 => quotient_no g a b W2 ((hb2.block _ (Array.getElem?_eq_some_iff.1 hg).1).trans hg) hb0)
  clear oa ob ra rb hb0
  unfold NumR.v
  obtain ⟨a_g, a_o, a_n, a_c, a_d, a_e⟩ := a
  obtain ⟨b_g, b_o, b_n, b_c, b_d, b_e⟩ := b
  simp only at *
  go_enter Tryz.func20, Tryz.ntmps20
  go_wp2_with fail
  refine (CR _ ?_ _ ?_).mono ?_
  rotate_left
  rotate_left
  · rintro _ w2 ⟨rfl, hb3⟩
    go_wp2
    all_goals refine bodyPost_ret (v := .tuple #[.int .i64 0, .bool false, .int .i64 12]) (by simp [results, Tryz.results20, go_sem]) rfl ⟨rfl, bel_trans (bel_a3 _ _ _ _) hb3⟩
  · exact bel_a3 _ _ _ _
  · exact h3_2 _ _ _ _
end Go.Proofs.YtcmcaladmodahaaGreatDoor

/-
  What RoundQuots asks of the calls: Quot on numbers told by their worth.
-/
namespace Go.Proofs.YtcmcaladmodahaaGreatDoor
open Go Go.RowKit Go.Proofs.YtcmcaladmodahaaGreatDoor.M
set_option linter.unusedSimpArgs false
set_option linter.unusedVariables false

theorem pw_nil : pw 0 = 2 ^ 4194304 := by
  unfold pw
  rw [show ((0 : Int) + 4194304).toNat = 4194304 by omega]
theorem okR_abs {g : Bool} {o : Option Addr} {n c : Nat} {d : Nat → Int} {e : Int} (h : okR ⟨g, o, n, c, d, e⟩ = true) : okR ⟨false, o, n, c, d, e⟩ = true := by
  refine decide_eq_true ?_
  rcases of_decide_eq_true h with ⟨h1, h2, h3⟩ | h1
  · exact .inl ⟨h1, rfl, h3⟩
  · exact .inr h1
theorem Bd.sg {B : Nat} {V : Int} (g : Bool) (h : Bd B V) : Bd B (M.sg g V) := by
  cases g
  · exact h
  · exact h.neg
theorem sg_sg (g : Bool) (m q : Int) : sg g (sg g m * q) = sg false m * q := by
  cases g
  · rfl
  · show -(-m * q) = m * q
    rw [Int.neg_mul, Int.neg_neg]
theorem sg_scale (g : Bool) (m p q : Int) : sg g (m * (p * q)) = sg g m * p * q := by
  rw [sg_prod, sg_prod, Int.mul_assoc]
/-- Quot by Down, at a divisor whose sign is taken off. -/
theorem quo_D {w : World} {ag bg : Bool} {ao bo : Option Addr} {an ac bn bc : Nat} {ae be a_V b_V : Int} (ha : DNum w (.agg #[.bool ag, .slice ao an ac, .int .i64 ae]) a_V) (hb : DNum w (.agg #[.bool bg, .slice bo bn bc, .int .i64 be]) b_V) (okA : Dok a_V) (okB : Dok b_V) (H : Hold4 w) :
    DNum w (.agg #[.bool false, .slice bo bn bc, .int .i64 be]) (sg bg b_V) ∧
    (bn = 0 → ∀ W, Below w.heap.size w W → Calls Tryz.prog 20 #[.agg #[.bool ag, .slice ao an ac, .int .i64 ae], .agg #[.bool false, .slice bo bn bc, .int .i64 be], .int .i64 0] W fun e w' => e = .returned (.tuple #[.int .i64 0, .bool false, .int .i64 12]) ∧ Below W.heap.size W w') ∧
    (0 < bn → ∃ d o, Quo (a_V * 2 ^ 4194304) (sg bg b_V) d o ∧ ∀ W, Below w.heap.size w W → Calls Tryz.prog 20 #[.agg #[.bool ag, .slice ao an ac, .int .i64 ae], .agg #[.bool false, .slice bo bn bc, .int .i64 be], .int .i64 1] W fun e w' => e = .returned (.tuple #[.int .i64 d, .bool o, .int .i64 0]) ∧ Below W.heap.size W w') := by
  obtain ⟨da, ra, oa, rfl⟩ := ha.open2 okA
  obtain ⟨db, rb, ob, rfl⟩ := hb.open2 okB
  have ob' := okR_abs ob
  have hBe : sg bg (NumR.V ⟨bg, bo, bn, bc, db, be⟩) = (⟨false, bo, bn, bc, db, be⟩ : NumR).V := sg_sg bg _ _
  have hdy := okR_dy ob'
  have hN : DNum w (.agg #[.bool false, .slice bo bn bc, .int .i64 be]) (NumR.V ⟨false, bo, bn, bc, db, be⟩) := by
    obtain ⟨nb, _, _, _⟩ := okR_sane ob'
    exact ⟨false, .slice bo bn bc, _, be, rfl, hdy.1, bo, bn, bc, db, rfl, rb, nb, rfl⟩
  rw [hBe]
  refine ⟨hN, fun h0 W hW => ?_, fun h0 => ?_⟩
  · exact quot_no 0 (by decide) ⟨ag, ao, an, ac, da, ae⟩ ⟨false, bo, bn, bc, db, be⟩ W (ra.keeps hW) (rb.keeps hW) oa ob' h0 (H.env.keeps hW) (H.tab.keeps hW)
  · obtain ⟨r0, left, hR, hE⟩ := quot_rung (way := 1) (a := ⟨ag, ao, an, ac, da, ae⟩) (b := ⟨false, bo, bn, bc, db, be⟩) oa ob' h0 rfl
    obtain ⟨nb, _, _, _⟩ := okR_sane ob'
    obtain ⟨na, _, _, _⟩ := okR_sane oa
    have hS : 0 < val db bn * pw be := Int.mul_pos (val_pos nb h0) (pw_pos _)
    have hz : ag = true → 0 < val da an * (pw ae * pw 0) := fun hg => by
      have hn : 0 < an := by
        rcases of_decide_eq_true oa with ⟨_, h2, _⟩ | h1
        · simp only at h2; rw [h2] at hg; cases hg
        · exact h1.1
      exact Int.mul_pos (val_pos na hn) (Int.mul_pos (pw_pos _) (pw_pos _))
    have hQ := quo_of hS hR hz
    refine ⟨_, _, ?_, fun W hW => quot_ok 1 (by decide) ⟨ag, ao, an, ac, da, ae⟩ ⟨false, bo, bn, bc, db, be⟩ W (ra.keeps hW) (rb.keeps hW) oa ob' h0 (H.env.keeps hW) (H.tab.keeps hW)⟩
    have e1 : sg ag (val da an * (pw ae * pw 0)) = (⟨ag, ao, an, ac, da, ae⟩ : NumR).V * 2 ^ 4194304 := by
      rw [sg_scale, pw_nil]
      rfl
    have e2 : val db bn * pw be = (⟨false, bo, bn, bc, db, be⟩ : NumR).V := rfl
    rw [← e1, ← e2, hE]
    exact hQ
theorem ord_up {m a p U Z S : Int} (hZ : 0 < Z) (h : m * Z = p * S) (hU : U = a * Z) : ord m a = ord (p * S) U := by
  rw [hU, ← h, ord_scale hZ]
theorem ord_le0 {a b : Int} (h : a ≤ b) : ord a b ≤ 0 := by
  rcases Int.lt_or_eq_of_le h with q | q
  · rw [ord_lt q]; decide
  · rw [ord_eq q]; decide
theorem next_B {b : Int} {w : World} (hb : rng b) (H : Hold4 w) : Calls Tryz.prog 7 #[.int .i64 b] w fun e w' => e = .returned (.int .i64 (next b)) ∧ Below w.heap.size w w' := by
  refine (bitsNext b w H.env.lays hb).mono ?_
  rintro e w' ⟨h, g⟩
  exact ⟨h, g.be⟩
end Go.Proofs.YtcmcaladmodahaaGreatDoor

/-
  Plain mathematics: what RoundRoots asks of Root's answers.
-/
namespace Go.Proofs.YtcmcaladmodahaaGreatDoor
open Go Go.RowKit Go.Proofs.YtcmcaladmodahaaGreatDoor.M
set_option linter.unusedSimpArgs false
set_option linter.unusedVariables false

theorem p52 {B : Nat} (h : B = 2 ^ 52) (n : Nat) : ((B * 2 ^ n : Nat) : Int) = 2 ^ (52 + n) := by
  subst h
  rw [← Nat.pow_add, Int.natCast_pow]
  rfl
theorem vS_bin {B : Nat} (hB : B = 4503599627370496) (a : Nat) : vS (a * B + B) = pw (-1074 + ((52 + a : Nat) : Int)) := by
  have eB : Ieee.double.binade = B := by rw [hB]; decide
  have h := (V_rung Ieee.double a B (by rw [eB]; omega) (fun _ => by rw [eB]; exact Nat.le_refl _)).1
  rw [eB] at h
  unfold vS
  rw [h, p52 (by rw [hB]), pw_add (by decide), Int.mul_comm]
theorem vS_inf : vS 9218868437227405312 = pw 1024 := by
  have h := vS_bin (B := 4503599627370496) rfl 2046
  have e : 2046 * 4503599627370496 + 4503599627370496 = 9218868437227405312 := by decide
  have e1 : (-1074 : Int) + ((52 + 2046 : Nat) : Int) = 1024 := by decide
  rw [e, e1] at h
  exact h
structure Roo (X d : Int) (o : Bool) : Prop where
  rg : rng d
  pk : pok d = true
  lo : patV d * patV d ≤ X
  eq : patV d * patV d = X ↔ o = false
  nxt : pok (next d) = true → X < patV (next d) * patV (next d)
theorem sgF (v : Int) : sg false v = v := rfl
theorem roo_of {X : Int} {r0 : Nat} {left : Int} (R : RungR X r0 left) (hX : X < pw 1024 * pw 1024) : Roo X (patS false (rTo 1 false r0 left)) (decide (left ≠ 0) || decide (9218868437227405312 ≤ (r0 : Int))) := by
  have hr : (r0 : Int) < 9218868437227405312 := by
    rcases Int.lt_or_le (r0 : Int) 9218868437227405312 with h | h
    · exact h
    · exfalso
      have h1 : vS 9218868437227405312 ≤ vS r0 := by
        rcases Nat.lt_or_eq_of_le (show 9218868437227405312 ≤ r0 by omega) with q | q
        · exact Int.le_of_lt (vS_lt q)
        · rw [← q]; exact Int.le_refl _
      rw [vS_inf] at h1
      exact absurd (Int.lt_of_lt_of_le hX (Int.le_trans (sq_le (Int.le_of_lt (pw_pos _)) h1) R.lo)) (Int.lt_irrefl _)
  obtain ⟨t1, _, _, _⟩ := rTo_fin (ng := false) (left := left) hr
  have e1 : rTo 1 false r0 left = (r0 : Int) := by rw [t1, if_neg (fun h => by cases h.2)]
  have ho : (decide (left ≠ 0) || decide (9218868437227405312 ≤ (r0 : Int))) = decide (left ≠ 0) := by rw [decide_eq_false (p := 9218868437227405312 ≤ (r0 : Int)) (Int.not_le.2 hr), Bool.or_false]
  rw [e1, ho]
  have hv : patV (patS false (r0 : Int)) = vS r0 := (patV_patS (ng := false) hr (fun h => by cases h)).trans (sgF _)
  have hnx : next (patS false (r0 : Int)) = patS false ((r0 + 1 : Nat) : Int) := by
    rw [next_pos (by omega) hr]; rfl
  obtain ⟨lo, hi, l0⟩ := R
  refine ⟨(patS_facts (by omega) (by omega) (fun h => by cases h)).1, ?_, by rw [hv]; exact lo, ?_, fun h => ?_⟩
  · rw [patS_pok (by omega) (by omega) (fun h => by cases h)]; exact decide_eq_true hr
  · rw [hv, decide_eq_false_iff_not, Classical.not_not, l0]
    exact ⟨Eq.symm, Eq.symm⟩
  · rw [hnx] at h ⊢
    have h1 := pok_pos (by omega) (k_le hr) h
    rw [(patV_patS (ng := false) h1 (fun h => by cases h)).trans (sgF _)]
    exact hi
theorem patV_rg {b : Int} (hb : rng b) (hp : pok b = true) : ∃ (ng : Bool) (r : Nat), (r : Int) = rg b ∧ (r : Int) < 9218868437227405312 ∧ patV b = sg ng (vS r) := by
  obtain ⟨r0, r1⟩ := rg_parts hb
  have hlt : rg b < 9218868437227405312 := by
    have hne := pparts hp
    have hf : 0 ≤ frc b ∧ frc b < 4503599627370496 := by unfold frc; omega
    have hg : 0 ≤ fld b ∧ fld b < 2048 := by unfold fld; omega
    omega
  obtain ⟨r, hr⟩ : ∃ r : Nat, (r : Int) = rg b := ⟨(rg b).toNat, Int.toNat_of_nonneg r0⟩
  have hs : b = patS (decide (b < 0)) (r : Int) := by
    rw [hr]
    unfold patS rg
    by_cases h : b < 0
    · rw [decide_eq_true h, if_pos rfl, if_pos h]; omega
    · rw [decide_eq_false h, if_neg (by decide), if_neg h]
  refine ⟨decide (b < 0), r, hr, by rw [hr]; exact hlt, ?_⟩
  rw [← hr] at hlt
  cases hd : decide (b < 0)
  · rw [hd] at hs
    rw [hs]
    exact patV_patS hlt (fun h => by cases h)
  · rw [hd] at hs
    rw [hs]
    exact patV_neg hlt
theorem canon_abs {b : Int} (hb : rng b) (hp : pok b = true) : canon (abs b) = rg b := by
  obtain ⟨_, _, hr, hlt, _⟩ := patV_rg hb hp
  rw [hr] at hlt
  have hc : cls b ≠ 4 := fun h => by have := (cls_rg hb).1.1 h; omega
  have ha : abs b = rg b := by unfold abs rg; rw [if_neg hc]
  obtain ⟨r0, _⟩ := rg_parts hb
  have hrr : rng (rg b) := by unfold rng; omega
  have hrg : rg (rg b) = rg b := by
    have h2 : rg (rg b) = if rg b < 0 then rg b + 9223372036854775808 else rg b := rfl
    rw [h2, if_neg (by omega)]
  rw [ha]
  unfold canon
  rw [if_neg (fun h => by have := (cls_rg hrr).1.1 h; rw [hrg] at this; omega)]
  by_cases h0 : cls (rg b) = 0
  · rw [if_pos h0]
    have := (cls_rg hrr).2.1 h0
    rw [hrg] at this
    omega
  · rw [if_neg h0]
theorem sg_sq (g : Bool) (a : Int) : sg g a * sg g a = a * a := by
  cases g
  · rfl
  · show -a * -a = a * a
    rw [Int.neg_mul_neg]
/-- The root of a float's square is the float's size. -/
theorem root_back {x : NumR} {s b : Int} (ok : okR x = true) (hs : IsRoot (scV (val x.d x.n) (tK (val x.d x.n) x.e)) s) (hb : rng b) (hp : pok b = true) (h : val x.d x.n * (pw x.e * pw 0) = patV b * patV b) : tR64 0 x s = (canon (abs b), false) := by
  obtain ⟨r0, left, hR, hE⟩ := root_rung (way := 0) ok hs
  obtain ⟨ng, r, hr, hlt, hv⟩ := patV_rg hb hp
  rw [h, hv, sg_sq] at hR
  have e := hR.unique (rungR_sq r)
  subst e
  have hl := hR.l0.2 rfl
  subst hl
  have hz : rTo 0 false r0 0 = (r0 : Int) := by
    unfold rTo
    rw [if_pos hlt]
    cases hu : rUp 0 false (decide (r0 % 2 = 1)) 0
    · simp
    · exact (rUp_left hu).elim
  rw [hE, hz, canon_abs hb hp, ← hr]
  rw [decide_eq_false (p := (0 : Int) ≠ 0) (fun h => h rfl), decide_eq_false (p := 9218868437227405312 ≤ (r0 : Int)) (Int.not_le.2 hlt)]
  rfl
end Go.Proofs.YtcmcaladmodahaaGreatDoor

/-
  Package round: Root, by its contract; and on numbers told by their worth.
-/
namespace Go.Proofs.YtcmcaladmodahaaGreatDoor
open Go Go.RowKit Go.Proofs.YtcmcaladmodahaaGreatDoor.M
set_option linter.unusedSimpArgs false
set_option linter.unusedVariables false

set_option maxRecDepth 100000 in
set_option maxHeartbeats 1000000 in
theorem rootf_ok (way : Int) (hw : 0 ≤ way ∧ way ≤ 3) (x : NumR) (s : Int) (w : World) (hx : Row w x.ao x.n x.cap x.d) (ok : okR x = true) (hng : x.ng = false) (hs : IsRoot (scV (val x.d x.n) (tK (val x.d x.n) x.e)) s) (Ev : Env w) (hT : Tab w) :
    Calls Tryz.prog 5 #[x.v, .int .i64 way] w fun e w' => e = .returned (.tuple #[.int .i64 (tR64 way x s).1, .bool (tR64 way x s).2, .int .i64 0]) ∧ Below w.heap.size w w' := by
  have hS := okR_sane ok
  obtain ⟨na, hn, he0, he1⟩ := hS
  have hv0 := val_nonneg na.1
  have hbl := blen_nrm na
  obtain ⟨k1, k2, k3⟩ := tK_in (M := val x.d x.n) (e := x.e)
  have hhigh := scV_high hv0 (n := 124) (k := tK (val x.d x.n) x.e) (by omega)
  have hsm := root_small hs hhigh.2
  have hs0 := hs.1
  have hEF : ∀ (cap : Array Value) (w : World), (callFunc 15 cap).run Tryz.prog w = .ok (.enter 15 cap) w := by
    intro cap w
    simp [go_sem]
  have hEG : ∀ (cap : Array Value) (w : World), (callFunc 16 cap).run Tryz.prog w = .ok (.enter 16 cap) w := by
    intro cap w
    simp [go_sem]
  have hmf : ∀ (fn : Fn) (first cap : Array Value) (w : World), (Instr.makeFunc fn first cap).run Tryz.prog w = .ok (.func fn first cap) w := fun _ _ _ _ => rfl
  have CR := fun W (hb : Below w.heap.size w W) (g : Nat) (hg : W.heap[g]? = some (.cells #[.bool x.ng, .slice x.ao x.n x.cap, .int .i64 x.e] 24 (0, 0))) => rounded_ok way hw 15 16 (some ⟨g, 0, none⟩) 1 1 (fun _ => x) W
    ⟨Nat.le_refl _, by decide, fun _ => ⟨g, 0, rfl, (Array.getElem?_eq_some_iff.1 hg).1, fun i hi => by
      obtain rfl : i = 0 := by omega
      exact ⟨blkC hg 0 rfl, blkC hg 1 rfl, blkC hg 2 rfl, hx.keeps hb⟩⟩⟩ (fun _ _ => ok) false s.toNat ((x.e - tK (val x.d x.n) x.e) / 2) (scC (val x.d x.n) (tK (val x.d x.n) x.e) || decide (scV (val x.d x.n) (tK (val x.d x.n) x.e) - s * s ≠ 0)) false _ _ hEF hEG
    (fun W2 hb2 => rroot_any g x W2 s ((hb2.block _ (Array.getElem?_eq_some_iff.1 hg).1).trans hg) ((hx.keeps hb).keeps hb2) ok hng hs ((hT.keeps hb).keeps hb2))
    (fun W2 hb2 => binary64_any way hw false false _ _ _ W2 ((Ev.keeps hb).keeps hb2) (by omega) (by omega))
  have HQ : tR64 way x s = r64 way false false s.toNat ((x.e - tK (val x.d x.n) x.e) / 2) (scC (val x.d x.n) (tK (val x.d x.n) x.e) || decide (scV (val x.d x.n) (tK (val x.d x.n) x.e) - s * s ≠ 0)) := rfl
  rw [← HQ] at CR
  generalize tR64 way x s = R at CR ⊢
  have HCR : Hid _ := CR
  unfold NumR.v
  clear HQ ok hsm hbl hv0 he0 he1 hn na hx hng hs k1 k2 k3 hhigh hs0
  obtain ⟨x_g, x_o, x_n, x_c, x_d, x_e⟩ := x
  simp only at *
  clear HCR
  have hb2 := bel_alloc2 w (.cells #[.bool x_g, .slice x_o x_n x_c, .int .i64 x_e] 24) (.cells #[.bool x_g, .slice x_o x_n x_c, .int .i64 x_e] 24)
  have q1 := heap_b2 w (.cells #[.bool x_g, .slice x_o x_n x_c, .int .i64 x_e] 24) (.cells #[.bool x_g, .slice x_o x_n x_c, .int .i64 x_e] 24)
  go_enter Tryz.func5, Tryz.ntmps5
  go_wp2_with fail
  refine (CR _ hb2 _ q1).mono ?_
  rintro _ w2 ⟨rfl, hb3⟩
  go_wp2
  all_goals refine bodyPost_ret (v := .tuple #[.int .i64 R.1, .bool R.2, .int .i64 0]) (by simp [results, Tryz.results5, go_sem]) rfl ⟨rfl, bel_trans hb2 hb3⟩
theorem pw_le {a b : Int} (h0 : -4194304 ≤ a) (h : a ≤ b) : pw a ≤ pw b := by
  rw [pw_sub h0 h]
  have := Int.mul_le_mul_of_nonneg_right (show (1 : Int) ≤ 2 ^ (b - a).toNat from two_pos _) (Int.le_of_lt (pw_pos a))
  rwa [Int.one_mul] at this
theorem sg_bd {a q : Int} (ha : 0 ≤ a) (hq : 0 < q) (g h : Bool) : sg g (sg h a * q) ≤ a * q := by
  have h0 : 0 ≤ a * q := Int.mul_nonneg ha (Int.le_of_lt hq)
  rw [sg_prod]
  generalize a * q = t at *
  unfold sg
  cases g <;> cases h
  · exact Int.le_refl _
  · show -t ≤ t; omega
  · show -t ≤ t; omega
  · show - -t ≤ t; omega
theorem P_pw (n : Nat) {e : Int} (he : -4194304 ≤ e) : P n * pw e = pw (e + ((30 * n : Nat) : Int)) := by
  rw [pw_add he, Int.mul_comm]
  congr 1
  induction n with
  | zero => rfl
  | succ n ih =>
    show P n * 1073741824 = _
    rw [ih, Nat.mul_succ, Int.pow_add]
    rfl
theorem num4_L (x : NumR) (w : World) (h : Row w x.ao x.n x.cap x.d) (he : rng x.e) (hT : Tab w) :
    Calls Tryz.prog 4 #[x.v] w fun r w' => ∃ v V, r = .returned v ∧ DAns w w' V v ∧ Bd 4000 V ∧ ∀ g, sg g V < pw 1900 := by
  refine (num4_any x w h he hT).mono ?_
  rintro r w' ⟨v, M, e, rfl, hD, h0, h1, e0, e1⟩
  refine ⟨v, _, rfl, hD, bd_num h0 (Int.lt_of_lt_of_le h1 P20_30) (by omega) (by omega), fun g => ?_⟩
  refine Int.lt_of_le_of_lt (sg_bd h0 (pw_pos e) g x.ng) ?_
  have h2 : M * pw e < P 20 * pw e := Int.mul_lt_mul_of_pos_right h1 (pw_pos e)
  have h3 : P 20 * pw e = pw (e + ((30 * 20 : Nat) : Int)) := P_pw 20 (by omega)
  rw [h3] at h2
  exact Int.lt_of_lt_of_le h2 (pw_le (by omega) (by omega))
theorem isRoot_exI {A : Int} (h : 0 ≤ A) : ∃ s, IsRoot A s := by
  obtain ⟨n, rfl⟩ := Int.eq_ofNat_of_zero_le h
  exact isRoot_ex n
theorem root_X {B : Int} (h : B < pw 1900) : B * pw 0 < pw 1024 * pw 1024 := by
  have h1 : B * pw 0 < pw 1900 * pw 0 := Int.mul_lt_mul_of_pos_right h (pw_pos 0)
  have h2 : pw 1900 * pw 0 = 2 ^ 0 * (pw 950 * pw 950) := pw_cross (by decide) (by decide) (by decide) (by decide) (by decide)
  rw [Int.pow_zero, Int.one_mul] at h2
  rw [h2] at h1
  exact Int.lt_of_lt_of_le h1 (sq_le (Int.le_of_lt (pw_pos _)) (pw_le (by decide) (by decide)))
theorem scV_nonneg {M k : Int} (hM : 0 ≤ M) : 0 ≤ scV M k := by
  unfold scV
  split
  · exact Int.mul_nonneg hM (Int.le_of_lt (two_pos _))
  · exact Int.ediv_nonneg hM (Int.le_of_lt (two_pos _))
theorem sq_nonneg' (a : Int) : 0 ≤ a * a := by
  rcases Int.le_total 0 a with h | h
  · exact Int.mul_nonneg h h
  · exact Int.mul_nonneg_of_nonpos_of_nonpos h h
theorem root_D1 {w : World} {o : Option Addr} {n c : Nat} {e B : Int} (h : DNum w (.agg #[.bool false, .slice o n c, .int .i64 e]) B) (ok : Dok B) (hB : B < pw 1900) (H : Hold4 w) :
    ∃ d od, Roo (B * 2 ^ 4194304) d od ∧ ∀ W, Below w.heap.size w W → Calls Tryz.prog 5 #[.agg #[.bool false, .slice o n c, .int .i64 e], .int .i64 1] W fun r w' => r = .returned (.tuple #[.int .i64 d, .bool od, .int .i64 0]) ∧ Below W.heap.size W w' := by
  obtain ⟨d, hR, hok, rfl⟩ := h.open2 ok
  have na := (okR_sane hok).1
  obtain ⟨s, hs⟩ := isRoot_exI (scV_nonneg (val_nonneg na.1) (k := tK (val d n) e))
  obtain ⟨r0, left, hRR, hE⟩ := root_rung (way := 1) (x := ⟨false, o, n, c, d, e⟩) hok hs
  have e1 : val d n * (pw e * pw 0) = (⟨false, o, n, c, d, e⟩ : NumR).V * 2 ^ 4194304 := by
    rw [← Int.mul_assoc, pw_nil]
    rfl
  have e2 : val d n * (pw e * pw 0) < pw 1024 * pw 1024 := by
    rw [← Int.mul_assoc]
    exact root_X hB
  have hQ := roo_of (X := val d n * (pw e * pw 0)) hRR e2
  obtain ⟨D, od, hT1, hT2⟩ : ∃ D od, tR64 1 ⟨false, o, n, c, d, e⟩ s = (D, od) ∧ Roo (val d n * (pw e * pw 0)) D od := ⟨_, _, hE, hQ⟩
  refine ⟨D, od, by rw [← e1]; exact hT2, fun W hW => ?_⟩
  have hC := rootf_ok 1 (by decide) ⟨false, o, n, c, d, e⟩ s W (hR.keeps hW) hok rfl hs (H.env.keeps hW) (H.tab.keeps hW)
  rw [hT1] at hC
  exact hC
theorem root_D0 {w : World} {g : Bool} {o : Option Addr} {n c : Nat} {e B b : Int} (h : DNum w (.agg #[.bool g, .slice o n c, .int .i64 e]) B) (ok : Dok B) (hb : rng b) (hp : pok b = true) (hB : B * 2 ^ 4194304 = patV b * patV b) (H : Hold4 w) :
    Calls Tryz.prog 5 #[.agg #[.bool g, .slice o n c, .int .i64 e], .int .i64 0] w fun r w' => r = .returned (.tuple #[.int .i64 (canon (abs b)), .bool false, .int .i64 0]) ∧ Below w.heap.size w w' := by
  obtain ⟨d, hR, hok, rfl⟩ := h.open2 ok
  have na := (okR_sane hok).1
  have hg : g = false := by
    cases g
    · rfl
    · exfalso
      have hn : 0 < n := by
        rcases of_decide_eq_true hok with ⟨_, h2, _⟩ | h1
        · cases h2
        · exact h1.1
      have h1 : 0 < val d n * pw e := Int.mul_pos (val_pos na hn) (pw_pos _)
      have h2 : (⟨true, o, n, c, d, e⟩ : NumR).V = -(val d n * pw e) := Int.neg_mul _ _
      have h3 : 0 ≤ patV b * patV b := sq_nonneg' _
      rw [← hB, h2] at h3
      generalize val d n * pw e = t at *
      have h4 : -t * 2 ^ 4194304 < 0 := Int.mul_neg_of_neg_of_pos (by omega) (two_pos _)
      exact absurd h4 (Int.not_lt.2 h3)
  subst hg
  obtain ⟨s, hs⟩ := isRoot_exI (scV_nonneg (val_nonneg na.1) (k := tK (val d n) e))
  have e1 : val d n * (pw e * pw 0) = patV b * patV b := by
    rw [← hB, ← Int.mul_assoc, pw_nil]
    rfl
  have hE := root_back (x := ⟨false, o, n, c, d, e⟩) hok hs hb hp e1
  have hC := rootf_ok 0 (by decide) ⟨false, o, n, c, d, e⟩ s w hR hok rfl hs H.env H.tab
  rw [hE] at hC
  exact hC
theorem abs_D {w : World} {g : Bool} {o : Option Addr} {n c : Nat} {e V : Int} (h : DNum w (.agg #[.bool g, .slice o n c, .int .i64 e]) V) (ok : Dok V) : DNum w (.agg #[.bool false, .slice o n c, .int .i64 e]) (sg g V) := by
  obtain ⟨d, hR, hok, rfl⟩ := h.open2 ok
  have ob' := okR_abs hok
  have hBe : sg g (NumR.V ⟨g, o, n, c, d, e⟩) = (⟨false, o, n, c, d, e⟩ : NumR).V := sg_sg g _ _
  rw [hBe]
  exact ⟨false, .slice o n c, _, e, rfl, (okR_dy ob').1, o, n, c, d, rfl, hR, (okR_sane ob').1, rfl⟩
theorem abs_B {b : Int} {w : World} (hb : rng b) (H : Hold4 w) : Calls Tryz.prog 12 #[.int .i64 b] w fun e w' => e = .returned (.int .i64 (abs b)) ∧ Below w.heap.size w w' := by
  refine (bitsAbs b w H.env.lays hb).mono ?_
  rintro e w' ⟨h, g⟩
  exact ⟨h, g.be⟩
theorem canon_B {b : Int} {w : World} (H : Hold4 w) : Calls Tryz.prog 11 #[.int .i64 b] w fun e w' => e = .returned (.int .i64 (canon b)) ∧ Below w.heap.size w w' := by
  refine (bitsCanon b w H.env.lays).mono ?_
  rintro e w' ⟨h, g⟩
  exact ⟨h, g.be⟩
end Go.Proofs.YtcmcaladmodahaaGreatDoor
