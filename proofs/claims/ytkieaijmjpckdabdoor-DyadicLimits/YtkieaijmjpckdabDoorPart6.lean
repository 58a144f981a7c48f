/-
  Parts of the proof, one behind another.
-/
import Derived.Test.YtkieaijmjpckdabDoorPart5
import Derived.Deep.RegionHeld3
import Derived.Test.YtkieaijmjpckdabDoorPart1
import Derived.Test.YtkieaijmjpckdabDoorProg
import Derived.WalkKit
import Derived.RowKit3
import Derived.Below
import Derived.Deep.QuietTactic
import Derived.BigQuiet
/-
  Package dyadic: Neg, Abs, Sign, Scale, by contracts.
-/
namespace Go.Proofs.YtkieaijmjpckdabDoor
open Go Go.RowKit Go.Proofs.YtkieaijmjpckdabDoor.M
set_option linter.unusedSimpArgs false
set_option linter.unusedVariables false

set_option maxRecDepth 100000 in
set_option maxHeartbeats 1000000 in
theorem withSign_any (ng : Bool) (x : NumR) (w : World) (hx : Row w x.ao x.n x.cap x.d) (sx : Sane x) :
    Calls Tryd.prog 23 #[.bool ng, x.v] w fun r w' => ∃ s, r = .returned (.agg #[.bool (ng && decide (0 < x.n)), s, .int .i64 x.e]) ∧ Ans w w' (val x.d x.n) s := by
  have hC : ∀ W, Below w.heap.size w W → Calls Tryd.prog 37 #[.slice x.ao x.n x.cap] W fun r w' => ∃ so sn sc, r = .returned (.slice so sn sc) ∧ Ans W w' (val x.d x.n) (.slice so sn sc) ∧ Below W.heap.size W w' := fun W hb => by
    refine (clone_num (w := W) (ao := x.ao) (n := x.n) (cap := x.cap) (A := val x.d x.n) ⟨_, _, _, _, rfl, hx.keeps hb, sx.1, rfl⟩ (by have := sx.2.1; omega)).mono ?_
    rintro r w' ⟨v, rfl, hA⟩
    obtain ⟨so, sn, sc, rfl⟩ := hA.num.shape
    exact ⟨so, sn, sc, rfl, hA, hA.below⟩
  obtain ⟨an, ao, n, ca, a, e⟩ := x
  unfold NumR.v
  simp only at *
  have hb2 := bel_alloc2 w (.cells #[.bool an, .slice ao n ca, .int .i64 e] 24) (.cells #[.bool false, .slice none 0 0, .int .i64 0] 24)
  have g0 := heap_a2 w (.cells #[.bool an, .slice ao n ca, .int .i64 e] 24) (.cells #[.bool false, .slice none 0 0, .int .i64 0] 24)
  have g1 := heap_b2 w (.cells #[.bool an, .slice ao n ca, .int .i64 e] 24) (.cells #[.bool false, .slice none 0 0, .int .i64 0] 24)
  have hs := size2 w (.cells #[.bool an, .slice ao n ca, .int .i64 e] 24) (.cells #[.bool false, .slice none 0 0, .int .i64 0] 24)
  have hdn : decide ((0 : Int) < n) = decide (0 < n) := by simp
  cases ng
  ·
    go_enter Tryd.func23, Tryd.ntmps23
    go_wp2_with fail
    generalize (w.alloc (.cells #[.bool an, .slice ao n ca, .int .i64 e] 24)).alloc (.cells #[.bool false, .slice none 0 0, .int .i64 0] 24) = wx at hb2 g0 g1 hs ⊢
    have k0 := blkC g0 0 rfl
    have k1 := blkC g0 1 rfl
    have k2 := blkC g0 2 rfl
    have hb1 := bel_refl wx
    refine wp_region_held_drew (S := fun W => W.cell? ⟨w.heap.size, 0, none⟩ = some (.bool an) ∧ W.cell? ⟨w.heap.size, 1, none⟩ = some (.slice ao n ca) ∧ W.cell? ⟨w.heap.size, 2, none⟩ = some (.int .i64 e)) (by kernel_rfl) ⟨k0, k1, k2⟩ (fun hHeld => ?_)
    refine wpAnyH_take (i := 0) (v := ?_) rfl (by kernel_rfl) (by kernel_rfl) (by kernel_rfl) (fun _ _ _ h => h) (Or.inl ⟨by rfl, ?_⟩) (by assumption) ?_
    rotate_left
    · intro w hSw; (try dsimp only at hSw); go_simp; first | done | with_reducible rfl
    simp only [Act.put, List.setIfInBounds_toArray, List.set_cons_zero, List.set_cons_succ]
    refine wpAnyH_take (i := 1) (v := ?_) rfl (by kernel_rfl) (by kernel_rfl) (by kernel_rfl) (fun _ _ _ h => h) (Or.inl ⟨by rfl, ?_⟩) (by assumption) ?_
    rotate_left
    · intro w hSw; (try dsimp only at hSw); go_simp; first | done | with_reducible rfl
    simp only [Act.put, List.setIfInBounds_toArray, List.set_cons_zero, List.set_cons_succ]
    refine wpAnyH_take (i := 2) (v := undef) rfl (by kernel_rfl) (by kernel_rfl) (by kernel_rfl) (fun _ _ _ h => h) (Or.inr ⟨by rfl, rfl⟩) (by assumption) ?_
    simp only [Act.put, List.setIfInBounds_toArray, List.set_cons_zero, List.set_cons_succ]
    refine wpAnyH_take (i := 3) (v := undef) rfl (by kernel_rfl) (by kernel_rfl) (by kernel_rfl) (fun _ _ _ h => h) (Or.inr ⟨by rfl, rfl⟩) (by assumption) ?_
    simp only [Act.put, List.setIfInBounds_toArray, List.set_cons_zero, List.set_cons_succ]
    refine wpAnyH_take (i := 4) (v := undef) rfl (by kernel_rfl) (by kernel_rfl) (by kernel_rfl) (fun _ _ _ h => h) (Or.inr ⟨by rfl, rfl⟩) (by assumption) ?_
    simp only [Act.put, List.setIfInBounds_toArray, List.set_cons_zero, List.set_cons_succ]
    refine wpAnyH_take (i := 5) (v := undef) rfl (by kernel_rfl) (by kernel_rfl) (by kernel_rfl) (fun _ _ _ h => h) (Or.inr ⟨by rfl, rfl⟩) (by assumption) ?_
    simp only [Act.put, List.setIfInBounds_toArray, List.set_cons_zero, List.set_cons_succ]
    refine wpAnyH_take (i := 6) (v := ?_) rfl (by kernel_rfl) (by kernel_rfl) (by kernel_rfl) (fun _ _ _ h => h) (Or.inl ⟨by rfl, ?_⟩) (by assumption) ?_
    rotate_left
    · intro w hSw; (try dsimp only at hSw); go_simp; first | done | with_reducible rfl
    simp only [Act.put, List.setIfInBounds_toArray, List.set_cons_zero, List.set_cons_succ]
    refine wpAnyH_take (i := 7) (v := ?_) rfl (by kernel_rfl) (by kernel_rfl) (by kernel_rfl) (fun _ _ _ h => h) (Or.inl ⟨by rfl, ?_⟩) (by assumption) ?_
    rotate_left
    · intro w hSw; (try dsimp only at hSw); go_simp; first | done | with_reducible rfl
    simp only [Act.put, List.setIfInBounds_toArray, List.set_cons_zero, List.set_cons_succ]
    refine wpAnyH_take (i := 8) (v := ?_) rfl (by kernel_rfl) (by kernel_rfl) (by kernel_rfl) (fun _ _ _ h => h) (Or.inl ⟨by rfl, ?_⟩) (by assumption) ?_
    rotate_left
    · intro w hSw; (try dsimp only at hSw); go_simp; first | done | with_reducible rfl
    simp only [Act.put, List.setIfInBounds_toArray, List.set_cons_zero, List.set_cons_succ]
    refine wpAnyH_take (i := 10) (v := ?_) rfl (by kernel_rfl) (by kernel_rfl) (by kernel_rfl) (fun _ _ _ h => h) (Or.inl ⟨by rfl, ?_⟩) (by assumption) ?_
    rotate_left
    · intro w hSw; (try dsimp only at hSw); go_simp; first | done | with_reducible rfl
    simp only [Act.put, List.setIfInBounds_toArray, List.set_cons_zero, List.set_cons_succ]
    refine wpAnyH_take (i := 11) (v := ?_) rfl (by kernel_rfl) (by kernel_rfl) (by kernel_rfl) (fun _ _ _ h => h) (Or.inl ⟨by rfl, ?_⟩) (by assumption) ?_
    rotate_left
    · intro w hSw; (try dsimp only at hSw); go_simp; first | done | with_reducible rfl
    simp only [Act.put, List.setIfInBounds_toArray, List.set_cons_zero, List.set_cons_succ]
    refine wpAnyH_ready (rs := [9]) (by kernel_rfl) (by simp) ?_
    refine AllReadyH.cons rfl (fun K hK => ?_) AllReadyH.nil
    go_simp
    refine (hC _ (bel_trans hb2 hb1.drew)).mono ?_
    rintro y w3 ⟨so, sn, sc, rfl, hv, hbv1⟩
    have q0 := (hbv1.block (w.heap.size + 1) (by show _ < wx.heap.size; omega)).trans g1
    have x0 := blkC q0 0 rfl
    have x1 := blkC q0 1 rfl
    have x2 := blkC q0 2 rfl
    have z0 := blkF q0 0
    have z1 := blkF q0 1
    have z2 := blkF q0 2
    refine hK.out _ _ (keepB (W := wx.drew) ⟨k0, k1, k2⟩ hbv1) (fun hHeld2 => ?_)
    clear hK K hHeld
    try simp only [Act.put, List.setIfInBounds_toArray, List.set_cons_zero, List.set_cons_succ]
    refine wpAnyH_take (i := 12) (v := ?_) rfl (by kernel_rfl) (by kernel_rfl) (by kernel_rfl) (fun _ _ _ h => h) (Or.inl ⟨by rfl, ?_⟩) (by assumption) ?_
    rotate_left
    · intro w hSw; (try dsimp only at hSw); go_simp; first | done | with_reducible rfl
    simp only [Act.put, List.setIfInBounds_toArray, List.set_cons_zero, List.set_cons_succ]
    refine wpAnyH_ready (rs := [13]) (by kernel_rfl) (by simp) ?_
    refine AllReadyH.cons rfl (fun K hK => ?_) AllReadyH.nil
    go_simp
    refine hK.out _ _ (keepS hHeld2 (by omega) _ _ _) (fun hHeld3 => ?_)
    clear hK K
    refine wpAnyH_done (by kernel_rfl) ?_ _
    all_goals go_wp2
    all_goals
      refine bodyPost_ret (v := .agg #[.bool false, .slice so sn sc, .int .i64 e]) (by simp [results, Tryd.results23, go_sem, x0, x1, x2]) rfl ⟨_, rfl, ?_⟩
      exact ans_res (g := w.heap.size + 1) (hv.from hb1.drew) hb2 (by omega) (by omega) _ _ _
  ·
    go_enter Tryd.func23, Tryd.ntmps23
    go_wp2_with fail
    generalize (w.alloc (.cells #[.bool an, .slice ao n ca, .int .i64 e] 24)).alloc (.cells #[.bool false, .slice none 0 0, .int .i64 0] 24) = wx at hb2 g0 g1 hs ⊢
    have k0 := blkC g0 0 rfl
    have k1 := blkC g0 1 rfl
    have k2 := blkC g0 2 rfl
    have hb1 := bel_refl wx
    go_region_held3 (fun W => W.cell? ⟨w.heap.size, 0, none⟩ = some (.bool an) ∧ W.cell? ⟨w.heap.size, 1, none⟩ = some (.slice ao n ca) ∧ W.cell? ⟨w.heap.size, 2, none⟩ = some (.int .i64 e))
      (first | assumption | exact ⟨k0, k1, k2⟩ | exact keepB (W := wx.drew) ⟨k0, k1, k2⟩ hbv1 | exact keepS (keepB (W := wx.drew) ⟨k0, k1, k2⟩ hbv1) (by omega) _ _ _)
      (first | (go_at_call 37; refine (hC _ (bel_trans hb2 hb1.drew)).mono ?_; rintro y w3 ⟨so, sn, sc, rfl, hv, hbv1⟩; have q0 := (hbv1.block (w.heap.size + 1) (by show _ < wx.heap.size; omega)).trans g1; have x0 := blkC q0 0 rfl; have x1 := blkC q0 1 rfl; have x2 := blkC q0 2 rfl; have z0 := blkF q0 0; have z1 := blkF q0 1; have z2 := blkF q0 2) | fail)
    all_goals go_wp2
    all_goals
      refine bodyPost_ret (v := .agg #[.bool (decide (0 < n)), .slice so sn sc, .int .i64 e]) (by simp [results, Tryd.results23, go_sem, x0, x1, x2]) rfl ⟨_, rfl, ?_⟩
      exact ans_res (g := w.heap.size + 1) (hv.from hb1.drew) hb2 (by omega) (by omega) _ _ _
theorem neg_dy {x : NumR} (h : okR x = true) : Dy (-x.V) (!x.ng && decide (0 < x.n)) (val x.d x.n) x.e := by
  have hd := (okR_dy h).1
  by_cases h0 : 0 < x.n
  · have hv := val_pos (okR_sane h).1 h0
    have := hd.neg hv
    simpa [h0] using this
  · rcases of_decide_eq_true h with ⟨h1, h2, h3⟩ | ⟨h1, _⟩
    · have hv : val x.d x.n = 0 := by rw [h1]; rfl
      have := hd.eq_zero.2 hv
      rw [this, hv, h3]
      simpa [h0] using Dy.zero
    · omega
theorem abs_dy {x : NumR} (h : okR x = true) : Dy (x.V.natAbs : Int) (false && decide (0 < x.n)) (val x.d x.n) x.e := by
  have hd := (okR_dy h).1.abs
  simpa using hd
set_option maxRecDepth 100000 in
set_option maxHeartbeats 1000000 in
theorem dneg_bad (x : NumR) (w : World) (hx : Row w x.ao x.n x.cap x.d) (ok : okR x = false) :
    Calls Tryd.prog 7 #[x.v] w fun r w' => r = .returned (.tuple #[zeroV, .int .i64 11]) ∧ Below w.heap.size w w' := by
  have hV := fun W hb => dvalid_any x.ng x.ao x.n x.cap x.d x.e W (hx.keeps hb)
  have hk : okN x.ng x.d x.n x.e = okR x := rfl
  rw [hk, ok] at hV
  clear ok hk
  unfold NumR.v
  obtain ⟨an, ao, n, ca, a, e⟩ := x
  simp only at *
  go_enter Tryd.func7, Tryd.ntmps7
  go_wp2_with fail
  refine (hV _ (bel_alloc2 _ _ _)).mono ?_
  rintro r w1 ⟨rfl, hb1⟩
  have q0 := (hb1.block (w.heap.size + 1) (by rw [size2]; omega)).trans (heap_b2 _ _ _)
  have x0 := blkC q0 0 rfl
  have x1 := blkC q0 1 rfl
  have x2 := blkC q0 2 rfl
  have z0 := blkF q0 0
  have z1 := blkF q0 1
  have z2 := blkF q0 2
  go_wp2
  refine bodyPost_ret (v := .tuple #[zeroV, .int .i64 11]) (by simp [results, Tryd.results7, go_sem, zeroV, x0, x1, x2]) rfl ⟨rfl, ?_⟩
  exact bel_set3 (bel_trans (bel_alloc2 _ _ _) hb1) (by omega) _ _ _
set_option maxRecDepth 100000 in
set_option maxHeartbeats 1000000 in
theorem dneg_ok (x : NumR) (w : World) (hx : Row w x.ao x.n x.cap x.d) (ok : okR x = true) :
    Calls Tryd.prog 7 #[x.v] w fun r w' => ∃ v, r = .returned (.tuple #[v, .int .i64 0]) ∧ DAns w w' (-x.V) v := by
  have hV := fun W hb => dvalid_any x.ng x.ao x.n x.cap x.d x.e W (hx.keeps hb)
  have hS := fun W hb => withSign_any (!x.ng) x W (hx.keeps hb) (okR_sane ok)
  have hy : Dy (-x.V) (!x.ng && decide (0 < x.n)) (val x.d x.n) x.e := neg_dy ok
  have hk : okN x.ng x.d x.n x.e = okR x := rfl
  rw [hk, ok] at hV
  clear ok hk
  generalize -x.V = V at hy ⊢
  unfold NumR.v at hS ⊢
  obtain ⟨an, ao, n, ca, a, e⟩ := x
  simp only at *
  go_enter Tryd.func7, Tryd.ntmps7
  go_wp2_with fail
  refine (hV _ (bel_alloc2 _ _ _)).mono ?_
  rintro r w1 ⟨rfl, hb1⟩
  have hbw := bel_trans (bel_alloc2 w _ _) hb1
  have g0 := (hb1.block w.heap.size (by rw [size2]; omega)).trans (heap_a2 _ _ _)
  have g1 := (hb1.block (w.heap.size + 1) (by rw [size2]; omega)).trans (heap_b2 _ _ _)
  have hs2 : w.heap.size + 2 ≤ w1.heap.size := by have := hb1.size; rw [size2] at this; exact this
  have k0 := blkC g0 0 rfl
  have k1 := blkC g0 1 rfl
  have k2 := blkC g0 2 rfl
  go_wp2_with fail
  refine (hS _ hbw).mono ?_
  rintro r w3 ⟨s, rfl, hA⟩
  obtain ⟨so, sn, sc, rfl⟩ := hA.num.shape
  have q0 := (hA.below.block (w.heap.size + 1) (by omega)).trans g1
  have x0 := blkC q0 0 rfl
  have x1 := blkC q0 1 rfl
  have x2 := blkC q0 2 rfl
  have z0 := blkF q0 0
  have z1 := blkF q0 1
  have z2 := blkF q0 2
  generalize hsg : (!an && decide (0 < n)) = sgx at *
  go_wp2
  refine bodyPost_ret (v := .tuple #[.agg #[.bool sgx, .slice so sn sc, .int .i64 e], .int .i64 0]) (by simp [results, Tryd.results7, go_sem, x0, x1, x2]) rfl ⟨_, rfl, ?_⟩
  exact ⟨_, _, _, _, rfl, hy, ans_res (g := w.heap.size + 1) hA hbw (by omega) (by omega) _ _ _⟩
end Go.Proofs.YtkieaijmjpckdabDoor

/-
  Package dyadic: Make and Scale, whatever the exponent, by contracts.
-/
namespace Go.Proofs.YtkieaijmjpckdabDoor
open Go Go.RowKit Go.Proofs.YtkieaijmjpckdabDoor.M
set_option linter.unusedSimpArgs false
set_option linter.unusedVariables false

/-- A number of any exponent: what is far below has no valid form, as 2^-4194304 has none. -/
def mkV (ng : Bool) (M e : Int) : Int := if M = 0 then 0 else if e < -4194304 then 1 else sg ng M * pw e
theorem not_dok_one : ¬ Dok 1 := by
  have h : Dy 1 false 1 (-4194304) := ⟨by show 1 = 1 * pw (-4194304); rfl, by omega, .inr ⟨by omega, by omega⟩⟩
  intro hk
  have := h.ok.1 hk
  omega
theorem not_dok_high {ng : Bool} {M e : Int} (h : 0 < M) (he : 1048576 < e) : ¬ Dok (sg ng M * pw e) := by
  obtain ⟨l, hl⟩ := isLow_ex h
  have hy := Dy.of ng hl h (show -4194304 ≤ e by omega)
  intro hk
  have := hy.ok.1 hk
  omega
theorem settle_mk {ng : Bool} {ao : Option Addr} {n cap : Nat} {d : Nat → Int} {e : Int} {w : World} (h : Row w ao n cap d) (hd : Dig d n) (hn : n ≤ 100000) (hT : Tab w) {V : Int} (hV : V = mkV ng (val d n) e) :
    Calls Tryd.prog 17 #[.agg #[.bool ng, .slice ao n cap, .int .i64 e]] w (DOut w V) := by
  unfold mkV at hV
  by_cases h0 : val d n = 0
  · rw [if_pos h0] at hV
    refine (settle_zero ng ao n cap d e w h hd h0).mono ?_
    rintro x w' ⟨rfl, hb⟩
    rw [hV]
    exact .inl ⟨dok_zero, _, rfl, DAns.zero hb⟩
  · rw [if_neg h0] at hV
    have hp : 0 < val d n := by have := val_nonneg hd; omega
    by_cases he : e < -4194304
    · rw [if_pos he] at hV
      refine (settle_deep h hd hn hT he hp).mono ?_
      rintro x w' ⟨rfl, hb⟩
      rw [hV]
      exact .inr ⟨not_dok_one, rfl, hb⟩
    · rw [if_neg he] at hV
      exact settle_any h hd hn hT (by omega) hV
/-- An exponent that was wrapped round stays far out. -/
theorem settle_wrap {ng : Bool} {ao : Option Addr} {n cap : Nat} {d : Nat → Int} {e k : Int} {w : World} (h : Row w ao n cap d) (hd : Dig d n) (hn : n ≤ 100000) (hT : Tab w) (he0 : -1048576 ≤ e) (he1 : e ≤ 1048576) (hk : rng k) {V : Int} (hV : V = mkV ng (val d n) (e + k)) :
    Calls Tryd.prog 17 #[.agg #[.bool ng, .slice ao n cap, .int .i64 (wrap64 (e + k))]] w (DOut w V) := by
  unfold rng at hk
  by_cases h0 : val d n = 0
  · refine settle_mk h hd hn hT ?_
    rw [hV]; unfold mkV; rw [if_pos h0, if_pos h0]
  · have hp : 0 < val d n := by have := val_nonneg hd; omega
    have hw : wrap64 (e + k) = (e + k + 9223372036854775808) % 18446744073709551616 - 9223372036854775808 := by
      simp only [wrap64]
    by_cases c1 : e + k < -9223372036854775808
    · have e1 : wrap64 (e + k) = e + k + 18446744073709551616 := by rw [hw]; omega
      have hV1 : V = 1 := by rw [hV]; unfold mkV; rw [if_neg h0, if_pos (by omega)]
      refine (settle_mk h hd hn hT rfl).mono ?_
      have hno : ¬ Dok (mkV ng (val d n) (wrap64 (e + k))) := by
        unfold mkV
        rw [if_neg h0, if_neg (by omega)]
        exact not_dok_high hp (by omega)
      rintro x w' (⟨hy, _⟩ | ⟨_, rfl, hb⟩)
      · exact absurd hy hno
      · exact .inr ⟨by rw [hV1]; exact not_dok_one, rfl, hb⟩
    · by_cases c2 : 9223372036854775807 < e + k
      · have e1 : wrap64 (e + k) = e + k - 18446744073709551616 := by rw [hw]; omega
        have hno : ¬ Dok V := by
          rw [hV]
          unfold mkV
          rw [if_neg h0, if_neg (by omega)]
          exact not_dok_high hp (by omega)
        refine (settle_deep h hd hn hT (by omega) hp).mono ?_
        rintro x w' ⟨rfl, hb⟩
        exact .inr ⟨hno, rfl, hb⟩
      · have e1 : wrap64 (e + k) = e + k := by rw [hw]; omega
        rw [e1]
        exact settle_mk h hd hn hT hV
theorem make1_any (ng : Bool) (ao : Option Addr) (n cap : Nat) (e : Int) (p0 p1 p2 : Addr) (w : World) (c0 : w.cell? p0 = some (.bool ng)) (c1 : w.cell? p1 = some (.slice ao n cap)) (c2 : w.cell? p2 = some (.int .i64 e)) {V : Int}
    (h : ∀ W, Below w.heap.size w W → Calls Tryd.prog 17 #[.agg #[.bool ng, .slice ao n cap, .int .i64 e]] W (DOut W V)) :
    Calls Tryd.prog 16 #[.pointer (some p0), .pointer (some p1), .pointer (some p2)] w (DOut w V) := by
  by_cases hok : Dok V
  · refine (make1_yes ng ao n cap e p0 p1 p2 w c0 c1 c2 (V := V) fun W hW => (h W hW).mono ?_).mono ?_
    · rintro x w' (⟨_, v, rfl, hD⟩ | ⟨hn, _⟩)
      · exact ⟨v, rfl, hD⟩
      · exact absurd hok hn
    · rintro x w' ⟨v, rfl, hD⟩
      exact .inl ⟨hok, v, rfl, hD⟩
  · refine (make1_no ng ao n cap e p0 p1 p2 w c0 c1 c2 fun W hW => (h W hW).mono ?_).mono ?_
    · rintro x w' (⟨hy, _⟩ | ⟨_, rfl, hb⟩)
      · exact absurd hy hok
      · exact ⟨rfl, hb⟩
    · rintro x w' ⟨rfl, hb⟩
      exact .inr ⟨hok, rfl, hb⟩
set_option maxRecDepth 100000 in
theorem dmake_all (ng : Bool) (ao : Option Addr) (n cap : Nat) (d : Nat → Int) (e : Int) (w : World) (h : Row w ao n cap d) (ok : okB d n = true) (hT : Tab w) :
    Calls Tryd.prog 4 #[.bool ng, .slice ao n cap, .int .i64 e] w fun r w' => ∃ v er, r = .returned (.tuple #[v, .int .i64 er]) ∧ DFit w w' (mkV ng (val d n) e) v er := by
  have hmf : ∀ (fn : Fn) (first cap : Array Value) (w : World), (Instr.makeFunc fn first cap).run Tryd.prog w = .ok (.func fn first cap) w := fun _ _ _ _ => rfl
  obtain ⟨hn, hN⟩ := okB_out ok
  have hE : ∀ (cap : Array Value) (w : World), (callFunc 16 cap).run Tryd.prog w = .ok (.enter 16 cap) w := by
    intro cap w
    simp [go_sem]
  have hC : ∀ W, Below w.heap.size w W → Calls Tryd.prog 17 #[.agg #[.bool ng, .slice ao n cap, .int .i64 e]] W (DOut W (mkV ng (val d n) e)) := fun W hb => settle_mk (h.keeps hb) hN.1 (by omega) (hT.keeps hb) rfl
  generalize mkV ng (val d n) e = V at hC ⊢
  go_enter Tryd.func4, Tryd.ntmps4
  go_wp2_with fail
  refine (valid_any _ _ _ _ _ (h.keeps (bel_a4 _ _ _ _ _))).mono ?_
  rintro r w1 ⟨rfl, rfl⟩
  go_wp2_with fail
  refine (told_any (V := V) (hE _) (fun W hW => ?_)).mono ?_
  · have hb := bel_trans (bel_a4 w _ _ _ _) hW
    have x0 := (hW.block w.heap.size (by rw [size4]; omega)).trans (h4_0 _ _ _ _ _)
    have x1 := (hW.block (w.heap.size + 1) (by rw [size4]; omega)).trans (h4_1 _ _ _ _ _)
    have x2 := (hW.block (w.heap.size + 2) (by rw [size4]; omega)).trans (h4_2 _ _ _ _ _)
    exact make1_any ng ao n cap e _ _ _ W (blkC x0 0 rfl) (blkC x1 0 rfl) (blkC x2 0 rfl) fun W2 hW2 => hC W2 (bel_trans hb hW2)
  rintro r w1 ⟨v, er, rfl, hF⟩
  obtain ⟨ng', so, sn, sc, e', rfl⟩ := hF.shape
  have q0 := (hF.1.block (w.heap.size + 3) (by rw [size4]; omega)).trans (h4_3 _ _ _ _ _)
  have x0 := blkC q0 0 rfl
  have x1 := blkC q0 1 rfl
  have x2 := blkC q0 2 rfl
  have z0 := blkF q0 0
  have z1 := blkF q0 1
  have z2 := blkF q0 2
  go_wp2
  refine bodyPost_ret (v := .tuple #[.agg #[.bool ng', .slice so sn sc, .int .i64 e'], .int .i64 er]) (by simp [results, Tryd.results4, go_sem, x0, x1, x2]) rfl ⟨_, _, rfl, ?_⟩
  exact dfit_res (g := w.heap.size + 3) hF (bel_a4 _ _ _ _ _) (by omega) (by rw [size4]; omega) _ _ _
set_option maxRecDepth 100000 in
set_option maxHeartbeats 1000000 in
theorem scale1_any (ng : Bool) (ao : Option Addr) (n cap : Nat) (e : Int) (g : Nat) (w : World) (cg : w.heap[g]? = some (.cells #[.bool ng, .slice ao n cap, .int .i64 e] 24 (0, 0))) {V : Int}
    (h : ∀ W, Below w.heap.size w W → Calls Tryd.prog 17 #[.agg #[.bool ng, .slice ao n cap, .int .i64 e]] W (DOut W V)) :
    Calls Tryd.prog 19 #[.pointer (some ⟨g, 0, none⟩)] w (DOut w V) := by
  have hb := bel_alloc w (.cells #[.bool false, .slice none 0 0, .int .i64 0] 24)
  have g0 := heap_past (.cells #[.bool false, .slice none 0 0, .int .i64 0] 24) cg
  have k0 := blkC g0 0 rfl
  have k1 := blkC g0 1 rfl
  have k2 := blkC g0 2 rfl
  go_enter Tryd.func19, Tryd.ntmps19
  go_wp2_with fail
  refine (h _ hb).mono ?_
  rintro r w7 (⟨hok, v, rfl, hD⟩ | ⟨hno, rfl, hb7⟩)
  · have hb7 := hD.below
    obtain ⟨ng', s', m', e', rfl, hyy, hA2⟩ := id hD
    obtain ⟨so', sn', sc', rfl⟩ := hA2.num.shape
    have q0 := (hb7.block w.heap.size (by rw [size1]; omega)).trans (heap_a1 _ _)
    have x0 := blkC q0 0 rfl
    have x1 := blkC q0 1 rfl
    have x2 := blkC q0 2 rfl
    have z0 := blkF q0 0
    have z1 := blkF q0 1
    have z2 := blkF q0 2
    go_wp2
    refine bodyPost_ret (v := .agg #[.bool ng', .slice so' sn' sc', .int .i64 e']) (by simp [results, Tryd.results19, go_sem, x0, x1, x2]) rfl ?_
    exact .inl ⟨hok, _, rfl, dans_res3 (g := w.heap.size) hD hb (Nat.le_refl _) (by rw [size1]; omega) _ _ _⟩
  · exact ⟨rfl, .inr ⟨hno, rfl, bel_trans hb hb7⟩⟩
set_option maxRecDepth 100000 in
set_option maxHeartbeats 1000000 in
theorem dscale_bad (x : NumR) (w : World) (hx : Row w x.ao x.n x.cap x.d) (k : Int) (ok : okR x = false) :
    Calls Tryd.prog 5 #[x.v, .int .i64 k] w fun r w' => r = .returned (.tuple #[zeroV, .int .i64 11]) ∧ Below w.heap.size w w' := by
  have hV := fun W hb => dvalid_any x.ng x.ao x.n x.cap x.d x.e W (hx.keeps hb)
  have hk : okN x.ng x.d x.n x.e = okR x := rfl
  rw [hk, ok] at hV
  clear ok hk
  unfold NumR.v
  obtain ⟨an, ao, n, ca, a, e⟩ := x
  simp only at *
  go_enter Tryd.func5, Tryd.ntmps5
  go_wp2_with fail
  refine (hV _ (bel_alloc2 _ _ _)).mono ?_
  rintro r w1 ⟨rfl, hb1⟩
  have q0 := (hb1.block (w.heap.size + 1) (by rw [size2]; omega)).trans (heap_b2 _ _ _)
  have x0 := blkC q0 0 rfl
  have x1 := blkC q0 1 rfl
  have x2 := blkC q0 2 rfl
  have z0 := blkF q0 0
  have z1 := blkF q0 1
  have z2 := blkF q0 2
  go_wp2
  refine bodyPost_ret (v := .tuple #[zeroV, .int .i64 11]) (by simp [results, Tryd.results5, go_sem, zeroV, x0, x1, x2]) rfl ⟨rfl, ?_⟩
  exact bel_set3 (bel_trans (bel_alloc2 _ _ _) hb1) (by omega) _ _ _
set_option maxRecDepth 100000 in
set_option maxHeartbeats 1000000 in
theorem dscale_ok (x : NumR) (w : World) (hx : Row w x.ao x.n x.cap x.d) (k : Int) (hk : rng k) (ok : okR x = true) (hT : Tab w) :
    Calls Tryd.prog 5 #[x.v, .int .i64 k] w fun r w' => ∃ v er, r = .returned (.tuple #[v, .int .i64 er]) ∧ DFit w w' (mkV x.ng (val x.d x.n) (x.e + k)) v er := by
  have hmf : ∀ (fn : Fn) (first cap : Array Value) (w : World), (Instr.makeFunc fn first cap).run Tryd.prog w = .ok (.func fn first cap) w := fun _ _ _ _ => rfl
  have hE : ∀ (cap : Array Value) (w : World), (callFunc 19 cap).run Tryd.prog w = .ok (.enter 19 cap) w := by
    intro cap w
    simp [go_sem]
  have hV := fun W hb => dvalid_any x.ng x.ao x.n x.cap x.d x.e W (hx.keeps hb)
  have hox := (okR_dy ok).1.ok.1 (okR_dy ok).2.2
  have hC : ∀ W, Below w.heap.size w W → Calls Tryd.prog 17 #[.agg #[.bool x.ng, .slice x.ao x.n x.cap, .int .i64 (wrap64 (x.e + k))]] W (DOut W (mkV x.ng (val x.d x.n) (x.e + k))) := fun W hb => settle_wrap (hx.keeps hb) (okR_sane ok).1.1 (by have := (okR_sane ok).2.1; omega) (hT.keeps hb) hox.2.1 hox.2.2 hk rfl
  generalize mkV x.ng (val x.d x.n) (x.e + k) = V at hC ⊢
  have hkk : okN x.ng x.d x.n x.e = okR x := rfl
  rw [hkk, ok] at hV
  clear ok hkk hox
  unfold NumR.v
  obtain ⟨an, ao, n, ca, a, e⟩ := x
  simp only at *
  go_enter Tryd.func5, Tryd.ntmps5
  go_wp2_with fail
  refine (hV _ (bel_alloc2 _ _ _)).mono ?_
  rintro r w1 ⟨rfl, hb1⟩
  have hbw := bel_trans (bel_alloc2 w _ _) hb1
  have g0 := (hb1.block w.heap.size (by rw [size2]; omega)).trans (heap_a2 _ _ _)
  have g1 := (hb1.block (w.heap.size + 1) (by rw [size2]; omega)).trans (heap_b2 _ _ _)
  have hs2 : w.heap.size + 2 ≤ w1.heap.size := by have := hb1.size; rw [size2] at this; exact this
  have k0 := blkC g0 0 rfl
  have k1 := blkC g0 1 rfl
  have k2 := blkC g0 2 rfl
  have f2 := blkF g0 2
  go_wp2_with fail
  generalize wrap64 (e + k) = e9 at hC ⊢
  have hbw' : Below w.heap.size w (w1.setCell ⟨w.heap.size, 2, none⟩ (.int .i64 e9)) := hbw.setCell (p := ⟨w.heap.size, 2, none⟩) (Nat.le_refl _) _
  have u1 := (Below.heap_setCell w1 ⟨w.heap.size, 2, none⟩ (.int .i64 e9) (w.heap.size + 1) (by show w.heap.size + 1 ≠ w.heap.size; omega)).trans g1
  have u0 : (w1.setCell ⟨w.heap.size, 2, none⟩ (.int .i64 e9)).heap[w.heap.size]? = some (.cells #[.bool an, .slice ao n ca, .int .i64 e9] 24 (0, 0)) := heap_set g0 2 (.int .i64 e9)
  have us : (w1.setCell ⟨w.heap.size, 2, none⟩ (.int .i64 e9)).heap.size = w1.heap.size := by simp [World.setCell]
  generalize w1.setCell ⟨w.heap.size, 2, none⟩ (.int .i64 e9) = w9 at hbw' u0 u1 us ⊢
  refine (told_any (V := V) (hE _) (fun W hW => scale1_any an ao n ca e9 w.heap.size W ((hW.block _ (by omega)).trans u0) fun W2 hW2 => hC W2 (bel_trans (bel_trans hbw' hW) hW2))).mono ?_
  rintro r w2 ⟨v, er, rfl, hF⟩
  obtain ⟨ng', so, sn, sc, e', rfl⟩ := hF.shape
  have q0 := (hF.1.block (w.heap.size + 1) (by omega)).trans u1
  have x0 := blkC q0 0 rfl
  have x1 := blkC q0 1 rfl
  have x2 := blkC q0 2 rfl
  have z0 := blkF q0 0
  have z1 := blkF q0 1
  have z2 := blkF q0 2
  go_wp2
  refine bodyPost_ret (v := .tuple #[.agg #[.bool ng', .slice so sn sc, .int .i64 e'], .int .i64 er]) (by simp [results, Tryd.results5, go_sem, x0, x1, x2]) rfl ⟨_, _, rfl, ?_⟩
  exact dfit_res (g := w.heap.size + 1) hF hbw' (by omega) (by omega) _ _ _
end Go.Proofs.YtkieaijmjpckdabDoor

/-
  Package dyadic: compare, Cmp, by contracts.
-/
namespace Go.Proofs.YtkieaijmjpckdabDoor
open Go Go.RowKit Go.Proofs.YtkieaijmjpckdabDoor.M
set_option linter.unusedSimpArgs false
set_option linter.unusedVariables false

theorem ord_scale {a b p : Int} (hp : 0 < p) : ord (a * p) (b * p) = ord a b := by
  rcases Int.lt_trichotomy a b with h | h | h
  · rw [ord_lt h, ord_lt (Int.mul_lt_mul_of_pos_right h hp)]
  · rw [ord_eq h, ord_eq (by rw [h])]
  · rw [ord_gt h, ord_gt (Int.mul_lt_mul_of_pos_right h hp)]
theorem dcompare_num {w : World} {x y : Value} {A B : Int} (hx : Num w x A) (hy : Num w y B) :
    Calls Tryd.prog 52 #[x, y] w fun e w' => e = .returned (.int .i64 (ord A B)) ∧ Below w.heap.size w w' := by
  obtain ⟨ao, n, ca, a, rfl, hR, hN, rfl⟩ := hx
  obtain ⟨bo, m, cb, b, rfl, hR', hN', rfl⟩ := hy
  exact compare_any _ _ _ _ _ _ _ _ _ hR hR' hN hN'
/-- What reaches higher is greater. -/
theorem top_lt {a b e f : Int} (ha : 0 < a) (hb : 0 < b) (he : -4194304 ≤ e) (hf : -4194304 ≤ f) (h : e + blen a < f + blen b) : a * pw e < b * pw f := by
  have h1 := blen_lt a
  have h2 := (blen_pos hb)
  have hpe := pw_pos e
  have hpf := pw_pos f
  have c1 : a * pw e < 2 ^ blen a * pw e := Int.mul_lt_mul_of_pos_right h1 hpe
  have c2 : 2 ^ (blen b - 1) * pw f ≤ b * pw f := Int.mul_le_mul_of_nonneg_right h2.2 (Int.le_of_lt hpf)
  have c3 : 2 ^ blen a * pw e ≤ 2 ^ (blen b - 1) * pw f := by
    unfold pw
    rw [← Int.pow_add, ← Int.pow_add]
    exact two_le (by have := h2.1; omega)
  omega
theorem ord_tops {a b e f : Int} (ha : 0 < a) (hb : 0 < b) (he : -4194304 ≤ e) (hf : -4194304 ≤ f) (h : e + blen a ≠ f + blen b) : ord (e + blen a) (f + blen b) = ord (a * pw e) (b * pw f) := by
  rcases Int.lt_or_gt_of_ne h with h1 | h1
  · rw [ord_lt h1, ord_lt (top_lt ha hb he hf h1)]
  · rw [ord_gt h1, ord_gt (top_lt hb ha hf he h1)]
theorem ord_low {a b e f low : Int} (hl : -4194304 ≤ low) (he : low ≤ e) (hf : low ≤ f) : ord (a * 2 ^ (e - low).toNat) (b * 2 ^ (f - low).toNat) = ord (a * pw e) (b * pw f) := by
  rw [pw_sub hl he, pw_sub hl hf, ← Int.mul_assoc, ← Int.mul_assoc, ord_scale (pw_pos _)]
/-- Two numbers' own blocks, behind a call. -/
theorem keep66 {W w' : World} {g h : Nat} {a b c d e f : Value} (hb : Below W.heap.size W w') (hS : (W.cell? ⟨g, 0, none⟩ = some a ∧ W.cell? ⟨g, 1, none⟩ = some b ∧ W.cell? ⟨g, 2, none⟩ = some c) ∧ W.cell? ⟨h, 0, none⟩ = some d ∧ W.cell? ⟨h, 1, none⟩ = some e ∧ W.cell? ⟨h, 2, none⟩ = some f) :
    (w'.cell? ⟨g, 0, none⟩ = some a ∧ w'.cell? ⟨g, 1, none⟩ = some b ∧ w'.cell? ⟨g, 2, none⟩ = some c) ∧ w'.cell? ⟨h, 0, none⟩ = some d ∧ w'.cell? ⟨h, 1, none⟩ = some e ∧ w'.cell? ⟨h, 2, none⟩ = some f :=
  ⟨keepB hS.1 hb, keepB hS.2 hb⟩
set_option maxRecDepth 100000 in
set_option maxHeartbeats 2000000 in
theorem dsizes_any (x y : NumR) (w : World) (hx : Row w x.ao x.n x.cap x.d) (hy : Row w y.ao y.n y.cap y.d) (sx : Sane x) (sy : Sane y) (hz : (0 < x.n ∧ 0 < y.n) ∨ (x.n = 0 ∧ y.n = 0 ∧ x.e = y.e)) :
    Calls Tryd.prog 43 #[x.v, y.v] w fun r w' => r = .returned (.int .i64 (ord (val x.d x.n * pw x.e) (val y.d y.n * pw y.e))) ∧ Below w.heap.size w w' := by
  have hX := fun W hb => dtop_any x.ng x.ao x.n x.cap x.d x.e W (hx.keeps hb) sx.1 (by have := sx.2.1; omega) (by have := sx.2.2.1; omega) (by have := sx.2.2.2; omega)
  have hY := fun W hb => dtop_any y.ng y.ao y.n y.cap y.d y.e W (hy.keeps hb) sy.1 (by have := sy.2.1; omega) (by have := sy.2.2.1; omega) (by have := sy.2.2.2; omega)
  have lx := sx.len
  have ly := sy.len
  have hpp : x.e + blen (val x.d x.n) ≠ y.e + blen (val y.d y.n) → 0 < val x.d x.n ∧ 0 < val y.d y.n := fun hne => by
    rcases hz with ⟨h0, h1⟩ | ⟨h0, h1, h2⟩
    · exact ⟨val_pos sx.1 h0, val_pos sy.1 h1⟩
    · exact absurd (by rw [h0, h1, h2]; rfl) hne
  clear hz
  obtain ⟨an, ao, n, ca, a, e⟩ := x
  obtain ⟨bn, bo, m, cb, b, f⟩ := y
  obtain ⟨s1, s2, s3, s4⟩ := sx
  obtain ⟨t1, t2, t3, t4⟩ := sy
  unfold NumR.v
  simp only at *
  have hmin : ∀ (ts : Array TypeId) (t : TypeId) (x y : Int) (w : World), (Builtin.min_ ts t #[.int .i64 x, .int .i64 y]).run Tryd.prog w = .ok (.int .i64 (min x y)) w := fun ts t x y w => by rw [run_min_int2]; congr 2; omega
  have hb3 := bel_alloc2 w (.cells #[.bool an, .slice ao n ca, .int .i64 e] 24) (.cells #[.bool bn, .slice bo m cb, .int .i64 f] 24)
  have g0 := heap_a2 w (.cells #[.bool an, .slice ao n ca, .int .i64 e] 24) (.cells #[.bool bn, .slice bo m cb, .int .i64 f] 24)
  have g1 := heap_b2 w (.cells #[.bool an, .slice ao n ca, .int .i64 e] 24) (.cells #[.bool bn, .slice bo m cb, .int .i64 f] 24)
  go_enter Tryd.func43, Tryd.ntmps43
  go_wp2_with fail
  generalize (w.alloc (.cells #[.bool an, .slice ao n ca, .int .i64 e] 24)).alloc (.cells #[.bool bn, .slice bo m cb, .int .i64 f] 24) = wx at hb3 g0 g1 ⊢
  have k0 := blkC g0 0 rfl
  have k1 := blkC g0 1 rfl
  have k2 := blkC g0 2 rfl
  have j0 := blkC g1 0 rfl
  have j1 := blkC g1 1 rfl
  have j2 := blkC g1 2 rfl
  have hb1 := bel_refl wx
  have CA : ∀ W, Below wx.heap.size wx W → Calls Tryd.prog 49 #[.agg #[.bool an, .slice ao n ca, .int .i64 e]] W fun r w' => r = .returned (.int .i64 (e + blen (val a n))) ∧ Below W.heap.size W w' := fun W h => hX W (bel_trans hb3 h)
  have CB : ∀ W, Below wx.heap.size wx W → Calls Tryd.prog 49 #[.agg #[.bool bn, .slice bo m cb, .int .i64 f]] W fun r w' => r = .returned (.int .i64 (f + blen (val b m))) ∧ Below W.heap.size W w' := fun W h => hY W (bel_trans hb3 h)
  clear hX hY
  go_region_held3 (fun W => (W.cell? ⟨w.heap.size, 0, none⟩ = some (.bool an) ∧ W.cell? ⟨w.heap.size, 1, none⟩ = some (.slice ao n ca) ∧ W.cell? ⟨w.heap.size, 2, none⟩ = some (.int .i64 e)) ∧ W.cell? ⟨w.heap.size + 1, 0, none⟩ = some (.bool bn) ∧ W.cell? ⟨w.heap.size + 1, 1, none⟩ = some (.slice bo m cb) ∧ W.cell? ⟨w.heap.size + 1, 2, none⟩ = some (.int .i64 f))
    (first | assumption | exact ⟨⟨k0, k1, k2⟩, j0, j1, j2⟩ | exact keep66 hbv2 (keep66 (W := wx.drew) hbv1 ⟨⟨k0, k1, k2⟩, j0, j1, j2⟩) | exact keep66 (W := wx.drew) hbv1 ⟨⟨k0, k1, k2⟩, j0, j1, j2⟩)
    (first | (go_at_call 49; have _t := hbv1; refine (CB _ (bel_trans hb1.drew hbv1)).mono ?_; rintro r w4 ⟨rfl, hbv2⟩) | (go_at_call 49; refine (CA _ hb1.drew).mono ?_; rintro r w3 ⟨rfl, hbv1⟩))
  have hS4 := keep66 hbv2 (keep66 (W := wx.drew) hbv1 ⟨⟨k0, k1, k2⟩, j0, j1, j2⟩)
  have hx4 : Below wx.heap.size wx w4 := bel_trans (bel_trans hb1.drew hbv1) hbv2
  clear k0 k1 k2 j0 j1 j2 g0 g1
  obtain ⟨⟨k0, k1, k2⟩, j0, j1, j2⟩ := hS4
  by_cases heq : e + blen (val a n) = f + blen (val b m)
  · have hne : (e + (blen (val a n) : Int) != f + blen (val b m)) = false := by simp [heq]
    have HEQ : Hid (e + blen (val a n) = f + blen (val b m)) := heq
    clear heq
    go_wp2_with fail
    have l1 : min e f ≤ e := Int.min_le_left _ _
    have l2 : min e f ≤ f := Int.min_le_right _ _
    have l3 : e - min e f ≤ 150000 ∧ f - min e f ≤ 150000 ∧ -1100000 ≤ min e f := by have := HEQ.out; omega
    generalize min e f = low at l1 l2 l3 ⊢
    have HO0 := ord_low (a := val a n) (b := val b m) (by omega) l1 l2
    obtain ⟨ka, hka⟩ : ∃ ka : Nat, e - low = ka := ⟨(e - low).toNat, by omega⟩
    obtain ⟨kb, hkb⟩ : ∃ kb : Nat, f - low = kb := ⟨(f - low).toNat, by omega⟩
    have hwa : IntKind.i64.wrap (e - low) = (ka : Int) := by rw [wrap_i64_eq]; omega
    have hwb : IntKind.i64.wrap (f - low) = (kb : Int) := by rw [wrap_i64_eq]; omega
    rw [show (e - low).toNat = ka by omega, show (f - low).toNat = kb by omega] at HO0
    have hka0 : ka ≤ 1000000 := by omega
    have hkb0 : kb ≤ 1000000 := by omega
    clear hka hkb
    have hb4 := bel_refl w4
    have RA : ∀ W, Below w4.heap.size w4 W → Calls Tryd.prog 53 #[.slice ao n ca, .int .i64 (ka : Int)] W fun r w' => ∃ so sn sc, r = .returned (.slice so sn sc) ∧ Ans W w' (val a n * 2 ^ ka) (.slice so sn sc) ∧ Below W.heap.size W w' := fun W h => by
      refine (raise_any ao n ca ka a W (hx.keeps (bel_trans hb3 (bel_trans hx4 h))) s1.1 (by omega) (by omega)).mono ?_
      rintro r w' ⟨v, rfl, hA⟩
      obtain ⟨so, sn, sc, rfl⟩ := hA.num.shape
      exact ⟨so, sn, sc, rfl, hA, hA.below⟩
    have RB : ∀ W, Below w4.heap.size w4 W → Calls Tryd.prog 53 #[.slice bo m cb, .int .i64 (kb : Int)] W fun r w' => ∃ so sn sc, r = .returned (.slice so sn sc) ∧ Ans W w' (val b m * 2 ^ kb) (.slice so sn sc) ∧ Below W.heap.size W w' := fun W h => by
      refine (raise_any bo m cb kb b W (hy.keeps (bel_trans hb3 (bel_trans hx4 h))) t1.1 (by omega) (by omega)).mono ?_
      rintro r w' ⟨v, rfl, hA⟩
      obtain ⟨so, sn, sc, rfl⟩ := hA.num.shape
      exact ⟨so, sn, sc, rfl, hA, hA.below⟩
    have HO : Hid (ord (val a n * 2 ^ ka) (val b m * 2 ^ kb) = ord (val a n * pw e) (val b m * pw f)) := HO0
    have HF : Hid (Below w.heap.size w w4) := bel_trans hb3 hx4
    clear CA CB hbv1 hbv2 hx4 hb1 hb3 hx hy hpp lx ly l1 l2 l3 HEQ HO0
    go_region_held3 (fun W => (W.cell? ⟨w.heap.size, 0, none⟩ = some (.bool an) ∧ W.cell? ⟨w.heap.size, 1, none⟩ = some (.slice ao n ca) ∧ W.cell? ⟨w.heap.size, 2, none⟩ = some (.int .i64 e)) ∧ W.cell? ⟨w.heap.size + 1, 0, none⟩ = some (.bool bn) ∧ W.cell? ⟨w.heap.size + 1, 1, none⟩ = some (.slice bo m cb) ∧ W.cell? ⟨w.heap.size + 1, 2, none⟩ = some (.int .i64 f))
      (first | assumption | exact ⟨⟨k0, k1, k2⟩, j0, j1, j2⟩ | exact keep66 hbv5 (keep66 hbv4 (keep66 (W := w4.drew) hbv3 ⟨⟨k0, k1, k2⟩, j0, j1, j2⟩)) | exact keep66 hbv4 (keep66 (W := w4.drew) hbv3 ⟨⟨k0, k1, k2⟩, j0, j1, j2⟩) | exact keep66 (W := w4.drew) hbv3 ⟨⟨k0, k1, k2⟩, j0, j1, j2⟩)
      (first | (go_at_call 52; refine (dcompare_num (hv3.num.keeps hbv4) hv4.num).mono ?_; rintro r w7 ⟨rfl, hbv5⟩) | (go_at_call 53; have _t := hbv3; refine (RB _ (bel_trans hb4.drew hbv3)).mono ?_; rintro r w6 ⟨so4, sn4, sc4, rfl, hv4, hbv4⟩) | (go_at_call 53; refine (RA _ hb4.drew).mono ?_; rintro r w5 ⟨so3, sn3, sc3, rfl, hv3, hbv3⟩))
    go_wp2
    go_ret
    exact ⟨ret_int HO.out, bel_trans (bel_trans (bel_trans HF.out (bel_trans hb4.drew hbv3)) hbv4) hbv5⟩
  · have hne : (e + (blen (val a n) : Int) != f + blen (val b m)) = true := by simp [heq]
    have HO : Hid (ord (e + blen (val a n)) (f + blen (val b m)) = ord (val a n * pw e) (val b m * pw f)) := ord_tops (hpp heq).1 (hpp heq).2 (by omega) (by omega) heq
    have HF : Hid (Below w.heap.size w w4) := bel_trans hb3 hx4
    have CA4 : ∀ W, Below w4.heap.size w4 W → _ := fun W h => CA W (bel_trans hx4 h)
    have CB4 : ∀ W, Below w4.heap.size w4 W → _ := fun W h => CB W (bel_trans hx4 h)
    have hb4 := bel_refl w4
    clear CA CB hbv1 hbv2 hx4 hb1 hb3 hx hy hpp lx ly heq
    go_wp2_with fail
    go_region_held3 (fun W => (W.cell? ⟨w.heap.size, 0, none⟩ = some (.bool an) ∧ W.cell? ⟨w.heap.size, 1, none⟩ = some (.slice ao n ca) ∧ W.cell? ⟨w.heap.size, 2, none⟩ = some (.int .i64 e)) ∧ W.cell? ⟨w.heap.size + 1, 0, none⟩ = some (.bool bn) ∧ W.cell? ⟨w.heap.size + 1, 1, none⟩ = some (.slice bo m cb) ∧ W.cell? ⟨w.heap.size + 1, 2, none⟩ = some (.int .i64 f))
      (first | assumption | exact ⟨⟨k0, k1, k2⟩, j0, j1, j2⟩ | exact keep66 hbv4 (keep66 (W := w4.drew) hbv3 ⟨⟨k0, k1, k2⟩, j0, j1, j2⟩) | exact keep66 (W := w4.drew) hbv3 ⟨⟨k0, k1, k2⟩, j0, j1, j2⟩)
      (first | (go_at_call 42; refine (cmpInt_any _ _ _).mono ?_; rintro r w7 ⟨rfl, rfl⟩) | (go_at_call 49; have _t := hbv3; refine (CB4 _ (bel_trans hb4.drew hbv3)).mono ?_; rintro r w6 ⟨rfl, hbv4⟩) | (go_at_call 49; refine (CA4 _ hb4.drew).mono ?_; rintro r w5 ⟨rfl, hbv3⟩))
    go_wp2
    go_ret
    exact ⟨ret_int HO.out, bel_trans (bel_trans HF.out (bel_trans hb4.drew hbv3)) hbv4⟩
theorem ord_three (a b : Int) : ord a b = 1 ∨ ord a b = 0 ∨ ord a b = -1 := by
  rcases Int.lt_trichotomy a b with h | h | h
  · exact .inr (.inr (ord_lt h))
  · exact .inr (.inl (ord_eq h))
  · exact .inl (ord_gt h)
theorem sgn_V {x : NumR} (sx : Sane x) : (sgn x.ng x.n = 0 ∧ x.V = 0 ∧ x.n = 0) ∨ (sgn x.ng x.n = 1 ∧ 0 < x.V ∧ 0 < x.n ∧ x.ng = false) ∨ (sgn x.ng x.n = -1 ∧ x.V < 0 ∧ 0 < x.n ∧ x.ng = true) := by
  by_cases h0 : x.n = 0
  · left
    refine ⟨by simp [sgn, h0], ?_, h0⟩
    show sg x.ng (val x.d x.n) * _ = 0
    rw [h0]
    show sg x.ng 0 * _ = 0
    rw [sg_zero, Int.zero_mul]
  · right
    have hp := Int.mul_pos (val_pos sx.1 (show 0 < x.n by omega)) (pw_pos x.e)
    have hV : x.V = sg x.ng (val x.d x.n) * pw x.e := rfl
    cases hg : x.ng
    · left
      rw [hg] at hV
      exact ⟨by simp [sgn, h0], by rw [hV]; exact hp, by omega, rfl⟩
    · right
      rw [hg] at hV
      refine ⟨by simp [sgn, h0], ?_, by omega, rfl⟩
      rw [hV]
      show -val x.d x.n * pw x.e < 0
      rw [Int.neg_mul]; omega
theorem ord_signs {x y : NumR} (sx : Sane x) (sy : Sane y) (h : sgn x.ng x.n ≠ sgn y.ng y.n) : ord (sgn x.ng x.n) (sgn y.ng y.n) = ord x.V y.V := by
  rcases sgn_V sx with ⟨a, b, _⟩ | ⟨a, b, _⟩ | ⟨a, b, _⟩ <;> rcases sgn_V sy with ⟨c, d, _⟩ | ⟨c, d, _⟩ | ⟨c, d, _⟩ <;> rw [a, c] at h ⊢ <;>
    first
      | exact absurd rfl h
      | (rw [ord_lt (by decide), ord_lt (by omega)])
      | (rw [ord_gt (by decide), ord_gt (by omega)])
theorem ord_neg (a b : Int) : ord (-a) (-b) = -ord a b := by
  rcases Int.lt_trichotomy a b with h | h | h
  · rw [ord_lt h, ord_gt (by omega)]; rfl
  · rw [ord_eq h, ord_eq (by omega)]; rfl
  · rw [ord_gt h, ord_lt (by omega)]
theorem ord_same {x y : NumR} (ox : okR x = true) (oy : okR y = true) (h : sgn x.ng x.n = sgn y.ng y.n) : ((0 < x.n ∧ 0 < y.n) ∨ (x.n = 0 ∧ y.n = 0 ∧ x.e = y.e)) ∧ sgn x.ng x.n * ord (val x.d x.n * pw x.e) (val y.d y.n * pw y.e) = ord x.V y.V := by
  have hV : x.V = sg x.ng (val x.d x.n) * pw x.e := rfl
  have hW : y.V = sg y.ng (val y.d y.n) * pw y.e := rfl
  rcases sgn_V (okR_sane ox) with ⟨a, b, c⟩ | ⟨a, b, c, d⟩ | ⟨a, b, c, d⟩ <;> rcases sgn_V (okR_sane oy) with ⟨a', b', c'⟩ | ⟨a', b', c', d'⟩ | ⟨a', b', c', d'⟩ <;> rw [a, a'] at h <;> first | (exfalso; omega) | skip
  · refine ⟨.inr ⟨c, c', ?_⟩, ?_⟩
    · rcases of_decide_eq_true ox with ⟨_, _, e1⟩ | ⟨e1, _⟩
      · rcases of_decide_eq_true oy with ⟨_, _, e2⟩ | ⟨e2, _⟩
        · omega
        · omega
      · omega
    · rw [a, b, b', Int.zero_mul, ord_eq rfl]
  · refine ⟨.inl ⟨c, c'⟩, ?_⟩
    rw [a, hV, hW, d, d', Int.one_mul]; rfl
  · refine ⟨.inl ⟨c, c'⟩, ?_⟩
    rw [a, hV, hW, d, d']
    show -1 * _ = ord (-val x.d x.n * _) (-val y.d y.n * _)
    rw [Int.neg_mul (val x.d x.n), Int.neg_mul (val y.d y.n), ord_neg]; omega
set_option maxRecDepth 100000 in
set_option maxHeartbeats 2000000 in
theorem dcompare_any (x y : NumR) (w : World) (hx : Row w x.ao x.n x.cap x.d) (hy : Row w y.ao y.n y.cap y.d) (ox : okR x = true) (oy : okR y = true) :
    Calls Tryd.prog 27 #[x.v, y.v] w fun r w' => r = .returned (.int .i64 (ord x.V y.V)) ∧ Below w.heap.size w w' := by
  have sx := okR_sane ox
  have sy := okR_sane oy
  have hso : sgn x.ng x.n ≠ sgn y.ng y.n → ord (sgn x.ng x.n) (sgn y.ng y.n) = ord x.V y.V := ord_signs sx sy
  have hse : sgn x.ng x.n = sgn y.ng y.n → ((0 < x.n ∧ 0 < y.n) ∨ (x.n = 0 ∧ y.n = 0 ∧ x.e = y.e)) ∧ sgn x.ng x.n * ord (val x.d x.n * pw x.e) (val y.d y.n * pw y.e) = ord x.V y.V := ord_same ox oy
  have hZ := fun W hb hz => dsizes_any x y W (hx.keeps hb) (hy.keeps hb) sx sy hz
  have hX := fun W => dsign_any x.ng x.ao x.n x.cap x.e W (by have := hx.le; have := hx.max; omega)
  have hY := fun W => dsign_any y.ng y.ao y.n y.cap y.e W (by have := hy.le; have := hy.max; omega)
  generalize hU : ord x.V y.V = U at hso hse ⊢
  clear hU ox oy sx sy
  unfold NumR.v at hZ ⊢
  obtain ⟨an, ao, n, ca, a, e⟩ := x
  obtain ⟨bn, bo, m, cb, b, f⟩ := y
  simp only at *
  have hb3 := bel_alloc2 w (.cells #[.bool an, .slice ao n ca, .int .i64 e] 24) (.cells #[.bool bn, .slice bo m cb, .int .i64 f] 24)
  have g0 := heap_a2 w (.cells #[.bool an, .slice ao n ca, .int .i64 e] 24) (.cells #[.bool bn, .slice bo m cb, .int .i64 f] 24)
  have g1 := heap_b2 w (.cells #[.bool an, .slice ao n ca, .int .i64 e] 24) (.cells #[.bool bn, .slice bo m cb, .int .i64 f] 24)
  go_enter Tryd.func27, Tryd.ntmps27
  go_wp2_with fail
  generalize (w.alloc (.cells #[.bool an, .slice ao n ca, .int .i64 e] 24)).alloc (.cells #[.bool bn, .slice bo m cb, .int .i64 f] 24) = wx at hb3 g0 g1 ⊢
  have k0 := blkC g0 0 rfl
  have k1 := blkC g0 1 rfl
  have k2 := blkC g0 2 rfl
  have j0 := blkC g1 0 rfl
  have j1 := blkC g1 1 rfl
  have j2 := blkC g1 2 rfl
  have hb1 := bel_refl wx
  go_region_held3 (fun W => (W.cell? ⟨w.heap.size, 0, none⟩ = some (.bool an) ∧ W.cell? ⟨w.heap.size, 1, none⟩ = some (.slice ao n ca) ∧ W.cell? ⟨w.heap.size, 2, none⟩ = some (.int .i64 e)) ∧ W.cell? ⟨w.heap.size + 1, 0, none⟩ = some (.bool bn) ∧ W.cell? ⟨w.heap.size + 1, 1, none⟩ = some (.slice bo m cb) ∧ W.cell? ⟨w.heap.size + 1, 2, none⟩ = some (.int .i64 f))
    (first | assumption | exact ⟨⟨k0, k1, k2⟩, j0, j1, j2⟩ | exact keep66 hbv2 (keep66 (W := wx.drew) hbv1 ⟨⟨k0, k1, k2⟩, j0, j1, j2⟩) | exact keep66 (W := wx.drew) hbv1 ⟨⟨k0, k1, k2⟩, j0, j1, j2⟩)
    (first | (go_at_call 40; have _t := hbv1; refine (hY _).mono ?_; rintro r w4 ⟨rfl, hbv2⟩) | (go_at_call 40; refine (hX _).mono ?_; rintro r w3 ⟨rfl, hbv1⟩))
  have hS4 := keep66 hbv2 (keep66 (W := wx.drew) hbv1 ⟨⟨k0, k1, k2⟩, j0, j1, j2⟩)
  have hf4 := bel_trans hb3 (bel_trans (bel_trans hb1.drew hbv1) hbv2)
  clear k0 k1 k2 j0 j1 j2 g0 g1 hbv1 hbv2 hb1 hb3
  obtain ⟨⟨k0, k1, k2⟩, j0, j1, j2⟩ := hS4
  have hb4 := bel_refl w4
  have hsv : sgn an n = 1 ∨ sgn an n = 0 ∨ sgn an n = -1 := by unfold sgn; split; (· exact .inr (.inl rfl)); (· cases an <;> simp)
  by_cases heq : sgn an n = sgn bn m
  · have hne : (sgn an n != sgn bn m) = false := by simp [heq]
    obtain ⟨z1, z2⟩ := hse heq
    have HZ : Hid (sgn an n * ord (val a n * pw e) (val b m * pw f) = U) := z2
    have hZ4 : ∀ W, Below w4.heap.size w4 W → _ := fun W h => hZ W (bel_trans hf4 h) z1
    have hO : ∀ o : Int, (o = 1 ∨ o = 0 ∨ o = -1) → IntKind.i64.wrap (sgn an n * o) = sgn an n * o := fun o ho => by
      rw [wrap_i64_eq]
      rcases hsv with h | h | h <;> rcases ho with q | q | q <;> rw [h, q] <;> decide
    have hw := hO _ (ord_three (val a n * pw e) (val b m * pw f))
    clear hso hse heq z2 hO hZ hsv
    go_wp2_with fail
    generalize ord (val a n * pw e) (val b m * pw f) = O at hZ4 hw HZ
    go_region_held3 (fun W => (W.cell? ⟨w.heap.size, 0, none⟩ = some (.bool an) ∧ W.cell? ⟨w.heap.size, 1, none⟩ = some (.slice ao n ca) ∧ W.cell? ⟨w.heap.size, 2, none⟩ = some (.int .i64 e)) ∧ W.cell? ⟨w.heap.size + 1, 0, none⟩ = some (.bool bn) ∧ W.cell? ⟨w.heap.size + 1, 1, none⟩ = some (.slice bo m cb) ∧ W.cell? ⟨w.heap.size + 1, 2, none⟩ = some (.int .i64 f))
      (first | assumption | exact ⟨⟨k0, k1, k2⟩, j0, j1, j2⟩ | exact keep66 hbv4 (keep66 (W := w4.drew) hbv3 ⟨⟨k0, k1, k2⟩, j0, j1, j2⟩) | exact keep66 (W := w4.drew) hbv3 ⟨⟨k0, k1, k2⟩, j0, j1, j2⟩)
      (first | (go_at_call 43; refine (hZ4 _ (bel_trans hb4.drew hbv3)).mono ?_; rintro r w6 ⟨rfl, hbv4⟩) | (go_at_call 40; refine (hX _).mono ?_; rintro r w5 ⟨rfl, hbv3⟩))
    go_wp2
    go_ret
    exact ⟨ret_int HZ.out, bel_trans (bel_trans hf4 (bel_trans hb4.drew hbv3)) hbv4⟩
  · have hne : (sgn an n != sgn bn m) = true := by simp [heq]
    have HO : Hid (ord (sgn an n) (sgn bn m) = U) := hso heq
    clear hso hse heq hZ hsv
    go_wp2_with fail
    go_region_held3 (fun W => (W.cell? ⟨w.heap.size, 0, none⟩ = some (.bool an) ∧ W.cell? ⟨w.heap.size, 1, none⟩ = some (.slice ao n ca) ∧ W.cell? ⟨w.heap.size, 2, none⟩ = some (.int .i64 e)) ∧ W.cell? ⟨w.heap.size + 1, 0, none⟩ = some (.bool bn) ∧ W.cell? ⟨w.heap.size + 1, 1, none⟩ = some (.slice bo m cb) ∧ W.cell? ⟨w.heap.size + 1, 2, none⟩ = some (.int .i64 f))
      (first | assumption | exact ⟨⟨k0, k1, k2⟩, j0, j1, j2⟩ | exact keep66 hbv4 (keep66 (W := w4.drew) hbv3 ⟨⟨k0, k1, k2⟩, j0, j1, j2⟩) | exact keep66 (W := w4.drew) hbv3 ⟨⟨k0, k1, k2⟩, j0, j1, j2⟩)
      (first | (go_at_call 42; refine (cmpInt_any _ _ _).mono ?_; rintro r w7 ⟨rfl, rfl⟩) | (go_at_call 40; have _t := hbv3; refine (hY _).mono ?_; rintro r w6 ⟨rfl, hbv4⟩) | (go_at_call 40; refine (hX _).mono ?_; rintro r w5 ⟨rfl, hbv3⟩))
    go_wp2
    go_ret
    exact ⟨ret_int HO.out, bel_trans (bel_trans hf4 (bel_trans hb4.drew hbv3)) hbv4⟩
set_option maxRecDepth 100000 in
set_option maxHeartbeats 1000000 in
theorem dcmp_any (x y : NumR) (w : World) (hx : Row w x.ao x.n x.cap x.d) (hy : Row w y.ao y.n y.cap y.d) :
    Calls Tryd.prog 10 #[x.v, y.v] w fun r w' => r = .returned (.tuple #[.int .i64 (if okR x && okR y then ord x.V y.V else 0), .int .i64 (if okR x && okR y then 0 else 11)]) ∧ Below w.heap.size w w' := by
  have hA := allOk2 x y
  have hN := fun W q hb => nums2 (w := W) (g := w.heap.size + 2) (x := x) (y := y) (t := 24) q (hx.keeps hb) (hy.keeps hb)
  have hC := fun (hk : (okR x && okR y) = true) W hb => dcompare_any x y W (hx.keeps hb) (hy.keeps hb) (by simp at hk; exact hk.1) (by simp at hk; exact hk.2)
  generalize ord x.V y.V = O at hC ⊢
  generalize pair2 x y = pr at hA hN
  generalize (okR x && okR y) = ok at hA hC ⊢
  unfold NumR.v at hC ⊢
  obtain ⟨an, ao, n, ca, a, e⟩ := x
  obtain ⟨bn, bo, m, cb, b, f⟩ := y
  simp only at *
  cases ok
  · go_enter Tryd.func10, Tryd.ntmps10
    go_wp2_with fail
    refine (dvalids_any _ _ _ _ _ (hN _ (h3_2 _ _ _ _) (bel_a3 _ _ _ _))).mono ?_
    rw [hA]
    rintro r w1 ⟨rfl, hb1⟩
    go_wp2
    go_ret2
    exact ⟨rfl, bel_trans (bel_a3 _ _ _ _) hb1⟩
  · go_enter Tryd.func10, Tryd.ntmps10
    go_wp2_with fail
    refine (dvalids_any _ _ _ _ _ (hN _ (h3_2 _ _ _ _) (bel_a3 _ _ _ _))).mono ?_
    rw [hA]
    rintro r w1 ⟨rfl, hb1⟩
    have hbw := bel_trans (bel_a3 w _ _ _) hb1
    have g0 := (hb1.block w.heap.size (by rw [size3]; omega)).trans (h3_0 _ _ _ _)
    have g1 := (hb1.block (w.heap.size + 1) (by rw [size3]; omega)).trans (h3_1 _ _ _ _)
    have k0 := blkC g0 0 rfl
    have k1 := blkC g0 1 rfl
    have k2 := blkC g0 2 rfl
    have j0 := blkC g1 0 rfl
    have j1 := blkC g1 1 rfl
    have j2 := blkC g1 2 rfl
    go_wp2_with fail
    refine (hC (by trivial) _ hbw).mono ?_
    rintro r w2 ⟨rfl, hb2⟩
    go_wp2
    go_ret2
    exact ⟨rfl, bel_trans hbw hb2⟩
end Go.Proofs.YtkieaijmjpckdabDoor

/-
  What the two layouts of package bits hold, carried over calls; the method split and its kin by contracts: for every pattern, in every world that holds the layouts.
-/
namespace Go.Proofs.YtkieaijmjpckdabDoor
open Go Go.RowKit Go.Proofs.YtkieaijmjpckdabDoor.M
set_option linter.unusedSimpArgs false
set_option linter.unusedVariables false

/-- New blocks alone: read cell by cell, and block by block. -/
structure Gr (W w' : World) : Prop where
  gr : Grown W w'
  be : Below W.heap.size W w'
theorem Gr.refl (W : World) : Gr W W := ⟨Grown.refl _, Below.refl _ _⟩
theorem Gr.alloc {W w' : World} (h : Gr W w') (c : Array Value) (t : TypeId) : Gr W (w'.alloc (.cells c t)) := ⟨h.gr.alloc c t, h.be.alloc h.be.size _⟩
theorem Gr.drew {W w' : World} (h : Gr W w') : Gr W w'.drew := ⟨h.gr.drew, ⟨h.be.os, h.be.tape, h.be.output, h.be.size, h.be.block⟩⟩
theorem gTrans {a b c : World} (h : Gr a b) (k : Gr b c) : Gr a c :=
  ⟨⟨World.keptBut_trans h.gr.1 k.gr.1, fun x => (k.gr.2.1 x).trans (h.gr.2.1 x), Nat.le_trans h.gr.2.2 k.gr.2.2⟩, h.be.trans (k.be.mono h.be.size)⟩
theorem gDrewN {W w' : World} (h : Gr W w') (n : Nat) : Gr W (w'.drewN n) := ⟨h.gr, ⟨h.be.os, h.be.tape, h.be.output, h.be.size, h.be.block⟩⟩
theorem gCell {a b : World} (h : Gr a b) {p : Addr} {v : Value} (hc : a.cell? p = some v) : b.cell? p = some v := by
  unfold World.cell? at hc ⊢
  have hlt : p.block < a.heap.size := by
    by_cases hp : p.block < a.heap.size
    · exact hp
    · rw [Array.getElem?_eq_none (by omega)] at hc; simp at hc
  have k := h.gr.1.2.2 p.block hlt
  cases ha : a.heap[p.block]? with
  | none => rw [ha] at hc; simp at hc
  | some oa =>
    rw [ha] at hc k
    cases oa with
    | cells c t fr =>
      cases hb : b.heap[p.block]? with
      | none => rw [hb] at k; simp at k
      | some ob =>
        rw [hb] at k
        cases ob with
        | cells c' t' fr' =>
          simp only at hc k ⊢
          obtain ⟨_, _, _, kc⟩ := k
          rw [kc p.off (fun f => f)]
          exact hc
        | _ => simp at k
    | _ => simp at hc
theorem b_ret_int {k : IntKind} {a b : Int} (h : a = b) : Ending.returned (.int k a) = .returned (.int k b) := by rw [h]

theorem b_ret_bool {a b : Bool} (h : a = b) : Ending.returned (.bool a) = .returned (.bool b) := by rw [h]
theorem ret_bii {a a' : Bool} {b b' c c' : Int} (h : a = a') (k : b = b') (l : c = c') : Ending.returned (.tuple #[.bool a, .int .i64 b, .int .i64 c]) = .returned (.tuple #[.bool a', .int .i64 b', .int .i64 c']) := by rw [h, k, l]
theorem ret_ttt {a a' b b' : Int} {c c' : Bool} (h : a = a') (k : b = b') (l : c = c') : Ending.returned (.tuple #[.int .i64 a, .int .i64 b, .bool c]) = .returned (.tuple #[.int .i64 a', .int .i64 b', .bool c']) := by rw [h, k, l]
theorem ret_ttt4 {n n' : Bool} {a a' b b' : Int} {c c' : Bool} (g : n = n') (h : a = a') (k : b = b') (l : c = c') : Ending.returned (.tuple #[.bool n, .int .i64 a, .int .i64 b, .bool c]) = .returned (.tuple #[.bool n', .int .i64 a', .int .i64 b', .bool c']) := by rw [g, h, k, l]

theorem split64 (b : Int) (w : World) :
    Calls Tryd.prog 60 #[.agg #[.int .i64 52, .int .i64 2047, .int .i64 (-1074)], .int .i64 b] w fun e w' => e = .returned (.tuple #[.int .i64 (fld b), .int .i64 (frc b)]) ∧ ∃ n, w' = (w.alloc (.cells #[.int .i64 52, .int .i64 2047, .int .i64 (-1074)] 71)).drewN n := by
  have h1 : bits .and .i64 (b / 4503599627370496) 2047 = fld b := and_i64_2047 _
  have h2 : bits .and .i64 b 4503599627370495 = frc b := and_i64_m52 _
  go_enter Tryd.func60, Tryd.ntmps60
  go_wp2
  go_quiet (fail)
  go_wp2
  go_ret2
  exact ⟨rfl, _, rfl⟩
theorem split32 (b : Int) (w : World) :
    Calls Tryd.prog 60 #[.agg #[.int .i64 23, .int .i64 255, .int .i64 (-149)], .int .i64 b] w fun e w' => e = .returned (.tuple #[.int .i64 (fld32 b), .int .i64 (frc32 b)]) ∧ ∃ n, w' = (w.alloc (.cells #[.int .i64 23, .int .i64 255, .int .i64 (-149)] 71)).drewN n := by
  have h1 : bits .and .i64 (b / 8388608) 255 = fld32 b := and_i64_255 _
  have h2 : bits .and .i64 b 8388607 = frc32 b := and_i64_m23 _
  go_enter Tryd.func60, Tryd.ntmps60
  go_wp2
  go_quiet (fail)
  go_wp2
  go_ret2
  exact ⟨rfl, _, rfl⟩

theorem parts64 (b : Int) (w : World) :
    Calls Tryd.prog 55 #[.agg #[.int .i64 52, .int .i64 2047, .int .i64 (-1074)], .int .i64 b] w fun e w' => e = .returned (.tuple #[.int .i64 (pmag b), .int .i64 (pexp b), .bool (pok b)]) ∧ Gr w w' := by
  have hf := fld_le b
  have hr := frc_le b
  by_cases h1 : fld b = 2047
  · go_enter Tryd.func55, Tryd.ntmps55
    go_wp2_with (go_at_call 60; refine (split64 _ _).mono ?_; rintro e w1 ⟨rfl, n, rfl⟩)
    go_ret3
    exact ⟨ret_ttt (by simp [pmag, h1]) (by simp [pexp, h1]) (by simp [pok, h1]), gDrewN (((Gr.refl _).alloc _ _).alloc _ _) _⟩
  · by_cases h2 : fld b = 0
    · go_enter Tryd.func55, Tryd.ntmps55
      go_wp2_with (go_at_call 60; refine (split64 _ _).mono ?_; rintro e w1 ⟨rfl, n, rfl⟩)
      go_quiet (fail)
      go_wp2
      go_ret3
      exact ⟨ret_ttt (by simp [pmag, h1, h2]) (by simp [pexp, h1, h2]) (by simp [pok, h1]), gDrewN (gDrewN (((Gr.refl _).alloc _ _).alloc _ _) _) _⟩
    · go_enter Tryd.func55, Tryd.ntmps55
      go_wp2_with (go_at_call 60; refine (split64 _ _).mono ?_; rintro e w1 ⟨rfl, n, rfl⟩)
      go_quiet (fail)
      go_wp2
      go_ret3
      exact ⟨ret_ttt (by simp [pmag, h1, h2]) (by simp [pexp, h1, h2]; omega) (by simp [pok, h1]), gDrewN (gDrewN (((Gr.refl _).alloc _ _).alloc _ _) _) _⟩
theorem parts32 (b : Int) (w : World) (hb : in32 b = true) :
    Calls Tryd.prog 55 #[.agg #[.int .i64 23, .int .i64 255, .int .i64 (-149)], .int .i64 b] w fun e w' => e = .returned (.tuple #[.int .i64 (pmag32 b), .int .i64 (pexp32 b), .bool (pok32 b)]) ∧ Gr w w' := by
  have hf := fld32_le b
  have hr := frc32_le b
  by_cases h1 : fld32 b = 255
  · go_enter Tryd.func55, Tryd.ntmps55
    go_wp2_with (go_at_call 60; refine (split32 _ _).mono ?_; rintro e w1 ⟨rfl, n, rfl⟩)
    go_ret3
    exact ⟨ret_ttt (by simp [pmag32, pok32, hb, h1]) (by simp [pexp32, pok32, hb, h1]) (by simp [pok32, hb, h1]), gDrewN (((Gr.refl _).alloc _ _).alloc _ _) _⟩
  · by_cases h2 : fld32 b = 0
    · go_enter Tryd.func55, Tryd.ntmps55
      go_wp2_with (go_at_call 60; refine (split32 _ _).mono ?_; rintro e w1 ⟨rfl, n, rfl⟩)
      go_quiet (fail)
      go_wp2
      go_ret3
      exact ⟨ret_ttt (by simp [pmag32, pok32, hb, h1, h2]) (by simp [pexp32, pok32, hb, h1, h2]) (by simp [pok32, hb, h1]), gDrewN (gDrewN (((Gr.refl _).alloc _ _).alloc _ _) _) _⟩
    · go_enter Tryd.func55, Tryd.ntmps55
      go_wp2_with (go_at_call 60; refine (split32 _ _).mono ?_; rintro e w1 ⟨rfl, n, rfl⟩)
      go_quiet (fail)
      go_wp2
      go_ret3
      exact ⟨ret_ttt (by simp [pmag32, pok32, hb, h1, h2]) (by simp [pexp32, pok32, hb, h1, h2]; omega) (by simp [pok32, hb, h1]), gDrewN (gDrewN (((Gr.refl _).alloc _ _).alloc _ _) _) _⟩
end Go.Proofs.YtkieaijmjpckdabDoor

/-
  Package bits' calls that take no join, each by a contract: what it answers for every int, in every world that holds the two layouts.
-/
namespace Go.Proofs.YtkieaijmjpckdabDoor
open Go Go.RowKit Go.Proofs.YtkieaijmjpckdabDoor.M
set_option linter.unusedSimpArgs false
set_option linter.unusedVariables false

end Go.Proofs.YtkieaijmjpckdabDoor
