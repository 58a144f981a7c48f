/-
  Parts of the proof, one behind another.
-/
import Derived.Test.YtnhkagiionkjaaaGreatDoorPart7
import Derived.Test.YtnhkagiionkjaaaGreatDoorPart1
import Derived.Deep.RegionHeld3
/-
  Package dyadic: Make and Scale, whatever the exponent, by contracts.
-/
namespace Go.Proofs.YtnhkagiionkjaaaGreatDoor
open Go Go.RowKit Go.Proofs.YtnhkagiionkjaaaGreatDoor.M
set_option linter.unusedSimpArgs false
set_option linter.unusedVariables false

/-- A number of any exponent: what is far below has no valid form, as 2^-4194304 has none. -/
def mkV (ng : Bool) (M e : Int) : Int := if M = 0 then 0 else if e < -4194304 then 1 else sg ng M * pw e
theorem not_dok_one : ¬ Dok 1 := by
  have h : Dy 1 false 1 (-4194304) := ⟨by show 1 = 1 * pw (-4194304); rfl, by omega, .inr ⟨by omega, by omega⟩⟩
  intro hk
  have := h.ok.1 hk
  omega
theorem not_dok_high {ng : Bool} {M e : Int} (h : 0 < M) (he : 1048576 < e) : ¬ Dok (sg ng M * pw e) := by
  obtain ⟨l, hl⟩ := isLow_ex h
  have hy := Dy.of ng hl h (show -4194304 ≤ e by omega)
  intro hk
  have := hy.ok.1 hk
  omega
theorem settle_mk {ng : Bool} {ao : Option Addr} {n cap : Nat} {d : Nat → Int} {e : Int} {w : World} (h : Row w ao n cap d) (hd : Dig d n) (hn : n ≤ 100000) (hT : Tab w) {V : Int} (hV : V = mkV ng (val d n) e) :
    Calls Tryz.prog 53 #[.agg #[.bool ng, .slice ao n cap, .int .i64 e]] w (DOut w V) := by
  unfold mkV at hV
  by_cases h0 : val d n = 0
  · rw [if_pos h0] at hV
    refine (settle_zero ng ao n cap d e w h hd h0).mono ?_
    rintro x w' ⟨rfl, hb⟩
    rw [hV]
    exact .inl ⟨dok_zero, _, rfl, DAns.zero hb⟩
  · rw [if_neg h0] at hV
    have hp : 0 < val d n := by have := val_nonneg hd; omega
    by_cases he : e < -4194304
    · rw [if_pos he] at hV
      refine (settle_deep h hd hn hT he hp).mono ?_
      rintro x w' ⟨rfl, hb⟩
      rw [hV]
      exact .inr ⟨not_dok_one, rfl, hb⟩
    · rw [if_neg he] at hV
      exact settle_any h hd hn hT (by omega) hV
/-- An exponent that was wrapped round stays far out. -/
theorem settle_wrap {ng : Bool} {ao : Option Addr} {n cap : Nat} {d : Nat → Int} {e k : Int} {w : World} (h : Row w ao n cap d) (hd : Dig d n) (hn : n ≤ 100000) (hT : Tab w) (he0 : -1048576 ≤ e) (he1 : e ≤ 1048576) (hk : rng k) {V : Int} (hV : V = mkV ng (val d n) (e + k)) :
    Calls Tryz.prog 53 #[.agg #[.bool ng, .slice ao n cap, .int .i64 (wrap64 (e + k))]] w (DOut w V) := by
  unfold rng at hk
  by_cases h0 : val d n = 0
  · refine settle_mk h hd hn hT ?_
    rw [hV]; unfold mkV; rw [if_pos h0, if_pos h0]
  · have hp : 0 < val d n := by have := val_nonneg hd; omega
    have hw : wrap64 (e + k) = (e + k + 9223372036854775808) % 18446744073709551616 - 9223372036854775808 := by
      simp only [wrap64]
    by_cases c1 : e + k < -9223372036854775808
    · have e1 : wrap64 (e + k) = e + k + 18446744073709551616 := by rw [hw]; omega
      have hV1 : V = 1 := by rw [hV]; unfold mkV; rw [if_neg h0, if_pos (by omega)]
      refine (settle_mk h hd hn hT rfl).mono ?_
      have hno : ¬ Dok (mkV ng (val d n) (wrap64 (e + k))) := by
        unfold mkV
        rw [if_neg h0, if_neg (by omega)]
        exact not_dok_high hp (by omega)
      rintro x w' (⟨hy, _⟩ | ⟨_, rfl, hb⟩)
      · exact absurd hy hno
      · exact .inr ⟨by rw [hV1]; exact not_dok_one, rfl, hb⟩
    · by_cases c2 : 9223372036854775807 < e + k
      · have e1 : wrap64 (e + k) = e + k - 18446744073709551616 := by rw [hw]; omega
        have hno : ¬ Dok V := by
          rw [hV]
          unfold mkV
          rw [if_neg h0, if_neg (by omega)]
          exact not_dok_high hp (by omega)
        refine (settle_deep h hd hn hT (by omega) hp).mono ?_
        rintro x w' ⟨rfl, hb⟩
        exact .inr ⟨hno, rfl, hb⟩
      · have e1 : wrap64 (e + k) = e + k := by rw [hw]; omega
        rw [e1]
        exact settle_mk h hd hn hT hV
theorem make1_any (ng : Bool) (ao : Option Addr) (n cap : Nat) (e : Int) (p0 p1 p2 : Addr) (w : World) (c0 : w.cell? p0 = some (.bool ng)) (c1 : w.cell? p1 = some (.slice ao n cap)) (c2 : w.cell? p2 = some (.int .i64 e)) {V : Int}
    (h : ∀ W, Below w.heap.size w W → Calls Tryz.prog 53 #[.agg #[.bool ng, .slice ao n cap, .int .i64 e]] W (DOut W V)) :
    Calls Tryz.prog 52 #[.pointer (some p0), .pointer (some p1), .pointer (some p2)] w (DOut w V) := by
  by_cases hok : Dok V
  · refine (make1_yes ng ao n cap e p0 p1 p2 w c0 c1 c2 (V := V) fun W hW => (h W hW).mono ?_).mono ?_
    · rintro x w' (⟨_, v, rfl, hD⟩ | ⟨hn, _⟩)
      · exact ⟨v, rfl, hD⟩
      · exact absurd hok hn
    · rintro x w' ⟨v, rfl, hD⟩
      exact .inl ⟨hok, v, rfl, hD⟩
  · refine (make1_no ng ao n cap e p0 p1 p2 w c0 c1 c2 fun W hW => (h W hW).mono ?_).mono ?_
    · rintro x w' (⟨hy, _⟩ | ⟨_, rfl, hb⟩)
      · exact absurd hy hok
      · exact ⟨rfl, hb⟩
    · rintro x w' ⟨rfl, hb⟩
      exact .inr ⟨hok, rfl, hb⟩
set_option maxRecDepth 100000 in
theorem dmake_all (ng : Bool) (ao : Option Addr) (n cap : Nat) (d : Nat → Int) (e : Int) (w : World) (h : Row w ao n cap d) (ok : okB d n = true) (hT : Tab w) :
    Calls Tryz.prog 12 #[.bool ng, .slice ao n cap, .int .i64 e] w fun r w' => ∃ v er, r = .returned (.tuple #[v, .int .i64 er]) ∧ DFit w w' (mkV ng (val d n) e) v er := by
  have hmf : ∀ (fn : Fn) (first cap : Array Value) (w : World), (Instr.makeFunc fn first cap).run Tryz.prog w = .ok (.func fn first cap) w := fun _ _ _ _ => rfl
  obtain ⟨hn, hN⟩ := okB_out ok
  have hE : ∀ (cap : Array Value) (w : World), (callFunc 52 cap).run Tryz.prog w = .ok (.enter 52 cap) w := by
    intro cap w
    simp [go_sem]
  have hC : ∀ W, Below w.heap.size w W → Calls Tryz.prog 53 #[.agg #[.bool ng, .slice ao n cap, .int .i64 e]] W (DOut W (mkV ng (val d n) e)) := fun W hb => settle_mk (h.keeps hb) hN.1 (by omega) (hT.keeps hb) rfl
  generalize mkV ng (val d n) e = V at hC ⊢
  go_enter Tryz.func12, Tryz.ntmps12
  go_wp2_with fail
  refine (valid_any _ _ _ _ _ (h.keeps (bel_a4 _ _ _ _ _))).mono ?_
  rintro r w1 ⟨rfl, rfl⟩
  go_wp2_with fail
  refine (told_any (V := V) (hE _) (fun W hW => ?_)).mono ?_
  · have hb := bel_trans (bel_a4 w _ _ _ _) hW
    have x0 := (hW.block w.heap.size (by rw [size4]; omega)).trans (h4_0 _ _ _ _ _)
    have x1 := (hW.block (w.heap.size + 1) (by rw [size4]; omega)).trans (h4_1 _ _ _ _ _)
    have x2 := (hW.block (w.heap.size + 2) (by rw [size4]; omega)).trans (h4_2 _ _ _ _ _)
    exact make1_any ng ao n cap e _ _ _ W (blkC x0 0 rfl) (blkC x1 0 rfl) (blkC x2 0 rfl) fun W2 hW2 => hC W2 (bel_trans hb hW2)
  rintro r w1 ⟨v, er, rfl, hF⟩
  obtain ⟨ng', so, sn, sc, e', rfl⟩ := hF.shape
  have q0 := (hF.1.block (w.heap.size + 3) (by rw [size4]; omega)).trans (h4_3 _ _ _ _ _)
  have x0 := blkC q0 0 rfl
  have x1 := blkC q0 1 rfl
  have x2 := blkC q0 2 rfl
  have z0 := blkF q0 0
  have z1 := blkF q0 1
  have z2 := blkF q0 2
  go_wp2
  refine bodyPost_ret (v := .tuple #[.agg #[.bool ng', .slice so sn sc, .int .i64 e'], .int .i64 er]) (by simp [results, Tryz.results12, go_sem, x0, x1, x2]) rfl ⟨_, _, rfl, ?_⟩
  exact dfit_res (g := w.heap.size + 3) hF (bel_a4 _ _ _ _ _) (by omega) (by rw [size4]; omega) _ _ _
set_option maxRecDepth 100000 in
set_option maxHeartbeats 1000000 in
theorem scale1_any (ng : Bool) (ao : Option Addr) (n cap : Nat) (e : Int) (g : Nat) (w : World) (cg : w.heap[g]? = some (.cells #[.bool ng, .slice ao n cap, .int .i64 e] 25 (0, 0))) {V : Int}
    (h : ∀ W, Below w.heap.size w W → Calls Tryz.prog 53 #[.agg #[.bool ng, .slice ao n cap, .int .i64 e]] W (DOut W V)) :
    Calls Tryz.prog 72 #[.pointer (some ⟨g, 0, none⟩)] w (DOut w V) := by
  have hb := bel_alloc w (.cells #[.bool false, .slice none 0 0, .int .i64 0] 25)
  have g0 := heap_past (.cells #[.bool false, .slice none 0 0, .int .i64 0] 25) cg
  have k0 := blkC g0 0 rfl
  have k1 := blkC g0 1 rfl
  have k2 := blkC g0 2 rfl
  go_enter Tryz.func72, Tryz.ntmps72
  go_wp2_with fail
  refine (h _ hb).mono ?_
  rintro r w7 (⟨hok, v, rfl, hD⟩ | ⟨hno, rfl, hb7⟩)
  · have hb7 := hD.below
    obtain ⟨ng', s', m', e', rfl, hyy, hA2⟩ := id hD
    obtain ⟨so', sn', sc', rfl⟩ := hA2.num.shape
    have q0 := (hb7.block w.heap.size (by rw [size1]; omega)).trans (heap_a1 _ _)
    have x0 := blkC q0 0 rfl
    have x1 := blkC q0 1 rfl
    have x2 := blkC q0 2 rfl
    have z0 := blkF q0 0
    have z1 := blkF q0 1
    have z2 := blkF q0 2
    go_wp2
    refine bodyPost_ret (v := .agg #[.bool ng', .slice so' sn' sc', .int .i64 e']) (by simp [results, Tryz.results72, go_sem, x0, x1, x2]) rfl ?_
    exact .inl ⟨hok, _, rfl, dans_res3 (g := w.heap.size) hD hb (Nat.le_refl _) (by rw [size1]; omega) _ _ _⟩
  · exact ⟨rfl, .inr ⟨hno, rfl, bel_trans hb hb7⟩⟩
set_option maxRecDepth 100000 in
set_option maxHeartbeats 1000000 in
theorem dscale_bad (x : NumR) (w : World) (hx : Row w x.ao x.n x.cap x.d) (k : Int) (ok : okR x = false) :
    Calls Tryz.prog 32 #[x.v, .int .i64 k] w fun r w' => r = .returned (.tuple #[zeroV, .int .i64 11]) ∧ Below w.heap.size w w' := by
  have hV := fun W hb => dvalid_any x.ng x.ao x.n x.cap x.d x.e W (hx.keeps hb)
  have hk : okN x.ng x.d x.n x.e = okR x := rfl
  rw [hk, ok] at hV
  clear ok hk
  unfold NumR.v
  obtain ⟨an, ao, n, ca, a, e⟩ := x
  simp only at *
  go_enter Tryz.func32, Tryz.ntmps32
  go_wp2_with fail
  refine (hV _ (bel_alloc2 _ _ _)).mono ?_
  rintro r w1 ⟨rfl, hb1⟩
  have q0 := (hb1.block (w.heap.size + 1) (by rw [size2]; omega)).trans (heap_b2 _ _ _)
  have x0 := blkC q0 0 rfl
  have x1 := blkC q0 1 rfl
  have x2 := blkC q0 2 rfl
  have z0 := blkF q0 0
  have z1 := blkF q0 1
  have z2 := blkF q0 2
  go_wp2
  refine bodyPost_ret (v := .tuple #[zeroV, .int .i64 11]) (by simp [results, Tryz.results32, go_sem, zeroV, x0, x1, x2]) rfl ⟨rfl, ?_⟩
  exact bel_set3 (bel_trans (bel_alloc2 _ _ _) hb1) (by omega) _ _ _
set_option maxRecDepth 100000 in
set_option maxHeartbeats 1000000 in
theorem dscale_ok (x : NumR) (w : World) (hx : Row w x.ao x.n x.cap x.d) (k : Int) (hk : rng k) (ok : okR x = true) (hT : Tab w) :
    Calls Tryz.prog 32 #[x.v, .int .i64 k] w fun r w' => ∃ v er, r = .returned (.tuple #[v, .int .i64 er]) ∧ DFit w w' (mkV x.ng (val x.d x.n) (x.e + k)) v er := by
  have hmf : ∀ (fn : Fn) (first cap : Array Value) (w : World), (Instr.makeFunc fn first cap).run Tryz.prog w = .ok (.func fn first cap) w := fun _ _ _ _ => rfl
  have hE : ∀ (cap : Array Value) (w : World), (callFunc 72 cap).run Tryz.prog w = .ok (.enter 72 cap) w := by
    intro cap w
    simp [go_sem]
  have hV := fun W hb => dvalid_any x.ng x.ao x.n x.cap x.d x.e W (hx.keeps hb)
  have hox := (okR_dy ok).1.ok.1 (okR_dy ok).2.2
  have hC : ∀ W, Below w.heap.size w W → Calls Tryz.prog 53 #[.agg #[.bool x.ng, .slice x.ao x.n x.cap, .int .i64 (wrap64 (x.e + k))]] W (DOut W (mkV x.ng (val x.d x.n) (x.e + k))) := fun W hb => settle_wrap (hx.keeps hb) (okR_sane ok).1.1 (by have := (okR_sane ok).2.1; omega) (hT.keeps hb) hox.2.1 hox.2.2 hk rfl
  generalize mkV x.ng (val x.d x.n) (x.e + k) = V at hC ⊢
  have hkk : okN x.ng x.d x.n x.e = okR x := rfl
  rw [hkk, ok] at hV
  clear ok hkk hox
  unfold NumR.v
  obtain ⟨an, ao, n, ca, a, e⟩ := x
  simp only at *
  go_enter Tryz.func32, Tryz.ntmps32
  go_wp2_with fail
  refine (hV _ (bel_alloc2 _ _ _)).mono ?_
  rintro r w1 ⟨rfl, hb1⟩
  have hbw := bel_trans (bel_alloc2 w _ _) hb1
  have g0 := (hb1.block w.heap.size (by rw [size2]; omega)).trans (heap_a2 _ _ _)
  have g1 := (hb1.block (w.heap.size + 1) (by rw [size2]; omega)).trans (heap_b2 _ _ _)
  have hs2 : w.heap.size + 2 ≤ w1.heap.size := by have := hb1.size; rw [size2] at this; exact this
  have k0 := blkC g0 0 rfl
  have k1 := blkC g0 1 rfl
  have k2 := blkC g0 2 rfl
  have f2 := blkF g0 2
  go_wp2_with fail
  generalize wrap64 (e + k) = e9 at hC ⊢
  have hbw' : Below w.heap.size w (w1.setCell ⟨w.heap.size, 2, none⟩ (.int .i64 e9)) := hbw.setCell (p := ⟨w.heap.size, 2, none⟩) (Nat.le_refl _) _
  have u1 := (Below.heap_setCell w1 ⟨w.heap.size, 2, none⟩ (.int .i64 e9) (w.heap.size + 1) (by show w.heap.size + 1 ≠ w.heap.size; omega)).trans g1
  have u0 : (w1.setCell ⟨w.heap.size, 2, none⟩ (.int .i64 e9)).heap[w.heap.size]? = some (.cells #[.bool an, .slice ao n ca, .int .i64 e9] 25 (0, 0)) := heap_set g0 2 (.int .i64 e9)
  have us : (w1.setCell ⟨w.heap.size, 2, none⟩ (.int .i64 e9)).heap.size = w1.heap.size := by simp [World.setCell]
  generalize w1.setCell ⟨w.heap.size, 2, none⟩ (.int .i64 e9) = w9 at hbw' u0 u1 us ⊢
  refine (told_any (V := V) (hE _) (fun W hW => scale1_any an ao n ca e9 w.heap.size W ((hW.block _ (by omega)).trans u0) fun W2 hW2 => hC W2 (bel_trans (bel_trans hbw' hW) hW2))).mono ?_
  rintro r w2 ⟨v, er, rfl, hF⟩
  obtain ⟨ng', so, sn, sc, e', rfl⟩ := hF.shape
  have q0 := (hF.1.block (w.heap.size + 1) (by omega)).trans u1
  have x0 := blkC q0 0 rfl
  have x1 := blkC q0 1 rfl
  have x2 := blkC q0 2 rfl
  have z0 := blkF q0 0
  have z1 := blkF q0 1
  have z2 := blkF q0 2
  go_wp2
  refine bodyPost_ret (v := .tuple #[.agg #[.bool ng', .slice so sn sc, .int .i64 e'], .int .i64 er]) (by simp [results, Tryz.results32, go_sem, x0, x1, x2]) rfl ⟨_, _, rfl, ?_⟩
  exact dfit_res (g := w.heap.size + 1) hF hbw' (by omega) (by omega) _ _ _
end Go.Proofs.YtnhkagiionkjaaaGreatDoor

/-
  Package plumbref3: Neg, Answer, Make, Scale, by contracts.
-/
namespace Go.Proofs.YtnhkagiionkjaaaGreatDoor
open Go Go.RowKit Go.Proofs.YtnhkagiionkjaaaGreatDoor.M
set_option linter.unusedSimpArgs false
set_option linter.unusedVariables false

/-- The other sign; 0 has none. -/
def NumR.opp (x : NumR) : NumR := ⟨if x.n = 0 then x.ng else !x.ng, x.ao, x.n, x.cap, x.d, x.e⟩
set_option maxRecDepth 100000 in
theorem rneg3_any (x : NumR) (w : World) (hm : x.n ≤ 9223372036854775807) :
    Calls Tryz.prog 35 #[x.v] w fun r w' => r = .returned x.opp.v ∧ Below w.heap.size w w' := by
  obtain ⟨ng, ao, n, cap, d, e⟩ := x
  unfold NumR.v NumR.opp
  simp only at *
  by_cases h0 : n = 0
  · subst h0
    go_enter Tryz.func35, Tryz.ntmps35
    go_wp2
    refine bodyPost_ret (v := .agg #[.bool ng, .slice ao 0 cap, .int .i64 e]) (by simp [results, Tryz.results35, go_sem]) rfl ⟨rfl, ?_⟩
    exact bel_alloc2 _ _ _
  · have hn0 : (0 : Int) < n := by omega
    rw [if_neg h0]
    go_enter Tryz.func35, Tryz.ntmps35
    go_wp2
    refine bodyPost_ret (v := .agg #[.bool (!ng), .slice ao n cap, .int .i64 e]) (by simp [results, Tryz.results35, go_sem]) rfl ⟨rfl, ?_⟩
    exact bel_alloc2 _ _ _
set_option maxRecDepth 100000 in
theorem ranswer3_any (x : NumR) (w : World) (h : Row w x.ao x.n x.cap x.d) :
    Calls Tryz.prog 59 #[x.v] w fun r w' => r = .returned (.tuple #[if okR x then x.v else zeroV, .int .i64 (if okR x then 0 else 2)]) ∧ Below w.heap.size w w' := by
  have hC := fun W hb => rvalid3_any x W (h.keeps hb)
  generalize okR x = ok at *
  obtain ⟨ng, ao, n, cap, d, e⟩ := x
  unfold NumR.v at *
  simp only at *
  cases ok
  all_goals
    go_enter Tryz.func59, Tryz.ntmps59
    go_wp2_with fail
    refine (hC _ (bel_alloc2 _ _ _)).mono ?_
    rintro r w1 ⟨rfl, hb1⟩
    have g0 := (hb1.block w.heap.size (by rw [size2]; omega)).trans (heap_a2 _ _ _)
    have g1 := (hb1.block (w.heap.size + 1) (by rw [size2]; omega)).trans (heap_b2 _ _ _)
    have k0 := blkC g0 0 rfl
    have k1 := blkC g0 1 rfl
    have k2 := blkC g0 2 rfl
    have x0 := blkC g1 0 rfl
    have x1 := blkC g1 1 rfl
    have x2 := blkC g1 2 rfl
    have z0 := blkF g1 0
    have z1 := blkF g1 1
    have z2 := blkF g1 2
    go_wp2
    first
      | (refine bodyPost_ret (v := .tuple #[zeroV, .int .i64 2]) (by simp [results, Tryz.results59, go_sem, zeroV, x0, x1, x2]; done) rfl ⟨rfl, ?_⟩
         exact bel_set3 (bel_trans (bel_alloc2 _ _ _) hb1) (by omega) _ _ _)
      | (refine bodyPost_ret (v := .tuple #[.agg #[.bool ng, .slice ao n cap, .int .i64 e], .int .i64 0]) (by simp [results, Tryz.results59, go_sem, x0, x1, x2]; done) rfl ⟨rfl, ?_⟩
         exact bel_set3 (bel_trans (bel_alloc2 _ _ _) hb1) (by omega) _ _ _)
theorem okR_of {V : Int} {ng : Bool} {ao : Option Addr} {n cap : Nat} {d : Nat → Int} {e : Int} (hy : Dy V ng (val d n) e) (hN : Nrm d n) (ok : Dok V) : okR ⟨ng, ao, n, cap, d, e⟩ = true := by
  obtain ⟨o1, o2, o3⟩ := hy.ok.1 ok
  refine decide_eq_true ?_
  by_cases h0 : n = 0
  · left
    have hz : val d n = 0 := by rw [h0]; rfl
    rcases hy.form with ⟨_, f2, f3⟩ | ⟨f1, _⟩
    · exact ⟨h0, f2, f3⟩
    · omega
  · right
    have hp := val_pos hN (show 0 < n by omega)
    rcases hy.form with ⟨f1, _⟩ | ⟨_, f2⟩
    · omega
    · refine ⟨by show 0 < n; omega, ⟨?_, hN⟩, ?_, o2, o3⟩
      · show n ≤ 2000
        by_cases h2 : n ≤ 2000
        · exact h2
        · have a := val_top hN.1 (by omega) hN.2
          have b := P_le (show 2000 ≤ n - 1 by omega)
          omega
      · obtain ⟨k, hk⟩ : ∃ k, n = 1 + k := ⟨n - 1, by omega⟩
        have := val_split d 1 k
        rw [← hk] at this
        rw [this, show val d 1 = d 0 by show 0 + d 0 * 1 = _; omega, show P 1 = 1073741824 from rfl] at f2
        show d 0 % 2 = 1
        omega
/-- An answer, by its worth. -/
theorem ranswer_D {w : World} {v : Value} {V : Int} (hv : DNum w v V) :
    Calls Tryz.prog 59 #[v] w fun r w' => ∃ v' er, r = .returned (.tuple #[v', .int .i64 er]) ∧ Below w.heap.size w w' ∧ ((Dok V ∧ er = 0 ∧ v' = v ∧ DNum w' v V) ∨ (¬ Dok V ∧ er = 2 ∧ v' = zeroV)) := by
  obtain ⟨ng, s, m, e, rfl, hy, ao, n, cap, d, rfl, hR, hN, rfl⟩ := id hv
  have hA := ranswer3_any ⟨ng, ao, n, cap, d, e⟩ w hR
  have hV : (⟨ng, ao, n, cap, d, e⟩ : NumR).V = V := hy.val.symm
  by_cases hok : Dok V
  · have hokR : okR ⟨ng, ao, n, cap, d, e⟩ = true := okR_of hy hN hok
    rw [hokR] at hA
    refine hA.mono ?_
    rintro r w' ⟨rfl, hb⟩
    exact ⟨_, 0, rfl, hb, .inl ⟨hok, rfl, rfl, hv.keeps hb⟩⟩
  · have hokR : okR ⟨ng, ao, n, cap, d, e⟩ = false := by
      cases h : okR ⟨ng, ao, n, cap, d, e⟩
      · rfl
      · have := (okR_dy h).2.2
        rw [hV] at this
        exact absurd this hok
    rw [hokR] at hA
    refine hA.mono ?_
    rintro r w' ⟨rfl, hb⟩
    exact ⟨_, 2, rfl, hb, .inr ⟨hok, rfl, rfl⟩⟩
end Go.Proofs.YtnhkagiionkjaaaGreatDoor

/-
  Package plumbref3: Make, Scale, by contracts.
-/
namespace Go.Proofs.YtnhkagiionkjaaaGreatDoor
open Go Go.RowKit Go.Proofs.YtnhkagiionkjaaaGreatDoor.M
set_option linter.unusedSimpArgs false
set_option linter.unusedVariables false

/-- The document's own answer: a number, or ErrLong. -/
def RFit (w w' : World) (V : Int) (v : Value) (er : Int) : Prop := DFit w w' V v er
theorem RFit.shape {w w' : World} {V er : Int} {v : Value} (h : RFit w w' V v er) : ∃ ng so sn sc e, v = .agg #[.bool ng, .slice so sn sc, .int .i64 e] := by
  exact DFit.shape h
theorem not_dok_low {ng : Bool} {M e : Int} (h : 0 < M) (h1 : M < P 2000) (he0 : -4194304 ≤ e) (he : e < -2000000) : ¬ Dok (sg ng M * pw e) := by
  obtain ⟨l, hl⟩ := isLow_ex h
  have hy := Dy.of ng hl h he0
  obtain ⟨c1, c2, c3⟩ := isLow_odd hl h
  have hl2 : l < 60000 := by
    have h3 : (1 : Int) * 2 ^ l ≤ M / 2 ^ l * 2 ^ l := Int.mul_le_mul_of_nonneg_right (by omega) (Int.le_of_lt (two_pos l))
    rw [c3] at h3
    rw [P_two] at h1
    exact two_lt_iff (by omega)
  intro hk
  have := hy.ok.1 hk
  omega
theorem mk_far {ng : Bool} {M e : Int} (h0 : M ≠ 0) (h1 : 0 ≤ M) (h2 : M < P 2000) (he : 3145728 < e ∨ e < -3145728) : ¬ Dok (mkV ng M e) := by
  unfold mkV
  rw [if_neg h0]
  rcases he with he | he
  · rw [if_neg (by omega)]
    exact not_dok_high (by omega) (by omega)
  · by_cases h : e < -4194304
    · rw [if_pos h]; exact not_dok_one
    · rw [if_neg h]
      exact not_dok_low (by omega) h2 (by omega) (by omega)
set_option maxRecDepth 100000 in
set_option maxHeartbeats 1000000 in
theorem rmake3_bad (ng : Bool) (ao : Option Addr) (n cap : Nat) (d : Nat → Int) (e : Int) (w : World) (h : Row w ao n cap d) (ok : okB d n = false) :
    Calls Tryz.prog 18 #[.bool ng, .slice ao n cap, .int .i64 e] w fun r w' => r = .returned (.tuple #[zeroV, .int .i64 11]) ∧ Below w.heap.size w w' := by
  go_enter Tryz.func18, Tryz.ntmps18
  go_wp2_with fail
  refine (rvalid_any _ _ _ _ _ (h.keeps (bel_alloc _ _))).mono ?_
  rw [ok]
  rintro r w1 ⟨rfl, rfl⟩
  go_wp2
  refine bodyPost_ret (v := .tuple #[zeroV, .int .i64 11]) (by simp [results, Tryz.results18, go_sem, zeroV]) rfl ⟨rfl, ?_⟩
  exact bel_alloc _ _
set_option maxRecDepth 100000 in
set_option maxHeartbeats 1000000 in
theorem rmake3_far (ng : Bool) (ao : Option Addr) (n cap : Nat) (d : Nat → Int) (e : Int) (w : World) (h : Row w ao n cap d) (ok : okB d n = true) (he : 3145728 < e ∨ e < -3145728) :
    Calls Tryz.prog 18 #[.bool ng, .slice ao n cap, .int .i64 e] w fun r w' => ∃ v er, r = .returned (.tuple #[v, .int .i64 er]) ∧ RFit w w' (mkV ng (val d n) e) v er := by
  obtain ⟨hn, hN⟩ := okB_out ok
  have hlt : val d n < P 2000 := Int.lt_of_lt_of_le (val_lt hN.1) (P_le hn)
  have hfar := fun h0 => mk_far (ng := ng) (M := val d n) (e := e) h0 (val_nonneg hN.1) hlt he
  have hz : n = 0 → mkV ng (val d n) e = 0 := fun h0 => by unfold mkV; rw [if_pos (by rw [h0]; rfl)]
  have hp : n ≠ 0 → val d n ≠ 0 := fun h0 h1 => h0 ((val_zero hN).1 h1)
  generalize mkV ng (val d n) e = V at hfar hz ⊢
  by_cases h0 : n = 0
  · have hV := hz h0
    subst h0 hV
    rcases he with he | he
    all_goals
      go_enter Tryz.func18, Tryz.ntmps18
      go_wp2_with fail
      refine (rvalid_any _ _ _ _ _ (h.keeps (bel_alloc _ _))).mono ?_
      rw [ok]
      rintro r w1 ⟨rfl, rfl⟩
      go_wp2
      refine bodyPost_ret (v := .tuple #[zeroV, .int .i64 0]) (by simp [results, Tryz.results18, go_sem, zeroV]) rfl ⟨_, 0, rfl, bel_alloc _ _, .inl ⟨dok_zero, rfl, DAns.zero (bel_alloc _ _)⟩⟩
  · have hV := hfar (hp h0)
    have hn0 : ((n : Int) == 0) = false := by simp; omega
    rcases he with he | he
    all_goals
      go_enter Tryz.func18, Tryz.ntmps18
      go_wp2_with fail
      refine (rvalid_any _ _ _ _ _ (h.keeps (bel_alloc _ _))).mono ?_
      rw [ok]
      rintro r w1 ⟨rfl, rfl⟩
      go_wp2
      refine bodyPost_ret (v := .tuple #[zeroV, .int .i64 2]) (by simp [results, Tryz.results18, go_sem, zeroV]) rfl ⟨_, 2, rfl, bel_alloc _ _, .inr ⟨hV, rfl, rfl⟩⟩
set_option maxRecDepth 100000 in
set_option maxHeartbeats 1000000 in
theorem rmake3_near (ng : Bool) (ao : Option Addr) (n cap : Nat) (d : Nat → Int) (e : Int) (w : World) (h : Row w ao n cap d) (ok : okB d n = true) (he0 : -3145728 ≤ e) (he1 : e ≤ 3145728) :
    Calls Tryz.prog 18 #[.bool ng, .slice ao n cap, .int .i64 e] w fun r w' => ∃ v er, r = .returned (.tuple #[v, .int .i64 er]) ∧ RFit w w' (mkV ng (val d n) e) v er := by
  obtain ⟨hn, hN⟩ := okB_out ok
  have hV : mkV ng (val d n) e = sg ng (val d n) * pw e := by
    unfold mkV
    by_cases h0 : val d n = 0
    · rw [if_pos h0, h0, sg_zero, Int.zero_mul]
    · rw [if_neg h0, if_neg (by omega)]
  rw [hV]
  have hC := fun W hb => rnorm_any ng ao n cap d e W (h.keeps hb) hN.1 (by omega) (by omega) (by omega)
  generalize sg ng (val d n) * pw e = V at hC ⊢
  go_enter Tryz.func18, Tryz.ntmps18
  go_wp2_with fail
  refine (rvalid_any _ _ _ _ _ (h.keeps (bel_alloc _ _))).mono ?_
  rw [ok]
  rintro r w1 ⟨rfl, rfl⟩
  go_wp2_with fail
  refine (hC _ (bel_alloc _ _)).mono ?_
  rintro r w2 ⟨v, rfl, hD⟩
  have hbw := bel_trans (bel_alloc w _) hD.below
  go_wp2_with fail
  refine (ranswer_D hD.num).mono ?_
  rintro r w3 ⟨v', er, rfl, hb3, hor⟩
  have hsh : ∃ ng so sn sc e, v' = .agg #[.bool ng, .slice so sn sc, .int .i64 e] := by
    rcases hor with ⟨_, _, rfl, hd⟩ | ⟨_, _, rfl⟩
    · obtain ⟨ng, s, m, e, rfl, _, hA⟩ := hd
      obtain ⟨so, sn, sc, rfl⟩ := hA.shape
      exact ⟨_, _, _, _, _, rfl⟩
    · exact ⟨_, _, _, _, _, rfl⟩
  obtain ⟨ng', so', sn', sc', e', rfl⟩ := hsh
  have q0 := ((bel_trans hD.below hb3).block w.heap.size (by rw [size1]; omega)).trans (heap_a1 _ _)
  have x0 := blkC q0 0 rfl
  have x1 := blkC q0 1 rfl
  have x2 := blkC q0 2 rfl
  have z0 := blkF q0 0
  have z1 := blkF q0 1
  have z2 := blkF q0 2
  go_wp2
  refine bodyPost_ret (v := .tuple #[.agg #[.bool ng', .slice so' sn' sc', .int .i64 e'], .int .i64 er]) (by simp [results, Tryz.results18, go_sem, x0, x1, x2]) rfl ⟨_, _, rfl, bel_set3 (bel_trans hbw hb3) (Nat.le_refl _) _ _ _, ?_⟩
  rcases hor with ⟨o, rfl, h1, _⟩ | ⟨o, rfl, h1⟩
  · refine .inl ⟨o, rfl, ?_⟩
    rw [h1]
    exact dans_res3 (g := w.heap.size) (hD.stays hb3) (bel_alloc w _) (Nat.le_refl _) (by rw [size1]; omega) _ _ _
  · exact .inr ⟨o, rfl, h1⟩
theorem rmake3_any (ng : Bool) (ao : Option Addr) (n cap : Nat) (d : Nat → Int) (e : Int) (w : World) (h : Row w ao n cap d) (ok : okB d n = true) :
    Calls Tryz.prog 18 #[.bool ng, .slice ao n cap, .int .i64 e] w fun r w' => ∃ v er, r = .returned (.tuple #[v, .int .i64 er]) ∧ RFit w w' (mkV ng (val d n) e) v er := by
  by_cases he : 3145728 < e ∨ e < -3145728
  · exact rmake3_far ng ao n cap d e w h ok he
  · exact rmake3_near ng ao n cap d e w h ok (by omega) (by omega)
end Go.Proofs.YtnhkagiionkjaaaGreatDoor

/-
  Package dyadic: Sub, by its contract.
-/
namespace Go.Proofs.YtnhkagiionkjaaaGreatDoor
open Go Go.RowKit Go.Proofs.YtnhkagiionkjaaaGreatDoor.M
set_option linter.unusedSimpArgs false
set_option linter.unusedVariables false

/-- The number with the other sign (0 too). -/
def NumR.neg (r : NumR) : NumR := ⟨!r.ng, r.ao, r.n, r.cap, r.d, r.e⟩
theorem NumR.neg_V (r : NumR) : r.neg.V = -r.V := by
  show sg (!r.ng) _ * _ = _
  rw [sg_not, Int.neg_mul]; rfl
theorem NumR.neg_sane {r : NumR} (h : Sane r) : Sane r.neg := h
set_option maxRecDepth 100000 in
set_option maxHeartbeats 1000000 in
theorem sub1_any (x y : NumR) (g h : Nat) (w : World) (cg : w.heap[g]? = some (.cells #[.bool x.ng, .slice x.ao x.n x.cap, .int .i64 x.e] 25 (0, 0))) (ch : w.heap[h]? = some (.cells #[.bool y.ng, .slice y.ao y.n y.cap, .int .i64 y.e] 25 (0, 0)))
    (hx : Row w x.ao x.n x.cap x.d) (hy : Row w y.ao y.n y.cap y.d) (sx : Sane x) (sy : Sane y) (hT : Tab w) :
    Calls Tryz.prog 74 #[.pointer (some ⟨g, 0, none⟩), .pointer (some ⟨h, 0, none⟩)] w (DOut w (x.V + y.V)) := by
  obtain ⟨an, ao, n, ca, a, e⟩ := x
  obtain ⟨bn, bo, m, cb, b, f⟩ := y
  simp only at cg ch hx hy
  have hb := bel_alloc w (.cells #[.bool false, .slice none 0 0, .int .i64 0] 25)
  have g0 := heap_past (.cells #[.bool false, .slice none 0 0, .int .i64 0] 25) cg
  have g1 := heap_past (.cells #[.bool false, .slice none 0 0, .int .i64 0] 25) ch
  have k0 := blkC g0 0 rfl
  have k1 := blkC g0 1 rfl
  have k2 := blkC g0 2 rfl
  have j0 := blkC g1 0 rfl
  have j1 := blkC g1 1 rfl
  have j2 := blkC g1 2 rfl
  have hN := fun q => nums2 (w := (w.alloc (.cells #[.bool false, .slice none 0 0, .int .i64 0] 25)).alloc (.cells #[.bool an, .slice ao n ca, .int .i64 e, .bool bn, .slice bo m cb, .int .i64 f] 25)) (g := w.heap.size + 1) (x := ⟨an, ao, n, ca, a, e⟩) (y := ⟨bn, bo, m, cb, b, f⟩) (t := 25) q (hx.keeps (bel_alloc2 _ _ _)) (hy.keeps (bel_alloc2 _ _ _))
  go_enter Tryz.func74, Tryz.ntmps74
  go_wp2_with fail
  refine (total_any _ _ _ _ _ (hN (heap_b2 _ _ _)) (fun i hi => ?_) (by omega) (hT.keeps (bel_alloc2 _ _ _))).mono ?_
  · match i, hi with
    | 0, _ => exact sx
    | 1, _ => exact sy
  rw [sumV2]
  rintro r w7 (⟨hok, v, rfl, hD⟩ | ⟨hno, rfl, hb7⟩)
  · have hb7 := hD.below
    obtain ⟨ng', s', m', e', rfl, hyy, hA⟩ := id hD
    obtain ⟨so, sn, sc, rfl⟩ := hA.num.shape
    have q0 := (hb7.block w.heap.size (by rw [size2]; omega)).trans (heap_a2 _ _ _)
    have x0 := blkC q0 0 rfl
    have x1 := blkC q0 1 rfl
    have x2 := blkC q0 2 rfl
    have z0 := blkF q0 0
    have z1 := blkF q0 1
    have z2 := blkF q0 2
    go_wp2
    refine bodyPost_ret (v := .agg #[.bool ng', .slice so sn sc, .int .i64 e']) (by simp [results, Tryz.results74, go_sem, x0, x1, x2]) rfl ?_
    exact .inl ⟨hok, _, rfl, dans_res3 (g := w.heap.size) hD (bel_alloc2 _ _ _) (Nat.le_refl _) (by rw [size2]; omega) _ _ _⟩
  · exact ⟨rfl, .inr ⟨hno, rfl, bel_trans (bel_alloc2 _ _ _) hb7⟩⟩
set_option maxRecDepth 100000 in
set_option maxHeartbeats 1000000 in
theorem dsub_bad (x y : NumR) (w : World) (hx : Row w x.ao x.n x.cap x.d) (hy : Row w y.ao y.n y.cap y.d) (ok : (okR x && okR y) = false) :
    Calls Tryz.prog 37 #[x.v, y.v] w fun r w' => r = .returned (.tuple #[zeroV, .int .i64 11]) ∧ Below w.heap.size w w' := by
  have hmf : ∀ (fn : Fn) (first cap : Array Value) (w : World), (Instr.makeFunc fn first cap).run Tryz.prog w = .ok (.func fn first cap) w := fun _ _ _ _ => rfl
  have hA := allOk2 x y
  rw [ok] at hA
  have hN := fun W q hb => nums2 (w := W) (g := w.heap.size + 3) (x := x) (y := y) (t := 25) q (hx.keeps hb) (hy.keeps hb)
  generalize pair2 x y = pr at hA hN
  obtain ⟨an, ao, n, ca, a, e⟩ := x
  obtain ⟨bn, bo, m, cb, b, f⟩ := y
  unfold NumR.v
  simp only at hx hy hN ⊢
  go_enter Tryz.func37, Tryz.ntmps37
  go_wp2_with fail
  refine (dvalids_any _ _ _ _ _ (hN _ (h4_3 _ _ _ _ _) (bel_a4 _ _ _ _ _))).mono ?_
  rw [hA]
  rintro r w1 ⟨rfl, hb1⟩
  have q0 := (hb1.block (w.heap.size + 2) (by rw [size4]; omega)).trans (h4_2 _ _ _ _ _)
  have x0 := blkC q0 0 rfl
  have x1 := blkC q0 1 rfl
  have x2 := blkC q0 2 rfl
  have z0 := blkF q0 0
  have z1 := blkF q0 1
  have z2 := blkF q0 2
  go_wp2
  refine bodyPost_ret (v := .tuple #[zeroV, .int .i64 11]) (by simp [results, Tryz.results37, go_sem, zeroV, x0, x1, x2]) rfl ⟨rfl, ?_⟩
  exact bel_set3 (bel_trans (bel_a4 _ _ _ _ _) hb1) (by omega) _ _ _
set_option maxRecDepth 100000 in
set_option maxHeartbeats 1000000 in
theorem dsub_ok (x y : NumR) (w : World) (hx : Row w x.ao x.n x.cap x.d) (hy : Row w y.ao y.n y.cap y.d) (ox : okR x = true) (oy : okR y = true) (hT : Tab w) :
    Calls Tryz.prog 37 #[x.v, y.v] w fun r w' => ∃ v er, r = .returned (.tuple #[v, .int .i64 er]) ∧ DFit w w' (x.V - y.V) v er := by
  have hmf : ∀ (fn : Fn) (first cap : Array Value) (w : World), (Instr.makeFunc fn first cap).run Tryz.prog w = .ok (.func fn first cap) w := fun _ _ _ _ => rfl
  have hE : ∀ (cap : Array Value) (w : World), (callFunc 74 cap).run Tryz.prog w = .ok (.enter 74 cap) w := by
    intro cap w
    simp [go_sem]
  have hA := allOk2 x y
  rw [ox, oy] at hA
  have hN := fun W q hb => nums2 (w := W) (g := w.heap.size + 3) (x := x) (y := y) (t := 25) q (hx.keeps hb) (hy.keeps hb)
  have hC := fun W hb cg ch => sub1_any x y.neg w.heap.size (w.heap.size + 1) W cg ch (hx.keeps hb) (hy.keeps hb) (okR_sane ox) (NumR.neg_sane (okR_sane oy)) (hT.keeps hb)
  generalize pair2 x y = pr at hA hN
  rw [show x.V - y.V = x.V + y.neg.V by rw [NumR.neg_V]; omega]
  generalize x.V + y.neg.V = V at hC ⊢
  clear ox oy
  obtain ⟨an, ao, n, ca, a, e⟩ := x
  obtain ⟨bn, bo, m, cb, b, f⟩ := y
  unfold NumR.v
  unfold NumR.neg at hC
  simp only at hx hy hN hC ⊢
  go_enter Tryz.func37, Tryz.ntmps37
  go_wp2_with fail
  refine (dvalids_any _ _ _ _ _ (hN _ (h4_3 _ _ _ _ _) (bel_a4 _ _ _ _ _))).mono ?_
  rw [hA]
  rintro r w1 ⟨rfl, hb1⟩
  have hbw := bel_trans (bel_a4 w _ _ _ _) hb1
  have g0 := (hb1.block w.heap.size (by rw [size4]; omega)).trans (h4_0 _ _ _ _ _)
  have g1 := (hb1.block (w.heap.size + 1) (by rw [size4]; omega)).trans (h4_1 _ _ _ _ _)
  have g2 := (hb1.block (w.heap.size + 2) (by rw [size4]; omega)).trans (h4_2 _ _ _ _ _)
  have hs4 : w.heap.size + 4 ≤ w1.heap.size := by have := hb1.size; rw [size4] at this; exact this
  have y0 := blkC g1 0 rfl
  have y1 := blkF g1 0
  go_wp2_with fail
  have hbw' : Below w.heap.size w (w1.setCell ⟨w.heap.size + 1, 0, none⟩ (.bool (!bn))) := hbw.setCell (p := ⟨w.heap.size + 1, 0, none⟩) (Nat.le_succ _) _
  have u0 := (Below.heap_setCell w1 ⟨w.heap.size + 1, 0, none⟩ (.bool (!bn)) w.heap.size (by show w.heap.size ≠ w.heap.size + 1; omega)).trans g0
  have u2 := (Below.heap_setCell w1 ⟨w.heap.size + 1, 0, none⟩ (.bool (!bn)) (w.heap.size + 2) (by show w.heap.size + 2 ≠ w.heap.size + 1; omega)).trans g2
  have u1 := heap_set g1 0 (.bool (!bn))
  have us : (w1.setCell ⟨w.heap.size + 1, 0, none⟩ (.bool (!bn))).heap.size = w1.heap.size := by simp [World.setCell]
  generalize w1.setCell ⟨w.heap.size + 1, 0, none⟩ (.bool (!bn)) = w9 at hbw' u0 u1 u2 us ⊢
  clear hbw g0 g1 g2 hb1 y0 y1
  have hbw := hbw'
  have g0 := u0
  have g1 : w9.heap[w.heap.size + 1]? = some (.cells #[.bool (!bn), .slice bo m cb, .int .i64 f] 25 (0, 0)) := u1
  have g2 := u2
  refine (told_any (V := V) (hE _) (fun W hW => hC W (bel_trans hbw hW) ((hW.block _ (by omega)).trans g0) ((hW.block _ (by omega)).trans g1))).mono ?_
  rintro r w2 ⟨v, er, rfl, hF⟩
  obtain ⟨ng', so, sn, sc, e', rfl⟩ := hF.shape
  have q0 := (hF.1.block (w.heap.size + 2) (by omega)).trans g2
  have x0 := blkC q0 0 rfl
  have x1 := blkC q0 1 rfl
  have x2 := blkC q0 2 rfl
  have z0 := blkF q0 0
  have z1 := blkF q0 1
  have z2 := blkF q0 2
  go_wp2
  refine bodyPost_ret (v := .tuple #[.agg #[.bool ng', .slice so sn sc, .int .i64 e'], .int .i64 er]) (by simp [results, Tryz.results37, go_sem, x0, x1, x2]) rfl ⟨_, _, rfl, ?_⟩
  exact dfit_res (g := w.heap.size + 2) hF hbw (by omega) (by omega) _ _ _
end Go.Proofs.YtnhkagiionkjaaaGreatDoor

/-
  Package dyadic: product, Mul, by contracts.
-/
namespace Go.Proofs.YtnhkagiionkjaaaGreatDoor
open Go Go.RowKit Go.Proofs.YtnhkagiionkjaaaGreatDoor.M
set_option linter.unusedSimpArgs false
set_option linter.unusedVariables false

/-- A product's worth. -/
def mulV (x y : NumR) : Int := sg (x.ng != y.ng) (val x.d x.n * val y.d y.n) * pw (x.e + y.e)
theorem mulV_eq {x y : NumR} (hx : -2097152 ≤ x.e) (hy : -2097152 ≤ y.e) : mulV x y * 2 ^ 4194304 = x.V * y.V := by
  unfold mulV NumR.V
  rw [Int.mul_assoc, ← pw_mul hx hy, ← sg_mul]; grind
set_option maxRecDepth 100000 in
set_option maxHeartbeats 2000000 in
theorem dproduct_any (x y : NumR) (w : World) (hx : Row w x.ao x.n x.cap x.d) (hy : Row w y.ao y.n y.cap y.d) (sx : Sane x) (sy : Sane y) :
    Calls Tryz.prog 76 #[x.v, y.v] w fun r w' => ∃ s, r = .returned (.agg #[.bool (x.ng != y.ng), s, .int .i64 (x.e + y.e)]) ∧ Ans w w' (val x.d x.n * val y.d y.n) s := by
  obtain ⟨an, ao, n, ca, a, e⟩ := x
  obtain ⟨bn, bo, m, cb, b, f⟩ := y
  obtain ⟨s1, s2, s3, s4⟩ := sx
  obtain ⟨t1, t2, t3, t4⟩ := sy
  unfold NumR.v
  simp only at *
  have hw : IntKind.i64.wrap (e + f) = e + f := by rw [wrap_i64_eq]; omega
  have hb3 := bel_a3 w (.cells #[.bool an, .slice ao n ca, .int .i64 e] 25) (.cells #[.bool bn, .slice bo m cb, .int .i64 f] 25) (.cells #[.bool false, .slice none 0 0, .int .i64 0] 25)
  have g0 := h3_0 w (.cells #[.bool an, .slice ao n ca, .int .i64 e] 25) (.cells #[.bool bn, .slice bo m cb, .int .i64 f] 25) (.cells #[.bool false, .slice none 0 0, .int .i64 0] 25)
  have g1 := h3_1 w (.cells #[.bool an, .slice ao n ca, .int .i64 e] 25) (.cells #[.bool bn, .slice bo m cb, .int .i64 f] 25) (.cells #[.bool false, .slice none 0 0, .int .i64 0] 25)
  have g2 := h3_2 w (.cells #[.bool an, .slice ao n ca, .int .i64 e] 25) (.cells #[.bool bn, .slice bo m cb, .int .i64 f] 25) (.cells #[.bool false, .slice none 0 0, .int .i64 0] 25)
  have hs3 := size3 w (.cells #[.bool an, .slice ao n ca, .int .i64 e] 25) (.cells #[.bool bn, .slice bo m cb, .int .i64 f] 25) (.cells #[.bool false, .slice none 0 0, .int .i64 0] 25)
  go_enter Tryz.func76, Tryz.ntmps76
  go_wp2_with fail
  have HX := hx.keeps hb3
  have HY := hy.keeps hb3
  generalize ((w.alloc (.cells #[.bool an, .slice ao n ca, .int .i64 e] 25)).alloc (.cells #[.bool bn, .slice bo m cb, .int .i64 f] 25)).alloc (.cells #[.bool false, .slice none 0 0, .int .i64 0] 25) = wx at hb3 g0 g1 g2 hs3 HX HY ⊢
  have k0 := blkC g0 0 rfl
  have k1 := blkC g0 1 rfl
  have k2 := blkC g0 2 rfl
  have j0 := blkC g1 0 rfl
  have j1 := blkC g1 1 rfl
  have j2 := blkC g1 2 rfl
  have hb1 := bel_refl wx
  have C1 : ∀ W, Below wx.heap.size wx W → Calls Tryz.prog 105 #[.slice ao n ca, .slice bo m cb] W fun r w' => ∃ so sn sc, r = .returned (.slice so sn sc) ∧ Ans W w' (val a n * val b m) (.slice so sn sc) ∧ Below W.heap.size W w' := fun W h => by
    refine (product_any ao bo n m ca cb a b W (HX.keeps h) (HY.keeps h) s1.1 t1.1 (by omega) (by omega)).mono ?_
    rintro r w' ⟨v, rfl, hA⟩
    obtain ⟨so, sn, sc, rfl⟩ := hA.num.shape
    exact ⟨so, sn, sc, rfl, hA, hA.below⟩
  go_region_held3 (fun W => (W.cell? ⟨w.heap.size, 0, none⟩ = some (.bool an) ∧ W.cell? ⟨w.heap.size, 1, none⟩ = some (.slice ao n ca) ∧ W.cell? ⟨w.heap.size, 2, none⟩ = some (.int .i64 e)) ∧ W.cell? ⟨w.heap.size + 1, 0, none⟩ = some (.bool bn) ∧ W.cell? ⟨w.heap.size + 1, 1, none⟩ = some (.slice bo m cb) ∧ W.cell? ⟨w.heap.size + 1, 2, none⟩ = some (.int .i64 f))
    (first | assumption | exact ⟨⟨k0, k1, k2⟩, j0, j1, j2⟩ | exact ⟨keepB (W := wx.drew) ⟨k0, k1, k2⟩ hbv1, keepB (W := wx.drew) ⟨j0, j1, j2⟩ hbv1⟩ | exact ⟨keepS (keepB (W := wx.drew) ⟨k0, k1, k2⟩ hbv1) (by omega) _ _ _, keepS (keepB (W := wx.drew) ⟨j0, j1, j2⟩ hbv1) (by omega) _ _ _⟩)
    (first | (go_at_call 105; refine (C1 _ hb1.drew).mono ?_; rintro y w3 ⟨so, sn, sc, rfl, hv, hbv1⟩; have q0 := (hbv1.block (w.heap.size + 2) (by show _ < wx.heap.size; omega)).trans g2; have x0 := blkC q0 0 rfl; have x1 := blkC q0 1 rfl; have x2 := blkC q0 2 rfl; have z0 := blkF q0 0; have z1 := blkF q0 1; have z2 := blkF q0 2) | fail)
  all_goals go_wp2
  all_goals
    refine bodyPost_ret (v := .agg #[.bool (!(an == bn)), .slice so sn sc, .int .i64 (e + f)]) (by simp [results, Tryz.results76, go_sem, x0, x1, x2]) rfl ⟨_, rfl, ?_⟩
    exact ans_res (g := w.heap.size + 2) (hv.from hb1.drew) hb3 (by omega) (by omega) _ _ _
set_option maxRecDepth 100000 in
set_option maxHeartbeats 1000000 in
theorem mul1_any (x y : NumR) (g h : Nat) (w : World) (cg : w.heap[g]? = some (.cells #[.bool x.ng, .slice x.ao x.n x.cap, .int .i64 x.e] 25 (0, 0))) (ch : w.heap[h]? = some (.cells #[.bool y.ng, .slice y.ao y.n y.cap, .int .i64 y.e] 25 (0, 0)))
    (hx : Row w x.ao x.n x.cap x.d) (hy : Row w y.ao y.n y.cap y.d) (sx : Sane x) (sy : Sane y) (hT : Tab w) :
    Calls Tryz.prog 75 #[.pointer (some ⟨g, 0, none⟩), .pointer (some ⟨h, 0, none⟩)] w (DOut w (mulV x y)) := by
  have hP := fun W hb => dproduct_any x y W (hx.keeps hb) (hy.keeps hb) sx sy
  have hV : mulV x y = sg (x.ng != y.ng) (val x.d x.n * val y.d y.n) * pw (x.e + y.e) := rfl
  have he : -4194304 ≤ x.e + y.e := by have := sx.2.2.1; have := sy.2.2.1; omega
  have hlen : val x.d x.n * val y.d y.n < P 10000 := by
    have a1 := val_lt sx.1.1
    have a2 := val_lt sy.1.1
    have b1 := val_nonneg sx.1.1
    have b2 := val_nonneg sy.1.1
    have c1 : val x.d x.n * val y.d y.n ≤ P x.n * val y.d y.n := Int.mul_le_mul_of_nonneg_right (by omega) b2
    have c2 : P x.n * val y.d y.n < P x.n * P y.n := Int.mul_lt_mul_of_pos_left a2 (P_pos _)
    rw [← P_add] at c2
    have := P_le (show x.n + y.n ≤ 10000 by have := sx.2.1; have := sy.2.1; omega)
    omega
  generalize mulV x y = V at hV ⊢
  unfold NumR.v at hP
  obtain ⟨an, ao, n, ca, a, e⟩ := x
  obtain ⟨bn, bo, m, cb, b, f⟩ := y
  simp only at cg ch hx hy hP hV he hlen
  have hb := bel_alloc w (.cells #[.bool false, .slice none 0 0, .int .i64 0] 25)
  have g0 := heap_past (.cells #[.bool false, .slice none 0 0, .int .i64 0] 25) cg
  have g1 := heap_past (.cells #[.bool false, .slice none 0 0, .int .i64 0] 25) ch
  have k0 := blkC g0 0 rfl
  have k1 := blkC g0 1 rfl
  have k2 := blkC g0 2 rfl
  have j0 := blkC g1 0 rfl
  have j1 := blkC g1 1 rfl
  have j2 := blkC g1 2 rfl
  clear sx sy
  have HV : Hid (V = sg (an != bn) (val a n * val b m) * pw (e + f)) := hV
  clear hV
  go_enter Tryz.func75, Tryz.ntmps75
  go_wp2_with fail
  refine (hP _ hb).mono ?_
  rintro r w3 ⟨s, rfl, hA⟩
  obtain ⟨so, sn, sc, d, rfl, hR, hN, hv⟩ := hA.num
  have hsn : sn ≤ 10000 := hA.num.len hlen
  have hb3 := bel_trans hb hA.below
  go_wp2_with fail
  refine (settle_any (V := V) hR hN.1 (by omega) (hT.keeps hb3) he (by rw [hv]; exact HV.out)).mono ?_
  rintro r w7 (⟨hok, v, rfl, hD⟩ | ⟨hno, rfl, hb7⟩)
  · have hb7 := hD.below
    obtain ⟨ng', s', m', e', rfl, hyy, hA2⟩ := id hD
    obtain ⟨so', sn', sc', rfl⟩ := hA2.num.shape
    have q0 := ((bel_trans hA.below hb7).block w.heap.size (by rw [size1]; omega)).trans (heap_a1 _ _)
    have x0 := blkC q0 0 rfl
    have x1 := blkC q0 1 rfl
    have x2 := blkC q0 2 rfl
    have z0 := blkF q0 0
    have z1 := blkF q0 1
    have z2 := blkF q0 2
    go_wp2
    refine bodyPost_ret (v := .agg #[.bool ng', .slice so' sn' sc', .int .i64 e']) (by simp [results, Tryz.results75, go_sem, x0, x1, x2]) rfl ?_
    exact .inl ⟨hok, _, rfl, dans_res3 (g := w.heap.size) hD hb3 (Nat.le_refl _) (Nat.lt_of_lt_of_le (by rw [size1]; omega) hA.below.size) _ _ _⟩
  · exact ⟨rfl, .inr ⟨hno, rfl, bel_trans hb3 hb7⟩⟩
set_option maxRecDepth 100000 in
set_option maxHeartbeats 1000000 in
theorem dmul_bad (x y : NumR) (w : World) (hx : Row w x.ao x.n x.cap x.d) (hy : Row w y.ao y.n y.cap y.d) (ok : (okR x && okR y) = false) :
    Calls Tryz.prog 38 #[x.v, y.v] w fun r w' => r = .returned (.tuple #[zeroV, .int .i64 11]) ∧ Below w.heap.size w w' := by
  have hmf : ∀ (fn : Fn) (first cap : Array Value) (w : World), (Instr.makeFunc fn first cap).run Tryz.prog w = .ok (.func fn first cap) w := fun _ _ _ _ => rfl
  have hA := allOk2 x y
  rw [ok] at hA
  have hN := fun W q hb => nums2 (w := W) (g := w.heap.size + 3) (x := x) (y := y) (t := 25) q (hx.keeps hb) (hy.keeps hb)
  generalize pair2 x y = pr at hA hN
  obtain ⟨an, ao, n, ca, a, e⟩ := x
  obtain ⟨bn, bo, m, cb, b, f⟩ := y
  unfold NumR.v
  simp only at hx hy hN ⊢
  go_enter Tryz.func38, Tryz.ntmps38
  go_wp2_with fail
  refine (dvalids_any _ _ _ _ _ (hN _ (h4_3 _ _ _ _ _) (bel_a4 _ _ _ _ _))).mono ?_
  rw [hA]
  rintro r w1 ⟨rfl, hb1⟩
  have q0 := (hb1.block (w.heap.size + 2) (by rw [size4]; omega)).trans (h4_2 _ _ _ _ _)
  have x0 := blkC q0 0 rfl
  have x1 := blkC q0 1 rfl
  have x2 := blkC q0 2 rfl
  have z0 := blkF q0 0
  have z1 := blkF q0 1
  have z2 := blkF q0 2
  go_wp2
  refine bodyPost_ret (v := .tuple #[zeroV, .int .i64 11]) (by simp [results, Tryz.results38, go_sem, zeroV, x0, x1, x2]) rfl ⟨rfl, ?_⟩
  exact bel_set3 (bel_trans (bel_a4 _ _ _ _ _) hb1) (by omega) _ _ _
set_option maxRecDepth 100000 in
set_option maxHeartbeats 1000000 in
theorem dmul_ok (x y : NumR) (w : World) (hx : Row w x.ao x.n x.cap x.d) (hy : Row w y.ao y.n y.cap y.d) (ox : okR x = true) (oy : okR y = true) (hT : Tab w) :
    Calls Tryz.prog 38 #[x.v, y.v] w fun r w' => ∃ v er, r = .returned (.tuple #[v, .int .i64 er]) ∧ DFit w w' (mulV x y) v er := by
  have hmf : ∀ (fn : Fn) (first cap : Array Value) (w : World), (Instr.makeFunc fn first cap).run Tryz.prog w = .ok (.func fn first cap) w := fun _ _ _ _ => rfl
  have hE : ∀ (cap : Array Value) (w : World), (callFunc 75 cap).run Tryz.prog w = .ok (.enter 75 cap) w := by
    intro cap w
    simp [go_sem]
  have hA := allOk2 x y
  rw [ox, oy] at hA
  have hN := fun W q hb => nums2 (w := W) (g := w.heap.size + 3) (x := x) (y := y) (t := 25) q (hx.keeps hb) (hy.keeps hb)
  have hC := fun W hb cg ch => mul1_any x y w.heap.size (w.heap.size + 1) W cg ch (hx.keeps hb) (hy.keeps hb) (okR_sane ox) (okR_sane oy) (hT.keeps hb)
  generalize pair2 x y = pr at hA hN
  generalize mulV x y = V at hC ⊢
  clear ox oy
  obtain ⟨an, ao, n, ca, a, e⟩ := x
  obtain ⟨bn, bo, m, cb, b, f⟩ := y
  unfold NumR.v
  simp only at hx hy hN hC ⊢
  go_enter Tryz.func38, Tryz.ntmps38
  go_wp2_with fail
  refine (dvalids_any _ _ _ _ _ (hN _ (h4_3 _ _ _ _ _) (bel_a4 _ _ _ _ _))).mono ?_
  rw [hA]
  rintro r w1 ⟨rfl, hb1⟩
  have hbw := bel_trans (bel_a4 w _ _ _ _) hb1
  have g0 := (hb1.block w.heap.size (by rw [size4]; omega)).trans (h4_0 _ _ _ _ _)
  have g1 := (hb1.block (w.heap.size + 1) (by rw [size4]; omega)).trans (h4_1 _ _ _ _ _)
  have g2 := (hb1.block (w.heap.size + 2) (by rw [size4]; omega)).trans (h4_2 _ _ _ _ _)
  have hs4 : w.heap.size + 4 ≤ w1.heap.size := by have := hb1.size; rw [size4] at this; exact this
  go_wp2_with fail
  refine (told_any (V := V) (hE _) (fun W hW => hC W (bel_trans hbw hW) ((hW.block _ (by omega)).trans g0) ((hW.block _ (by omega)).trans g1))).mono ?_
  rintro r w2 ⟨v, er, rfl, hF⟩
  obtain ⟨ng', so, sn, sc, e', rfl⟩ := hF.shape
  have q0 := (hF.1.block (w.heap.size + 2) (by omega)).trans g2
  have x0 := blkC q0 0 rfl
  have x1 := blkC q0 1 rfl
  have x2 := blkC q0 2 rfl
  have z0 := blkF q0 0
  have z1 := blkF q0 1
  have z2 := blkF q0 2
  go_wp2
  refine bodyPost_ret (v := .tuple #[.agg #[.bool ng', .slice so sn sc, .int .i64 e'], .int .i64 er]) (by simp [results, Tryz.results38, go_sem, x0, x1, x2]) rfl ⟨_, _, rfl, ?_⟩
  exact dfit_res (g := w.heap.size + 2) hF hbw (by omega) (by omega) _ _ _
end Go.Proofs.YtnhkagiionkjaaaGreatDoor
