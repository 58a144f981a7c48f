/-
  The document's rounding: Cut, way 0, below 0: its walk.
-/
import Derived.Test.YtheiinclgfgneaaDoorPart9
import Derived.Deep.RegionHeld3
namespace Go.Proofs.YtheiinclgfgneaaDoor
open Go Go.RowKit Go.Proofs.YtheiinclgfgneaaDoor.M
set_option linter.unusedSimpArgs false
set_option linter.unusedVariables false
set_option maxRecDepth 100000 in
set_option maxHeartbeats 40000000 in
theorem cutW0n (ao : Option Addr) (n cap : Nat) (d : Nat → Int) (exp : Int) (more : Bool) (w : World) (h : Row w ao n cap d) (nb : Nat) (E lw : Int) (K : Nat) (hf rs : Bool) (l : Int) (F : CutF ao n cap d exp more nb E lw K hf rs l) :
    Calls Tryd.prog 83 #[k64V, .bool true, .slice ao n cap, .int .i64 exp, .bool more, .int .i64 0] w fun e w' => e = .returned (.tuple #[.int .i64 (cutT 0 true hf rs K E).1, .bool (cutT 0 true hf rs K E).2]) ∧ Below w.heap.size w w' := by
  obtain ⟨hnb, he, hlw, hE, hEl, hK, hl, hr1, hr2, hr3, hm1, hm2, CB, CS, CL, CI, CW, CJ⟩ := F
  unfold k64V at *
  have hba := bel_alloc w (.cells #[.int .i64 53, .int .i64 (-1074), .int .i64 1024, .int .i64 9218868437227405312, .int .i64 (-9223372036854775808)] 67)
  have q0 := heap_alloc_new w (.cells #[.int .i64 53, .int .i64 (-1074), .int .i64 1024, .int .i64 9218868437227405312, .int .i64 (-9223372036854775808)] 67)
  have HR : Hid (Row (w.alloc (.cells #[.int .i64 53, .int .i64 (-1074), .int .i64 1024, .int .i64 9218868437227405312, .int .i64 (-9223372036854775808)] 67)) ao n cap d) := h.keeps hba
  have k0 := blkC q0 0 rfl
  have k1 := blkC q0 1 rfl
  have k2 := blkC q0 2 rfl
  have k3 := blkC q0 3 rfl
  have k4 := blkC q0 4 rfl
  have hse : lw + exp = E := by omega
  have wl : IntKind.i64.wrap (-lw) = -lw := by rw [wrap_i64_eq]; omega
  have wl1 : IntKind.i64.wrap (lw - 1) = lw - 1 := by rw [wrap_i64_eq]; omega
  go_enter Tryd.func83, Tryd.ntmps83
  go_wp2_with fail
  generalize w.alloc (.cells #[.int .i64 53, .int .i64 (-1074), .int .i64 1024, .int .i64 9218868437227405312, .int .i64 (-9223372036854775808)] 67) = wx at hba q0 k0 k1 k2 k3 k4 HR ⊢
  refine (CB _ HR.out).mono ?_
  rintro _ _ ⟨rfl, rfl⟩
  go_wp2_with fail
  refine (CS _ HR.out).mono ?_
  rintro _ w1 ⟨so, sn, sc, rfl, hb1, hN1⟩
  have HR1 : Hid (Row w1 ao n cap d) := HR.out.keeps hb1
  have hbw := bel_trans hba hb1
  have p0 := (hb1.block _ (Array.getElem?_eq_some_iff.1 q0).1).trans q0
  have k0' := blkC p0 0 rfl
  have k1' := blkC p0 1 rfl
  have k2' := blkC p0 2 rfl
  have k3' := blkC p0 3 rfl
  have k4' := blkC p0 4 rfl
  clear k0 k1 k2 k3 k4 CS CB hm1 hm2 q0 HR hb1
  by_cases c0 : lw < 0
  · have hmo : more = false := by
      cases more
      · rfl
      · exact absurd (hr1 rfl).2 (by omega)
    subst hmo
    have hrs := hr2 rfl (by omega)
    subst hrs
    clear hr1 hr2 hr3 hN1
    go_wp2_with fail
    refine (CL c0 _ HR1.out).mono ?_
    rintro _ w2 ⟨so, sn, sc, rfl, hb2, hN2⟩
    have HR2 : Hid (Row w2 ao n cap d) := HR1.out.keeps hb2
    have hbw := bel_trans hbw hb2
    have p1 := (hb2.block _ (Array.getElem?_eq_some_iff.1 p0).1).trans p0
    have k0' := blkC p1 0 rfl
    have k1' := blkC p1 1 rfl
    have k2' := blkC p1 2 rfl
    have k3' := blkC p1 3 rfl
    have k4' := blkC p1 4 rfl
    have HN : Hid (Num w2 (.slice so sn sc) K) := hN2
    clear hN2 CL HR1 p0 hb2
    obtain ⟨ao', n', ca', dk, e1, hRk, hNk, hVk⟩ := HN.out
    simp only [Value.slice.injEq] at e1
    obtain ⟨rfl, rfl, rfl⟩ := e1
    have hmx := hRk.max
    have hle := hRk.le
    have HRk : Hid (Row w2 so sn sc dk) := hRk
    have HNk : Hid (Nrm dk sn) := hNk
    have HVk : Hid (val dk sn = K) := hVk
    have HV1 : Hid (val dk sn < 9223372036854775808) := by unfold Hid; omega
    clear hRk hNk hVk HN
    go_wp2_with fail
    refine (CI _ HR2.out).mono ?_
    rintro _ w2 ⟨rfl, rfl⟩
    go_wp2_with fail
    go_loop [20, 21] (fun mv iv => ∃ (j : Nat) (W : Int), j ≤ sn ∧ iv = .int .i64 ((j : Int) - 1) ∧ mv = .int .i64 W ∧ 0 ≤ W ∧ Hid (W * P j + val dk j = val dk sn)) (fun _ iv => (intOf iv + 1).toNat)
    case atStart => exact ⟨sn, 0, Nat.le_refl _, rfl, rfl, by omega, by show _ = _; omega⟩
    case round =>
      obtain ⟨j, W, hj, rfl, rfl, hW0, HW⟩ := hrel
      by_cases hj0 : 0 < j
      · obtain ⟨m, rfl⟩ : ∃ m, j = m + 1 := ⟨j - 1, by omega⟩
        have em : ((m + 1 : Nat) : Int) - 1 = m := by omega
        obtain ⟨hb1, hb2⟩ := int_smallD (HNk.out.1.le hj) HW.out hW0 HV1.out
        have HB2' : Hid ((W * 1073741824 + dk m) * P m + val dk m = val dk sn) := hb2
        obtain ⟨ba, fa, hba, hblt, hca⟩ := HRk.out.spot (by omega)
        subst hba
        have c1 := hca m (by omega)
        have dm := HNk.out.1 m (by omega)
        rw [em]
        clear hb2 hca
        go_wp2
        go_round
        case rel => exact ⟨m, W * 1073741824 + dk m, by omega, rfl, rfl, by omega, HB2'.out⟩
        case measure => simp [intOf]; try omega
      · obtain rfl : j = 0 := by omega
        have HWK : Hid ((K : Int) = W) := by
          have h := HW.out
          rw [show P 0 = 1 from rfl, show val dk 0 = 0 from rfl, HVk.out] at h
          show _ = _
          omega
        have hW1 : W < 9007199254740992 := by have := HWK.out; omega
        clear hK
        clear HW HRk HNk HVk HV1
        cases hf
        · by_cases u0 : W ≤ 0
          · have hno : ¬ (4503599627370496 ≤ W ∧ 1024 < (blen W : Int) + E) := fun q => by omega
            have hg0 : decide (0 < W) = false := decide_eq_false (by omega)
            obtain ⟨J, hJ, hJr, CJ⟩ := CJ W (by omega) (by omega)
            have HT0 := cutT_no' (way := 0) (ng := true) (hf := false) (rs := false) (K := K) (E := E) K W HWK.out (by simp [cutA]) (hno)
            have HT1 : Hid ((cutT 0 true false false K E).1 = -9223372036854775808 + J) := by rw [HT0, ← hJ]; simp [Hid]
            have HT2 : Hid ((cutT 0 true false false K E).2 = false) := by rw [HT0]; rfl
            clear hJ HT0
            clear hno
            go_wp2_with fail
            go_quiet (fail)
            go_wp2_with fail
            refine (CJ _).mono ?_
            rintro _ w3 ⟨rfl, hb3⟩
            go_wp2
            all_goals go_ret2
            all_goals exact ⟨ret_ib HT1.out.symm HT2.out.symm, bel_trans (bDrewN hbw _) hb3⟩
          have hg0 : decide (0 < W) = true := decide_eq_true (by omega)
          by_cases u1 : W < 4503599627370496
          · have hno : ¬ (4503599627370496 ≤ W ∧ 1024 < (blen W : Int) + E) := fun q => by omega
            have hg1 : decide (4503599627370496 ≤ W) = false := decide_eq_false (by omega)
            obtain ⟨J, hJ, hJr, CJ⟩ := CJ W (by omega) (by omega)
            have HT0 := cutT_no' (way := 0) (ng := true) (hf := false) (rs := false) (K := K) (E := E) K W HWK.out (by simp [cutA]) (hno)
            have HT1 : Hid ((cutT 0 true false false K E).1 = -9223372036854775808 + J) := by rw [HT0, ← hJ]; simp [Hid]
            have HT2 : Hid ((cutT 0 true false false K E).2 = false) := by rw [HT0]; rfl
            clear hJ HT0
            clear hno
            go_wp2_with fail
            go_quiet (fail)
            go_wp2_with fail
            refine (CJ _).mono ?_
            rintro _ w3 ⟨rfl, hb3⟩
            go_wp2
            all_goals go_ret2
            all_goals exact ⟨ret_ib HT1.out.symm HT2.out.symm, bel_trans (bDrewN hbw _) hb3⟩
          have HBO : Hid (∀ Wd, Calls Tryd.prog 88 #[.int .i64 W] Wd fun e w' => e = .returned (.int .i64 (blen W)) ∧ w' = Wd) := fun Wd => rbitsOf_any _ Wd (by omega) (by omega)
          have hg1 : decide (4503599627370496 ≤ W) = true := decide_eq_true (by omega)
          have hblu : blen W ≤ 60 := blen_le (by show _ < (1152921504606846976 : Int); omega)
          by_cases u2 : 1024 < (blen W : Int) + E
          · have HT0 := cutT_ov' (way := 0) (ng := true) (hf := false) (rs := false) (K := K) (E := E) K W HWK.out (by simp [cutA]) ⟨by omega, u2⟩
            have HT1 : Hid ((cutT 0 true false false K E).1 = (-4503599627370496)) := by rw [HT0]; rfl
            have HT2 : Hid ((cutT 0 true false false K E).2 = true) := by rw [HT0]; rfl
            clear HT0
            generalize blen W = bu at HBO hblu u2
            have hg2 : decide (1024 < (bu : Int) + E) = true := decide_eq_true u2
            go_wp2_with fail
            go_quiet ((go_at_call 88; exact Calls.quiet_of_same (HBO.out _)))
            go_wp2
            all_goals go_ret2
            all_goals exact ⟨ret_ib HT1.out.symm HT2.out.symm, bDrewN hbw _⟩
          · have hno : ¬ (4503599627370496 ≤ W ∧ 1024 < (blen W : Int) + E) := fun q => u2 q.2
            obtain ⟨J, hJ, hJr, CJ⟩ := CJ W (by omega) (by omega)
            have HT0 := cutT_no' (way := 0) (ng := true) (hf := false) (rs := false) (K := K) (E := E) K W HWK.out (by simp [cutA]) (hno)
            have HT1 : Hid ((cutT 0 true false false K E).1 = -9223372036854775808 + J) := by rw [HT0, ← hJ]; simp [Hid]
            have HT2 : Hid ((cutT 0 true false false K E).2 = false) := by rw [HT0]; rfl
            clear hJ HT0
            generalize blen W = bu at HBO hblu u2 hno
            have hg2 : decide (1024 < (bu : Int) + E) = false := decide_eq_false u2
            clear hno
            go_wp2_with fail
            go_quiet ((go_at_call 88; exact Calls.quiet_of_same (HBO.out _)))
            go_wp2_with fail
            refine (CJ _).mono ?_
            rintro _ w3 ⟨rfl, hb3⟩
            go_wp2
            all_goals go_ret2
            all_goals exact ⟨ret_ib HT1.out.symm HT2.out.symm, bel_trans (bDrewN hbw _) hb3⟩
        · by_cases hpar : K % 2 = 1
          · have hp1 : W % 2 = 1 := by have := HWK.out; omega
            have kk : Hid (((K + 1 : Nat) : Int) = W + 1) := by have := HWK.out; show _ = _; omega
            have hg0 : decide (0 < (W + 1)) = true := decide_eq_true (by omega)
            by_cases u1 : (W + 1) < 4503599627370496
            · have hno : ¬ (4503599627370496 ≤ (W + 1) ∧ 1024 < (blen (W + 1) : Int) + E) := fun q => by omega
              have hg1 : decide (4503599627370496 ≤ (W + 1)) = false := decide_eq_false (by omega)
              obtain ⟨J, hJ, hJr, CJ⟩ := CJ (W + 1) (by omega) (by omega)
              have HT0 := cutT_no' (way := 0) (ng := true) (hf := true) (rs := false) (K := K) (E := E) (K + 1) (W + 1) kk.out (by simp [cutA, hpar]) (hno)
              have HT1 : Hid ((cutT 0 true true false K E).1 = -9223372036854775808 + J) := by rw [HT0, ← hJ]; simp [Hid]
              have HT2 : Hid ((cutT 0 true true false K E).2 = true) := by rw [HT0]; rfl
              clear hJ HT0
              clear hno
              go_wp2_with fail
              go_quiet (fail)
              go_wp2_with fail
              refine (CJ _).mono ?_
              rintro _ w3 ⟨rfl, hb3⟩
              go_wp2
              all_goals go_ret2
              all_goals exact ⟨ret_ib HT1.out.symm HT2.out.symm, bel_trans (bDrewN hbw _) hb3⟩
            have HBO : Hid (∀ Wd, Calls Tryd.prog 88 #[.int .i64 (W + 1)] Wd fun e w' => e = .returned (.int .i64 (blen (W + 1))) ∧ w' = Wd) := fun Wd => rbitsOf_any _ Wd (by omega) (by omega)
            have hg1 : decide (4503599627370496 ≤ (W + 1)) = true := decide_eq_true (by omega)
            have hblu : blen (W + 1) ≤ 60 := blen_le (by show _ < (1152921504606846976 : Int); omega)
            by_cases u2 : 1024 < (blen (W + 1) : Int) + E
            · have HT0 := cutT_ov' (way := 0) (ng := true) (hf := true) (rs := false) (K := K) (E := E) (K + 1) (W + 1) kk.out (by simp [cutA, hpar]) ⟨by omega, u2⟩
              have HT1 : Hid ((cutT 0 true true false K E).1 = (-4503599627370496)) := by rw [HT0]; rfl
              have HT2 : Hid ((cutT 0 true true false K E).2 = true) := by rw [HT0]; rfl
              clear HT0
              generalize blen (W + 1) = bu at HBO hblu u2
              have hg2 : decide (1024 < (bu : Int) + E) = true := decide_eq_true u2
              go_wp2_with fail
              go_quiet ((go_at_call 88; exact Calls.quiet_of_same (HBO.out _)))
              go_wp2
              all_goals go_ret2
              all_goals exact ⟨ret_ib HT1.out.symm HT2.out.symm, bDrewN hbw _⟩
            · have hno : ¬ (4503599627370496 ≤ (W + 1) ∧ 1024 < (blen (W + 1) : Int) + E) := fun q => u2 q.2
              obtain ⟨J, hJ, hJr, CJ⟩ := CJ (W + 1) (by omega) (by omega)
              have HT0 := cutT_no' (way := 0) (ng := true) (hf := true) (rs := false) (K := K) (E := E) (K + 1) (W + 1) kk.out (by simp [cutA, hpar]) (hno)
              have HT1 : Hid ((cutT 0 true true false K E).1 = -9223372036854775808 + J) := by rw [HT0, ← hJ]; simp [Hid]
              have HT2 : Hid ((cutT 0 true true false K E).2 = true) := by rw [HT0]; rfl
              clear hJ HT0
              generalize blen (W + 1) = bu at HBO hblu u2 hno
              have hg2 : decide (1024 < (bu : Int) + E) = false := decide_eq_false u2
              clear hno
              go_wp2_with fail
              go_quiet ((go_at_call 88; exact Calls.quiet_of_same (HBO.out _)))
              go_wp2_with fail
              refine (CJ _).mono ?_
              rintro _ w3 ⟨rfl, hb3⟩
              go_wp2
              all_goals go_ret2
              all_goals exact ⟨ret_ib HT1.out.symm HT2.out.symm, bel_trans (bDrewN hbw _) hb3⟩
          · have hp1 : W % 2 = 0 := by have := HWK.out; omega
            by_cases u0 : W ≤ 0
            · have hno : ¬ (4503599627370496 ≤ W ∧ 1024 < (blen W : Int) + E) := fun q => by omega
              have hg0 : decide (0 < W) = false := decide_eq_false (by omega)
              obtain ⟨J, hJ, hJr, CJ⟩ := CJ W (by omega) (by omega)
              have HT0 := cutT_no' (way := 0) (ng := true) (hf := true) (rs := false) (K := K) (E := E) K W HWK.out (by simp [cutA, hpar]) (hno)
              have HT1 : Hid ((cutT 0 true true false K E).1 = -9223372036854775808 + J) := by rw [HT0, ← hJ]; simp [Hid]
              have HT2 : Hid ((cutT 0 true true false K E).2 = true) := by rw [HT0]; rfl
              clear hJ HT0
              clear hno
              go_wp2_with fail
              go_quiet (fail)
              go_wp2_with fail
              refine (CJ _).mono ?_
              rintro _ w3 ⟨rfl, hb3⟩
              go_wp2
              all_goals go_ret2
              all_goals exact ⟨ret_ib HT1.out.symm HT2.out.symm, bel_trans (bDrewN hbw _) hb3⟩
            have hg0 : decide (0 < W) = true := decide_eq_true (by omega)
            by_cases u1 : W < 4503599627370496
            · have hno : ¬ (4503599627370496 ≤ W ∧ 1024 < (blen W : Int) + E) := fun q => by omega
              have hg1 : decide (4503599627370496 ≤ W) = false := decide_eq_false (by omega)
              obtain ⟨J, hJ, hJr, CJ⟩ := CJ W (by omega) (by omega)
              have HT0 := cutT_no' (way := 0) (ng := true) (hf := true) (rs := false) (K := K) (E := E) K W HWK.out (by simp [cutA, hpar]) (hno)
              have HT1 : Hid ((cutT 0 true true false K E).1 = -9223372036854775808 + J) := by rw [HT0, ← hJ]; simp [Hid]
              have HT2 : Hid ((cutT 0 true true false K E).2 = true) := by rw [HT0]; rfl
              clear hJ HT0
              clear hno
              go_wp2_with fail
              go_quiet (fail)
              go_wp2_with fail
              refine (CJ _).mono ?_
              rintro _ w3 ⟨rfl, hb3⟩
              go_wp2
              all_goals go_ret2
              all_goals exact ⟨ret_ib HT1.out.symm HT2.out.symm, bel_trans (bDrewN hbw _) hb3⟩
            have HBO : Hid (∀ Wd, Calls Tryd.prog 88 #[.int .i64 W] Wd fun e w' => e = .returned (.int .i64 (blen W)) ∧ w' = Wd) := fun Wd => rbitsOf_any _ Wd (by omega) (by omega)
            have hg1 : decide (4503599627370496 ≤ W) = true := decide_eq_true (by omega)
            have hblu : blen W ≤ 60 := blen_le (by show _ < (1152921504606846976 : Int); omega)
            by_cases u2 : 1024 < (blen W : Int) + E
            · have HT0 := cutT_ov' (way := 0) (ng := true) (hf := true) (rs := false) (K := K) (E := E) K W HWK.out (by simp [cutA, hpar]) ⟨by omega, u2⟩
              have HT1 : Hid ((cutT 0 true true false K E).1 = (-4503599627370496)) := by rw [HT0]; rfl
              have HT2 : Hid ((cutT 0 true true false K E).2 = true) := by rw [HT0]; rfl
              clear HT0
              generalize blen W = bu at HBO hblu u2
              have hg2 : decide (1024 < (bu : Int) + E) = true := decide_eq_true u2
              go_wp2_with fail
              go_quiet ((go_at_call 88; exact Calls.quiet_of_same (HBO.out _)))
              go_wp2
              all_goals go_ret2
              all_goals exact ⟨ret_ib HT1.out.symm HT2.out.symm, bDrewN hbw _⟩
            · have hno : ¬ (4503599627370496 ≤ W ∧ 1024 < (blen W : Int) + E) := fun q => u2 q.2
              obtain ⟨J, hJ, hJr, CJ⟩ := CJ W (by omega) (by omega)
              have HT0 := cutT_no' (way := 0) (ng := true) (hf := true) (rs := false) (K := K) (E := E) K W HWK.out (by simp [cutA, hpar]) (hno)
              have HT1 : Hid ((cutT 0 true true false K E).1 = -9223372036854775808 + J) := by rw [HT0, ← hJ]; simp [Hid]
              have HT2 : Hid ((cutT 0 true true false K E).2 = true) := by rw [HT0]; rfl
              clear hJ HT0
              generalize blen W = bu at HBO hblu u2 hno
              have hg2 : decide (1024 < (bu : Int) + E) = false := decide_eq_false u2
              clear hno
              go_wp2_with fail
              go_quiet ((go_at_call 88; exact Calls.quiet_of_same (HBO.out _)))
              go_wp2_with fail
              refine (CJ _).mono ?_
              rintro _ w3 ⟨rfl, hb3⟩
              go_wp2
              all_goals go_ret2
              all_goals exact ⟨ret_ib HT1.out.symm HT2.out.symm, bel_trans (bDrewN hbw _) hb3⟩

  · have HN : Hid (Num w1 (.slice so sn sc) K) := hN1 (by omega)
    clear hN1 CL
    obtain ⟨ao', n', ca', dk, e1, hRk, hNk, hVk⟩ := HN.out
    simp only [Value.slice.injEq] at e1
    obtain ⟨rfl, rfl, rfl⟩ := e1
    have hmx := hRk.max
    have hle := hRk.le
    have HRk : Hid (Row w1 so sn sc dk) := hRk
    have HNk : Hid (Nrm dk sn) := hNk
    have HVk : Hid (val dk sn = K) := hVk
    have HV1 : Hid (val dk sn < 9223372036854775808) := by unfold Hid; omega
    clear hRk hNk hVk HN
    cases more
    · by_cases c1 : lw ≤ 1
      · have hrs := hr2 rfl c1
        subst hrs
        clear hr1 hr2 hr3
        go_wp2_with fail
        refine (CI _ HR1.out).mono ?_
        rintro _ w1 ⟨rfl, rfl⟩
        go_wp2_with fail
        go_loop [20, 21] (fun mv iv => ∃ (j : Nat) (W : Int), j ≤ sn ∧ iv = .int .i64 ((j : Int) - 1) ∧ mv = .int .i64 W ∧ 0 ≤ W ∧ Hid (W * P j + val dk j = val dk sn)) (fun _ iv => (intOf iv + 1).toNat)
        case atStart => exact ⟨sn, 0, Nat.le_refl _, rfl, rfl, by omega, by show _ = _; omega⟩
        case round =>
          obtain ⟨j, W, hj, rfl, rfl, hW0, HW⟩ := hrel
          by_cases hj0 : 0 < j
          · obtain ⟨m, rfl⟩ : ∃ m, j = m + 1 := ⟨j - 1, by omega⟩
            have em : ((m + 1 : Nat) : Int) - 1 = m := by omega
            obtain ⟨hb1, hb2⟩ := int_smallD (HNk.out.1.le hj) HW.out hW0 HV1.out
            have HB2' : Hid ((W * 1073741824 + dk m) * P m + val dk m = val dk sn) := hb2
            obtain ⟨ba, fa, hba, hblt, hca⟩ := HRk.out.spot (by omega)
            subst hba
            have c1 := hca m (by omega)
            have dm := HNk.out.1 m (by omega)
            rw [em]
            clear hb2 hca
            go_wp2
            go_round
            case rel => exact ⟨m, W * 1073741824 + dk m, by omega, rfl, rfl, by omega, HB2'.out⟩
            case measure => simp [intOf]; try omega
          · obtain rfl : j = 0 := by omega
            have HWK : Hid ((K : Int) = W) := by
              have h := HW.out
              rw [show P 0 = 1 from rfl, show val dk 0 = 0 from rfl, HVk.out] at h
              show _ = _
              omega
            have hW1 : W < 9007199254740992 := by have := HWK.out; omega
            clear hK
            clear HW HRk HNk HVk HV1
            cases hf
            · by_cases u0 : W ≤ 0
              · have hno : ¬ (4503599627370496 ≤ W ∧ 1024 < (blen W : Int) + E) := fun q => by omega
                have hg0 : decide (0 < W) = false := decide_eq_false (by omega)
                obtain ⟨J, hJ, hJr, CJ⟩ := CJ W (by omega) (by omega)
                have HT0 := cutT_no' (way := 0) (ng := true) (hf := false) (rs := false) (K := K) (E := E) K W HWK.out (by simp [cutA]) (hno)
                have HT1 : Hid ((cutT 0 true false false K E).1 = -9223372036854775808 + J) := by rw [HT0, ← hJ]; simp [Hid]
                have HT2 : Hid ((cutT 0 true false false K E).2 = false) := by rw [HT0]; rfl
                clear hJ HT0
                clear hno
                go_wp2_with fail
                go_quiet (fail)
                go_wp2_with fail
                refine (CJ _).mono ?_
                rintro _ w3 ⟨rfl, hb3⟩
                go_wp2
                all_goals go_ret2
                all_goals exact ⟨ret_ib HT1.out.symm HT2.out.symm, bel_trans (bDrewN hbw _) hb3⟩
              have hg0 : decide (0 < W) = true := decide_eq_true (by omega)
              by_cases u1 : W < 4503599627370496
              · have hno : ¬ (4503599627370496 ≤ W ∧ 1024 < (blen W : Int) + E) := fun q => by omega
                have hg1 : decide (4503599627370496 ≤ W) = false := decide_eq_false (by omega)
                obtain ⟨J, hJ, hJr, CJ⟩ := CJ W (by omega) (by omega)
                have HT0 := cutT_no' (way := 0) (ng := true) (hf := false) (rs := false) (K := K) (E := E) K W HWK.out (by simp [cutA]) (hno)
                have HT1 : Hid ((cutT 0 true false false K E).1 = -9223372036854775808 + J) := by rw [HT0, ← hJ]; simp [Hid]
                have HT2 : Hid ((cutT 0 true false false K E).2 = false) := by rw [HT0]; rfl
                clear hJ HT0
                clear hno
                go_wp2_with fail
                go_quiet (fail)
                go_wp2_with fail
                refine (CJ _).mono ?_
                rintro _ w3 ⟨rfl, hb3⟩
                go_wp2
                all_goals go_ret2
                all_goals exact ⟨ret_ib HT1.out.symm HT2.out.symm, bel_trans (bDrewN hbw _) hb3⟩
              have HBO : Hid (∀ Wd, Calls Tryd.prog 88 #[.int .i64 W] Wd fun e w' => e = .returned (.int .i64 (blen W)) ∧ w' = Wd) := fun Wd => rbitsOf_any _ Wd (by omega) (by omega)
              have hg1 : decide (4503599627370496 ≤ W) = true := decide_eq_true (by omega)
              have hblu : blen W ≤ 60 := blen_le (by show _ < (1152921504606846976 : Int); omega)
              by_cases u2 : 1024 < (blen W : Int) + E
              · have HT0 := cutT_ov' (way := 0) (ng := true) (hf := false) (rs := false) (K := K) (E := E) K W HWK.out (by simp [cutA]) ⟨by omega, u2⟩
                have HT1 : Hid ((cutT 0 true false false K E).1 = (-4503599627370496)) := by rw [HT0]; rfl
                have HT2 : Hid ((cutT 0 true false false K E).2 = true) := by rw [HT0]; rfl
                clear HT0
                generalize blen W = bu at HBO hblu u2
                have hg2 : decide (1024 < (bu : Int) + E) = true := decide_eq_true u2
                go_wp2_with fail
                go_quiet ((go_at_call 88; exact Calls.quiet_of_same (HBO.out _)))
                go_wp2
                all_goals go_ret2
                all_goals exact ⟨ret_ib HT1.out.symm HT2.out.symm, bDrewN hbw _⟩
              · have hno : ¬ (4503599627370496 ≤ W ∧ 1024 < (blen W : Int) + E) := fun q => u2 q.2
                obtain ⟨J, hJ, hJr, CJ⟩ := CJ W (by omega) (by omega)
                have HT0 := cutT_no' (way := 0) (ng := true) (hf := false) (rs := false) (K := K) (E := E) K W HWK.out (by simp [cutA]) (hno)
                have HT1 : Hid ((cutT 0 true false false K E).1 = -9223372036854775808 + J) := by rw [HT0, ← hJ]; simp [Hid]
                have HT2 : Hid ((cutT 0 true false false K E).2 = false) := by rw [HT0]; rfl
                clear hJ HT0
                generalize blen W = bu at HBO hblu u2 hno
                have hg2 : decide (1024 < (bu : Int) + E) = false := decide_eq_false u2
                clear hno
                go_wp2_with fail
                go_quiet ((go_at_call 88; exact Calls.quiet_of_same (HBO.out _)))
                go_wp2_with fail
                refine (CJ _).mono ?_
                rintro _ w3 ⟨rfl, hb3⟩
                go_wp2
                all_goals go_ret2
                all_goals exact ⟨ret_ib HT1.out.symm HT2.out.symm, bel_trans (bDrewN hbw _) hb3⟩
            · by_cases hpar : K % 2 = 1
              · have hp1 : W % 2 = 1 := by have := HWK.out; omega
                have kk : Hid (((K + 1 : Nat) : Int) = W + 1) := by have := HWK.out; show _ = _; omega
                have hg0 : decide (0 < (W + 1)) = true := decide_eq_true (by omega)
                by_cases u1 : (W + 1) < 4503599627370496
                · have hno : ¬ (4503599627370496 ≤ (W + 1) ∧ 1024 < (blen (W + 1) : Int) + E) := fun q => by omega
                  have hg1 : decide (4503599627370496 ≤ (W + 1)) = false := decide_eq_false (by omega)
                  obtain ⟨J, hJ, hJr, CJ⟩ := CJ (W + 1) (by omega) (by omega)
                  have HT0 := cutT_no' (way := 0) (ng := true) (hf := true) (rs := false) (K := K) (E := E) (K + 1) (W + 1) kk.out (by simp [cutA, hpar]) (hno)
                  have HT1 : Hid ((cutT 0 true true false K E).1 = -9223372036854775808 + J) := by rw [HT0, ← hJ]; simp [Hid]
                  have HT2 : Hid ((cutT 0 true true false K E).2 = true) := by rw [HT0]; rfl
                  clear hJ HT0
                  clear hno
                  go_wp2_with fail
                  go_quiet (fail)
                  go_wp2_with fail
                  refine (CJ _).mono ?_
                  rintro _ w3 ⟨rfl, hb3⟩
                  go_wp2
                  all_goals go_ret2
                  all_goals exact ⟨ret_ib HT1.out.symm HT2.out.symm, bel_trans (bDrewN hbw _) hb3⟩
                have HBO : Hid (∀ Wd, Calls Tryd.prog 88 #[.int .i64 (W + 1)] Wd fun e w' => e = .returned (.int .i64 (blen (W + 1))) ∧ w' = Wd) := fun Wd => rbitsOf_any _ Wd (by omega) (by omega)
                have hg1 : decide (4503599627370496 ≤ (W + 1)) = true := decide_eq_true (by omega)
                have hblu : blen (W + 1) ≤ 60 := blen_le (by show _ < (1152921504606846976 : Int); omega)
                by_cases u2 : 1024 < (blen (W + 1) : Int) + E
                · have HT0 := cutT_ov' (way := 0) (ng := true) (hf := true) (rs := false) (K := K) (E := E) (K + 1) (W + 1) kk.out (by simp [cutA, hpar]) ⟨by omega, u2⟩
                  have HT1 : Hid ((cutT 0 true true false K E).1 = (-4503599627370496)) := by rw [HT0]; rfl
                  have HT2 : Hid ((cutT 0 true true false K E).2 = true) := by rw [HT0]; rfl
                  clear HT0
                  generalize blen (W + 1) = bu at HBO hblu u2
                  have hg2 : decide (1024 < (bu : Int) + E) = true := decide_eq_true u2
                  go_wp2_with fail
                  go_quiet ((go_at_call 88; exact Calls.quiet_of_same (HBO.out _)))
                  go_wp2
                  all_goals go_ret2
                  all_goals exact ⟨ret_ib HT1.out.symm HT2.out.symm, bDrewN hbw _⟩
                · have hno : ¬ (4503599627370496 ≤ (W + 1) ∧ 1024 < (blen (W + 1) : Int) + E) := fun q => u2 q.2
                  obtain ⟨J, hJ, hJr, CJ⟩ := CJ (W + 1) (by omega) (by omega)
                  have HT0 := cutT_no' (way := 0) (ng := true) (hf := true) (rs := false) (K := K) (E := E) (K + 1) (W + 1) kk.out (by simp [cutA, hpar]) (hno)
                  have HT1 : Hid ((cutT 0 true true false K E).1 = -9223372036854775808 + J) := by rw [HT0, ← hJ]; simp [Hid]
                  have HT2 : Hid ((cutT 0 true true false K E).2 = true) := by rw [HT0]; rfl
                  clear hJ HT0
                  generalize blen (W + 1) = bu at HBO hblu u2 hno
                  have hg2 : decide (1024 < (bu : Int) + E) = false := decide_eq_false u2
                  clear hno
                  go_wp2_with fail
                  go_quiet ((go_at_call 88; exact Calls.quiet_of_same (HBO.out _)))
                  go_wp2_with fail
                  refine (CJ _).mono ?_
                  rintro _ w3 ⟨rfl, hb3⟩
                  go_wp2
                  all_goals go_ret2
                  all_goals exact ⟨ret_ib HT1.out.symm HT2.out.symm, bel_trans (bDrewN hbw _) hb3⟩
              · have hp1 : W % 2 = 0 := by have := HWK.out; omega
                by_cases u0 : W ≤ 0
                · have hno : ¬ (4503599627370496 ≤ W ∧ 1024 < (blen W : Int) + E) := fun q => by omega
                  have hg0 : decide (0 < W) = false := decide_eq_false (by omega)
                  obtain ⟨J, hJ, hJr, CJ⟩ := CJ W (by omega) (by omega)
                  have HT0 := cutT_no' (way := 0) (ng := true) (hf := true) (rs := false) (K := K) (E := E) K W HWK.out (by simp [cutA, hpar]) (hno)
                  have HT1 : Hid ((cutT 0 true true false K E).1 = -9223372036854775808 + J) := by rw [HT0, ← hJ]; simp [Hid]
                  have HT2 : Hid ((cutT 0 true true false K E).2 = true) := by rw [HT0]; rfl
                  clear hJ HT0
                  clear hno
                  go_wp2_with fail
                  go_quiet (fail)
                  go_wp2_with fail
                  refine (CJ _).mono ?_
                  rintro _ w3 ⟨rfl, hb3⟩
                  go_wp2
                  all_goals go_ret2
                  all_goals exact ⟨ret_ib HT1.out.symm HT2.out.symm, bel_trans (bDrewN hbw _) hb3⟩
                have hg0 : decide (0 < W) = true := decide_eq_true (by omega)
                by_cases u1 : W < 4503599627370496
                · have hno : ¬ (4503599627370496 ≤ W ∧ 1024 < (blen W : Int) + E) := fun q => by omega
                  have hg1 : decide (4503599627370496 ≤ W) = false := decide_eq_false (by omega)
                  obtain ⟨J, hJ, hJr, CJ⟩ := CJ W (by omega) (by omega)
                  have HT0 := cutT_no' (way := 0) (ng := true) (hf := true) (rs := false) (K := K) (E := E) K W HWK.out (by simp [cutA, hpar]) (hno)
                  have HT1 : Hid ((cutT 0 true true false K E).1 = -9223372036854775808 + J) := by rw [HT0, ← hJ]; simp [Hid]
                  have HT2 : Hid ((cutT 0 true true false K E).2 = true) := by rw [HT0]; rfl
                  clear hJ HT0
                  clear hno
                  go_wp2_with fail
                  go_quiet (fail)
                  go_wp2_with fail
                  refine (CJ _).mono ?_
                  rintro _ w3 ⟨rfl, hb3⟩
                  go_wp2
                  all_goals go_ret2
                  all_goals exact ⟨ret_ib HT1.out.symm HT2.out.symm, bel_trans (bDrewN hbw _) hb3⟩
                have HBO : Hid (∀ Wd, Calls Tryd.prog 88 #[.int .i64 W] Wd fun e w' => e = .returned (.int .i64 (blen W)) ∧ w' = Wd) := fun Wd => rbitsOf_any _ Wd (by omega) (by omega)
                have hg1 : decide (4503599627370496 ≤ W) = true := decide_eq_true (by omega)
                have hblu : blen W ≤ 60 := blen_le (by show _ < (1152921504606846976 : Int); omega)
                by_cases u2 : 1024 < (blen W : Int) + E
                · have HT0 := cutT_ov' (way := 0) (ng := true) (hf := true) (rs := false) (K := K) (E := E) K W HWK.out (by simp [cutA, hpar]) ⟨by omega, u2⟩
                  have HT1 : Hid ((cutT 0 true true false K E).1 = (-4503599627370496)) := by rw [HT0]; rfl
                  have HT2 : Hid ((cutT 0 true true false K E).2 = true) := by rw [HT0]; rfl
                  clear HT0
                  generalize blen W = bu at HBO hblu u2
                  have hg2 : decide (1024 < (bu : Int) + E) = true := decide_eq_true u2
                  go_wp2_with fail
                  go_quiet ((go_at_call 88; exact Calls.quiet_of_same (HBO.out _)))
                  go_wp2
                  all_goals go_ret2
                  all_goals exact ⟨ret_ib HT1.out.symm HT2.out.symm, bDrewN hbw _⟩
                · have hno : ¬ (4503599627370496 ≤ W ∧ 1024 < (blen W : Int) + E) := fun q => u2 q.2
                  obtain ⟨J, hJ, hJr, CJ⟩ := CJ W (by omega) (by omega)
                  have HT0 := cutT_no' (way := 0) (ng := true) (hf := true) (rs := false) (K := K) (E := E) K W HWK.out (by simp [cutA, hpar]) (hno)
                  have HT1 : Hid ((cutT 0 true true false K E).1 = -9223372036854775808 + J) := by rw [HT0, ← hJ]; simp [Hid]
                  have HT2 : Hid ((cutT 0 true true false K E).2 = true) := by rw [HT0]; rfl
                  clear hJ HT0
                  generalize blen W = bu at HBO hblu u2 hno
                  have hg2 : decide (1024 < (bu : Int) + E) = false := decide_eq_false u2
                  clear hno
                  go_wp2_with fail
                  go_quiet ((go_at_call 88; exact Calls.quiet_of_same (HBO.out _)))
                  go_wp2_with fail
                  refine (CJ _).mono ?_
                  rintro _ w3 ⟨rfl, hb3⟩
                  go_wp2
                  all_goals go_ret2
                  all_goals exact ⟨ret_ib HT1.out.symm HT2.out.symm, bel_trans (bDrewN hbw _) hb3⟩

      · have hrs := hr3 rfl (by omega)
        by_cases c2 : l < lw - 1
        · rw [decide_eq_true c2] at hrs
          subst hrs
          clear hr1 hr2 hr3
          go_wp2_with fail
          refine (CI _ HR1.out).mono ?_
          rintro _ w1 ⟨rfl, rfl⟩
          go_wp2_with fail
          refine (CW _ HR1.out).mono ?_
          rintro _ w1 ⟨rfl, rfl⟩
          go_wp2_with fail
          refine (CW _ HR1.out).mono ?_
          rintro _ w1 ⟨rfl, rfl⟩
          go_wp2_with fail
          go_loop [20, 21] (fun mv iv => ∃ (j : Nat) (W : Int), j ≤ sn ∧ iv = .int .i64 ((j : Int) - 1) ∧ mv = .int .i64 W ∧ 0 ≤ W ∧ Hid (W * P j + val dk j = val dk sn)) (fun _ iv => (intOf iv + 1).toNat)
          case atStart => exact ⟨sn, 0, Nat.le_refl _, rfl, rfl, by omega, by show _ = _; omega⟩
          case round =>
            obtain ⟨j, W, hj, rfl, rfl, hW0, HW⟩ := hrel
            by_cases hj0 : 0 < j
            · obtain ⟨m, rfl⟩ : ∃ m, j = m + 1 := ⟨j - 1, by omega⟩
              have em : ((m + 1 : Nat) : Int) - 1 = m := by omega
              obtain ⟨hb1, hb2⟩ := int_smallD (HNk.out.1.le hj) HW.out hW0 HV1.out
              have HB2' : Hid ((W * 1073741824 + dk m) * P m + val dk m = val dk sn) := hb2
              obtain ⟨ba, fa, hba, hblt, hca⟩ := HRk.out.spot (by omega)
              subst hba
              have c1 := hca m (by omega)
              have dm := HNk.out.1 m (by omega)
              rw [em]
              clear hb2 hca
              go_wp2
              go_round
              case rel => exact ⟨m, W * 1073741824 + dk m, by omega, rfl, rfl, by omega, HB2'.out⟩
              case measure => simp [intOf]; try omega
            · obtain rfl : j = 0 := by omega
              have HWK : Hid ((K : Int) = W) := by
                have h := HW.out
                rw [show P 0 = 1 from rfl, show val dk 0 = 0 from rfl, HVk.out] at h
                show _ = _
                omega
              have hW1 : W < 9007199254740992 := by have := HWK.out; omega
              clear hK
              clear HW HRk HNk HVk HV1
              cases hf
              · by_cases u0 : W ≤ 0
                · have hno : ¬ (4503599627370496 ≤ W ∧ 1024 < (blen W : Int) + E) := fun q => by omega
                  have hg0 : decide (0 < W) = false := decide_eq_false (by omega)
                  obtain ⟨J, hJ, hJr, CJ⟩ := CJ W (by omega) (by omega)
                  have HT0 := cutT_no' (way := 0) (ng := true) (hf := false) (rs := true) (K := K) (E := E) K W HWK.out (by simp [cutA]) (hno)
                  have HT1 : Hid ((cutT 0 true false true K E).1 = -9223372036854775808 + J) := by rw [HT0, ← hJ]; simp [Hid]
                  have HT2 : Hid ((cutT 0 true false true K E).2 = true) := by rw [HT0]; rfl
                  clear hJ HT0
                  clear hno
                  go_wp2_with fail
                  go_quiet (fail)
                  go_wp2_with fail
                  refine (CJ _).mono ?_
                  rintro _ w3 ⟨rfl, hb3⟩
                  go_wp2
                  all_goals go_ret2
                  all_goals exact ⟨ret_ib HT1.out.symm HT2.out.symm, bel_trans (bDrewN hbw _) hb3⟩
                have hg0 : decide (0 < W) = true := decide_eq_true (by omega)
                by_cases u1 : W < 4503599627370496
                · have hno : ¬ (4503599627370496 ≤ W ∧ 1024 < (blen W : Int) + E) := fun q => by omega
                  have hg1 : decide (4503599627370496 ≤ W) = false := decide_eq_false (by omega)
                  obtain ⟨J, hJ, hJr, CJ⟩ := CJ W (by omega) (by omega)
                  have HT0 := cutT_no' (way := 0) (ng := true) (hf := false) (rs := true) (K := K) (E := E) K W HWK.out (by simp [cutA]) (hno)
                  have HT1 : Hid ((cutT 0 true false true K E).1 = -9223372036854775808 + J) := by rw [HT0, ← hJ]; simp [Hid]
                  have HT2 : Hid ((cutT 0 true false true K E).2 = true) := by rw [HT0]; rfl
                  clear hJ HT0
                  clear hno
                  go_wp2_with fail
                  go_quiet (fail)
                  go_wp2_with fail
                  refine (CJ _).mono ?_
                  rintro _ w3 ⟨rfl, hb3⟩
                  go_wp2
                  all_goals go_ret2
                  all_goals exact ⟨ret_ib HT1.out.symm HT2.out.symm, bel_trans (bDrewN hbw _) hb3⟩
                have HBO : Hid (∀ Wd, Calls Tryd.prog 88 #[.int .i64 W] Wd fun e w' => e = .returned (.int .i64 (blen W)) ∧ w' = Wd) := fun Wd => rbitsOf_any _ Wd (by omega) (by omega)
                have hg1 : decide (4503599627370496 ≤ W) = true := decide_eq_true (by omega)
                have hblu : blen W ≤ 60 := blen_le (by show _ < (1152921504606846976 : Int); omega)
                by_cases u2 : 1024 < (blen W : Int) + E
                · have HT0 := cutT_ov' (way := 0) (ng := true) (hf := false) (rs := true) (K := K) (E := E) K W HWK.out (by simp [cutA]) ⟨by omega, u2⟩
                  have HT1 : Hid ((cutT 0 true false true K E).1 = (-4503599627370496)) := by rw [HT0]; rfl
                  have HT2 : Hid ((cutT 0 true false true K E).2 = true) := by rw [HT0]; rfl
                  clear HT0
                  generalize blen W = bu at HBO hblu u2
                  have hg2 : decide (1024 < (bu : Int) + E) = true := decide_eq_true u2
                  go_wp2_with fail
                  go_quiet ((go_at_call 88; exact Calls.quiet_of_same (HBO.out _)))
                  go_wp2
                  all_goals go_ret2
                  all_goals exact ⟨ret_ib HT1.out.symm HT2.out.symm, bDrewN hbw _⟩
                · have hno : ¬ (4503599627370496 ≤ W ∧ 1024 < (blen W : Int) + E) := fun q => u2 q.2
                  obtain ⟨J, hJ, hJr, CJ⟩ := CJ W (by omega) (by omega)
                  have HT0 := cutT_no' (way := 0) (ng := true) (hf := false) (rs := true) (K := K) (E := E) K W HWK.out (by simp [cutA]) (hno)
                  have HT1 : Hid ((cutT 0 true false true K E).1 = -9223372036854775808 + J) := by rw [HT0, ← hJ]; simp [Hid]
                  have HT2 : Hid ((cutT 0 true false true K E).2 = true) := by rw [HT0]; rfl
                  clear hJ HT0
                  generalize blen W = bu at HBO hblu u2 hno
                  have hg2 : decide (1024 < (bu : Int) + E) = false := decide_eq_false u2
                  clear hno
                  go_wp2_with fail
                  go_quiet ((go_at_call 88; exact Calls.quiet_of_same (HBO.out _)))
                  go_wp2_with fail
                  refine (CJ _).mono ?_
                  rintro _ w3 ⟨rfl, hb3⟩
                  go_wp2
                  all_goals go_ret2
                  all_goals exact ⟨ret_ib HT1.out.symm HT2.out.symm, bel_trans (bDrewN hbw _) hb3⟩
              · have kk : Hid (((K + 1 : Nat) : Int) = W + 1) := by have := HWK.out; show _ = _; omega
                have hg0 : decide (0 < (W + 1)) = true := decide_eq_true (by omega)
                by_cases u1 : (W + 1) < 4503599627370496
                · have hno : ¬ (4503599627370496 ≤ (W + 1) ∧ 1024 < (blen (W + 1) : Int) + E) := fun q => by omega
                  have hg1 : decide (4503599627370496 ≤ (W + 1)) = false := decide_eq_false (by omega)
                  obtain ⟨J, hJ, hJr, CJ⟩ := CJ (W + 1) (by omega) (by omega)
                  have HT0 := cutT_no' (way := 0) (ng := true) (hf := true) (rs := true) (K := K) (E := E) (K + 1) (W + 1) kk.out (by simp [cutA]) (hno)
                  have HT1 : Hid ((cutT 0 true true true K E).1 = -9223372036854775808 + J) := by rw [HT0, ← hJ]; simp [Hid]
                  have HT2 : Hid ((cutT 0 true true true K E).2 = true) := by rw [HT0]; rfl
                  clear hJ HT0
                  clear hno
                  go_wp2_with fail
                  go_quiet (fail)
                  go_wp2_with fail
                  refine (CJ _).mono ?_
                  rintro _ w3 ⟨rfl, hb3⟩
                  go_wp2
                  all_goals go_ret2
                  all_goals exact ⟨ret_ib HT1.out.symm HT2.out.symm, bel_trans (bDrewN hbw _) hb3⟩
                have HBO : Hid (∀ Wd, Calls Tryd.prog 88 #[.int .i64 (W + 1)] Wd fun e w' => e = .returned (.int .i64 (blen (W + 1))) ∧ w' = Wd) := fun Wd => rbitsOf_any _ Wd (by omega) (by omega)
                have hg1 : decide (4503599627370496 ≤ (W + 1)) = true := decide_eq_true (by omega)
                have hblu : blen (W + 1) ≤ 60 := blen_le (by show _ < (1152921504606846976 : Int); omega)
                by_cases u2 : 1024 < (blen (W + 1) : Int) + E
                · have HT0 := cutT_ov' (way := 0) (ng := true) (hf := true) (rs := true) (K := K) (E := E) (K + 1) (W + 1) kk.out (by simp [cutA]) ⟨by omega, u2⟩
                  have HT1 : Hid ((cutT 0 true true true K E).1 = (-4503599627370496)) := by rw [HT0]; rfl
                  have HT2 : Hid ((cutT 0 true true true K E).2 = true) := by rw [HT0]; rfl
                  clear HT0
                  generalize blen (W + 1) = bu at HBO hblu u2
                  have hg2 : decide (1024 < (bu : Int) + E) = true := decide_eq_true u2
                  go_wp2_with fail
                  go_quiet ((go_at_call 88; exact Calls.quiet_of_same (HBO.out _)))
                  go_wp2
                  all_goals go_ret2
                  all_goals exact ⟨ret_ib HT1.out.symm HT2.out.symm, bDrewN hbw _⟩
                · have hno : ¬ (4503599627370496 ≤ (W + 1) ∧ 1024 < (blen (W + 1) : Int) + E) := fun q => u2 q.2
                  obtain ⟨J, hJ, hJr, CJ⟩ := CJ (W + 1) (by omega) (by omega)
                  have HT0 := cutT_no' (way := 0) (ng := true) (hf := true) (rs := true) (K := K) (E := E) (K + 1) (W + 1) kk.out (by simp [cutA]) (hno)
                  have HT1 : Hid ((cutT 0 true true true K E).1 = -9223372036854775808 + J) := by rw [HT0, ← hJ]; simp [Hid]
                  have HT2 : Hid ((cutT 0 true true true K E).2 = true) := by rw [HT0]; rfl
                  clear hJ HT0
                  generalize blen (W + 1) = bu at HBO hblu u2 hno
                  have hg2 : decide (1024 < (bu : Int) + E) = false := decide_eq_false u2
                  clear hno
                  go_wp2_with fail
                  go_quiet ((go_at_call 88; exact Calls.quiet_of_same (HBO.out _)))
                  go_wp2_with fail
                  refine (CJ _).mono ?_
                  rintro _ w3 ⟨rfl, hb3⟩
                  go_wp2
                  all_goals go_ret2
                  all_goals exact ⟨ret_ib HT1.out.symm HT2.out.symm, bel_trans (bDrewN hbw _) hb3⟩

        · have hc2 : decide (l < lw - 1) = false := decide_eq_false c2
          rw [hc2] at hrs
          subst hrs
          clear hr1 hr2 hr3
          go_wp2_with fail
          refine (CI _ HR1.out).mono ?_
          rintro _ w1 ⟨rfl, rfl⟩
          go_wp2_with fail
          refine (CW _ HR1.out).mono ?_
          rintro _ w1 ⟨rfl, rfl⟩
          go_wp2_with fail
          refine (CW _ HR1.out).mono ?_
          rintro _ w1 ⟨rfl, rfl⟩
          go_wp2_with fail
          go_loop [20, 21] (fun mv iv => ∃ (j : Nat) (W : Int), j ≤ sn ∧ iv = .int .i64 ((j : Int) - 1) ∧ mv = .int .i64 W ∧ 0 ≤ W ∧ Hid (W * P j + val dk j = val dk sn)) (fun _ iv => (intOf iv + 1).toNat)
          case atStart => exact ⟨sn, 0, Nat.le_refl _, rfl, rfl, by omega, by show _ = _; omega⟩
          case round =>
            obtain ⟨j, W, hj, rfl, rfl, hW0, HW⟩ := hrel
            by_cases hj0 : 0 < j
            · obtain ⟨m, rfl⟩ : ∃ m, j = m + 1 := ⟨j - 1, by omega⟩
              have em : ((m + 1 : Nat) : Int) - 1 = m := by omega
              obtain ⟨hb1, hb2⟩ := int_smallD (HNk.out.1.le hj) HW.out hW0 HV1.out
              have HB2' : Hid ((W * 1073741824 + dk m) * P m + val dk m = val dk sn) := hb2
              obtain ⟨ba, fa, hba, hblt, hca⟩ := HRk.out.spot (by omega)
              subst hba
              have c1 := hca m (by omega)
              have dm := HNk.out.1 m (by omega)
              rw [em]
              clear hb2 hca
              go_wp2
              go_round
              case rel => exact ⟨m, W * 1073741824 + dk m, by omega, rfl, rfl, by omega, HB2'.out⟩
              case measure => simp [intOf]; try omega
            · obtain rfl : j = 0 := by omega
              have HWK : Hid ((K : Int) = W) := by
                have h := HW.out
                rw [show P 0 = 1 from rfl, show val dk 0 = 0 from rfl, HVk.out] at h
                show _ = _
                omega
              have hW1 : W < 9007199254740992 := by have := HWK.out; omega
              clear hK
              clear HW HRk HNk HVk HV1
              cases hf
              · by_cases u0 : W ≤ 0
                · have hno : ¬ (4503599627370496 ≤ W ∧ 1024 < (blen W : Int) + E) := fun q => by omega
                  have hg0 : decide (0 < W) = false := decide_eq_false (by omega)
                  obtain ⟨J, hJ, hJr, CJ⟩ := CJ W (by omega) (by omega)
                  have HT0 := cutT_no' (way := 0) (ng := true) (hf := false) (rs := false) (K := K) (E := E) K W HWK.out (by simp [cutA]) (hno)
                  have HT1 : Hid ((cutT 0 true false false K E).1 = -9223372036854775808 + J) := by rw [HT0, ← hJ]; simp [Hid]
                  have HT2 : Hid ((cutT 0 true false false K E).2 = false) := by rw [HT0]; rfl
                  clear hJ HT0
                  clear hno
                  go_wp2_with fail
                  go_quiet (fail)
                  go_wp2_with fail
                  refine (CJ _).mono ?_
                  rintro _ w3 ⟨rfl, hb3⟩
                  go_wp2
                  all_goals go_ret2
                  all_goals exact ⟨ret_ib HT1.out.symm HT2.out.symm, bel_trans (bDrewN hbw _) hb3⟩
                have hg0 : decide (0 < W) = true := decide_eq_true (by omega)
                by_cases u1 : W < 4503599627370496
                · have hno : ¬ (4503599627370496 ≤ W ∧ 1024 < (blen W : Int) + E) := fun q => by omega
                  have hg1 : decide (4503599627370496 ≤ W) = false := decide_eq_false (by omega)
                  obtain ⟨J, hJ, hJr, CJ⟩ := CJ W (by omega) (by omega)
                  have HT0 := cutT_no' (way := 0) (ng := true) (hf := false) (rs := false) (K := K) (E := E) K W HWK.out (by simp [cutA]) (hno)
                  have HT1 : Hid ((cutT 0 true false false K E).1 = -9223372036854775808 + J) := by rw [HT0, ← hJ]; simp [Hid]
                  have HT2 : Hid ((cutT 0 true false false K E).2 = false) := by rw [HT0]; rfl
                  clear hJ HT0
                  clear hno
                  go_wp2_with fail
                  go_quiet (fail)
                  go_wp2_with fail
                  refine (CJ _).mono ?_
                  rintro _ w3 ⟨rfl, hb3⟩
                  go_wp2
                  all_goals go_ret2
                  all_goals exact ⟨ret_ib HT1.out.symm HT2.out.symm, bel_trans (bDrewN hbw _) hb3⟩
                have HBO : Hid (∀ Wd, Calls Tryd.prog 88 #[.int .i64 W] Wd fun e w' => e = .returned (.int .i64 (blen W)) ∧ w' = Wd) := fun Wd => rbitsOf_any _ Wd (by omega) (by omega)
                have hg1 : decide (4503599627370496 ≤ W) = true := decide_eq_true (by omega)
                have hblu : blen W ≤ 60 := blen_le (by show _ < (1152921504606846976 : Int); omega)
                by_cases u2 : 1024 < (blen W : Int) + E
                · have HT0 := cutT_ov' (way := 0) (ng := true) (hf := false) (rs := false) (K := K) (E := E) K W HWK.out (by simp [cutA]) ⟨by omega, u2⟩
                  have HT1 : Hid ((cutT 0 true false false K E).1 = (-4503599627370496)) := by rw [HT0]; rfl
                  have HT2 : Hid ((cutT 0 true false false K E).2 = true) := by rw [HT0]; rfl
                  clear HT0
                  generalize blen W = bu at HBO hblu u2
                  have hg2 : decide (1024 < (bu : Int) + E) = true := decide_eq_true u2
                  go_wp2_with fail
                  go_quiet ((go_at_call 88; exact Calls.quiet_of_same (HBO.out _)))
                  go_wp2
                  all_goals go_ret2
                  all_goals exact ⟨ret_ib HT1.out.symm HT2.out.symm, bDrewN hbw _⟩
                · have hno : ¬ (4503599627370496 ≤ W ∧ 1024 < (blen W : Int) + E) := fun q => u2 q.2
                  obtain ⟨J, hJ, hJr, CJ⟩ := CJ W (by omega) (by omega)
                  have HT0 := cutT_no' (way := 0) (ng := true) (hf := false) (rs := false) (K := K) (E := E) K W HWK.out (by simp [cutA]) (hno)
                  have HT1 : Hid ((cutT 0 true false false K E).1 = -9223372036854775808 + J) := by rw [HT0, ← hJ]; simp [Hid]
                  have HT2 : Hid ((cutT 0 true false false K E).2 = false) := by rw [HT0]; rfl
                  clear hJ HT0
                  generalize blen W = bu at HBO hblu u2 hno
                  have hg2 : decide (1024 < (bu : Int) + E) = false := decide_eq_false u2
                  clear hno
                  go_wp2_with fail
                  go_quiet ((go_at_call 88; exact Calls.quiet_of_same (HBO.out _)))
                  go_wp2_with fail
                  refine (CJ _).mono ?_
                  rintro _ w3 ⟨rfl, hb3⟩
                  go_wp2
                  all_goals go_ret2
                  all_goals exact ⟨ret_ib HT1.out.symm HT2.out.symm, bel_trans (bDrewN hbw _) hb3⟩
              · by_cases hpar : K % 2 = 1
                · have hp1 : W % 2 = 1 := by have := HWK.out; omega
                  have kk : Hid (((K + 1 : Nat) : Int) = W + 1) := by have := HWK.out; show _ = _; omega
                  have hg0 : decide (0 < (W + 1)) = true := decide_eq_true (by omega)
                  by_cases u1 : (W + 1) < 4503599627370496
                  · have hno : ¬ (4503599627370496 ≤ (W + 1) ∧ 1024 < (blen (W + 1) : Int) + E) := fun q => by omega
                    have hg1 : decide (4503599627370496 ≤ (W + 1)) = false := decide_eq_false (by omega)
                    obtain ⟨J, hJ, hJr, CJ⟩ := CJ (W + 1) (by omega) (by omega)
                    have HT0 := cutT_no' (way := 0) (ng := true) (hf := true) (rs := false) (K := K) (E := E) (K + 1) (W + 1) kk.out (by simp [cutA, hpar]) (hno)
                    have HT1 : Hid ((cutT 0 true true false K E).1 = -9223372036854775808 + J) := by rw [HT0, ← hJ]; simp [Hid]
                    have HT2 : Hid ((cutT 0 true true false K E).2 = true) := by rw [HT0]; rfl
                    clear hJ HT0
                    clear hno
                    go_wp2_with fail
                    go_quiet (fail)
                    go_wp2_with fail
                    refine (CJ _).mono ?_
                    rintro _ w3 ⟨rfl, hb3⟩
                    go_wp2
                    all_goals go_ret2
                    all_goals exact ⟨ret_ib HT1.out.symm HT2.out.symm, bel_trans (bDrewN hbw _) hb3⟩
                  have HBO : Hid (∀ Wd, Calls Tryd.prog 88 #[.int .i64 (W + 1)] Wd fun e w' => e = .returned (.int .i64 (blen (W + 1))) ∧ w' = Wd) := fun Wd => rbitsOf_any _ Wd (by omega) (by omega)
                  have hg1 : decide (4503599627370496 ≤ (W + 1)) = true := decide_eq_true (by omega)
                  have hblu : blen (W + 1) ≤ 60 := blen_le (by show _ < (1152921504606846976 : Int); omega)
                  by_cases u2 : 1024 < (blen (W + 1) : Int) + E
                  · have HT0 := cutT_ov' (way := 0) (ng := true) (hf := true) (rs := false) (K := K) (E := E) (K + 1) (W + 1) kk.out (by simp [cutA, hpar]) ⟨by omega, u2⟩
                    have HT1 : Hid ((cutT 0 true true false K E).1 = (-4503599627370496)) := by rw [HT0]; rfl
                    have HT2 : Hid ((cutT 0 true true false K E).2 = true) := by rw [HT0]; rfl
                    clear HT0
                    generalize blen (W + 1) = bu at HBO hblu u2
                    have hg2 : decide (1024 < (bu : Int) + E) = true := decide_eq_true u2
                    go_wp2_with fail
                    go_quiet ((go_at_call 88; exact Calls.quiet_of_same (HBO.out _)))
                    go_wp2
                    all_goals go_ret2
                    all_goals exact ⟨ret_ib HT1.out.symm HT2.out.symm, bDrewN hbw _⟩
                  · have hno : ¬ (4503599627370496 ≤ (W + 1) ∧ 1024 < (blen (W + 1) : Int) + E) := fun q => u2 q.2
                    obtain ⟨J, hJ, hJr, CJ⟩ := CJ (W + 1) (by omega) (by omega)
                    have HT0 := cutT_no' (way := 0) (ng := true) (hf := true) (rs := false) (K := K) (E := E) (K + 1) (W + 1) kk.out (by simp [cutA, hpar]) (hno)
                    have HT1 : Hid ((cutT 0 true true false K E).1 = -9223372036854775808 + J) := by rw [HT0, ← hJ]; simp [Hid]
                    have HT2 : Hid ((cutT 0 true true false K E).2 = true) := by rw [HT0]; rfl
                    clear hJ HT0
                    generalize blen (W + 1) = bu at HBO hblu u2 hno
                    have hg2 : decide (1024 < (bu : Int) + E) = false := decide_eq_false u2
                    clear hno
                    go_wp2_with fail
                    go_quiet ((go_at_call 88; exact Calls.quiet_of_same (HBO.out _)))
                    go_wp2_with fail
                    refine (CJ _).mono ?_
                    rintro _ w3 ⟨rfl, hb3⟩
                    go_wp2
                    all_goals go_ret2
                    all_goals exact ⟨ret_ib HT1.out.symm HT2.out.symm, bel_trans (bDrewN hbw _) hb3⟩
                · have hp1 : W % 2 = 0 := by have := HWK.out; omega
                  by_cases u0 : W ≤ 0
                  · have hno : ¬ (4503599627370496 ≤ W ∧ 1024 < (blen W : Int) + E) := fun q => by omega
                    have hg0 : decide (0 < W) = false := decide_eq_false (by omega)
                    obtain ⟨J, hJ, hJr, CJ⟩ := CJ W (by omega) (by omega)
                    have HT0 := cutT_no' (way := 0) (ng := true) (hf := true) (rs := false) (K := K) (E := E) K W HWK.out (by simp [cutA, hpar]) (hno)
                    have HT1 : Hid ((cutT 0 true true false K E).1 = -9223372036854775808 + J) := by rw [HT0, ← hJ]; simp [Hid]
                    have HT2 : Hid ((cutT 0 true true false K E).2 = true) := by rw [HT0]; rfl
                    clear hJ HT0
                    clear hno
                    go_wp2_with fail
                    go_quiet (fail)
                    go_wp2_with fail
                    refine (CJ _).mono ?_
                    rintro _ w3 ⟨rfl, hb3⟩
                    go_wp2
                    all_goals go_ret2
                    all_goals exact ⟨ret_ib HT1.out.symm HT2.out.symm, bel_trans (bDrewN hbw _) hb3⟩
                  have hg0 : decide (0 < W) = true := decide_eq_true (by omega)
                  by_cases u1 : W < 4503599627370496
                  · have hno : ¬ (4503599627370496 ≤ W ∧ 1024 < (blen W : Int) + E) := fun q => by omega
                    have hg1 : decide (4503599627370496 ≤ W) = false := decide_eq_false (by omega)
                    obtain ⟨J, hJ, hJr, CJ⟩ := CJ W (by omega) (by omega)
                    have HT0 := cutT_no' (way := 0) (ng := true) (hf := true) (rs := false) (K := K) (E := E) K W HWK.out (by simp [cutA, hpar]) (hno)
                    have HT1 : Hid ((cutT 0 true true false K E).1 = -9223372036854775808 + J) := by rw [HT0, ← hJ]; simp [Hid]
                    have HT2 : Hid ((cutT 0 true true false K E).2 = true) := by rw [HT0]; rfl
                    clear hJ HT0
                    clear hno
                    go_wp2_with fail
                    go_quiet (fail)
                    go_wp2_with fail
                    refine (CJ _).mono ?_
                    rintro _ w3 ⟨rfl, hb3⟩
                    go_wp2
                    all_goals go_ret2
                    all_goals exact ⟨ret_ib HT1.out.symm HT2.out.symm, bel_trans (bDrewN hbw _) hb3⟩
                  have HBO : Hid (∀ Wd, Calls Tryd.prog 88 #[.int .i64 W] Wd fun e w' => e = .returned (.int .i64 (blen W)) ∧ w' = Wd) := fun Wd => rbitsOf_any _ Wd (by omega) (by omega)
                  have hg1 : decide (4503599627370496 ≤ W) = true := decide_eq_true (by omega)
                  have hblu : blen W ≤ 60 := blen_le (by show _ < (1152921504606846976 : Int); omega)
                  by_cases u2 : 1024 < (blen W : Int) + E
                  · have HT0 := cutT_ov' (way := 0) (ng := true) (hf := true) (rs := false) (K := K) (E := E) K W HWK.out (by simp [cutA, hpar]) ⟨by omega, u2⟩
                    have HT1 : Hid ((cutT 0 true true false K E).1 = (-4503599627370496)) := by rw [HT0]; rfl
                    have HT2 : Hid ((cutT 0 true true false K E).2 = true) := by rw [HT0]; rfl
                    clear HT0
                    generalize blen W = bu at HBO hblu u2
                    have hg2 : decide (1024 < (bu : Int) + E) = true := decide_eq_true u2
                    go_wp2_with fail
                    go_quiet ((go_at_call 88; exact Calls.quiet_of_same (HBO.out _)))
                    go_wp2
                    all_goals go_ret2
                    all_goals exact ⟨ret_ib HT1.out.symm HT2.out.symm, bDrewN hbw _⟩
                  · have hno : ¬ (4503599627370496 ≤ W ∧ 1024 < (blen W : Int) + E) := fun q => u2 q.2
                    obtain ⟨J, hJ, hJr, CJ⟩ := CJ W (by omega) (by omega)
                    have HT0 := cutT_no' (way := 0) (ng := true) (hf := true) (rs := false) (K := K) (E := E) K W HWK.out (by simp [cutA, hpar]) (hno)
                    have HT1 : Hid ((cutT 0 true true false K E).1 = -9223372036854775808 + J) := by rw [HT0, ← hJ]; simp [Hid]
                    have HT2 : Hid ((cutT 0 true true false K E).2 = true) := by rw [HT0]; rfl
                    clear hJ HT0
                    generalize blen W = bu at HBO hblu u2 hno
                    have hg2 : decide (1024 < (bu : Int) + E) = false := decide_eq_false u2
                    clear hno
                    go_wp2_with fail
                    go_quiet ((go_at_call 88; exact Calls.quiet_of_same (HBO.out _)))
                    go_wp2_with fail
                    refine (CJ _).mono ?_
                    rintro _ w3 ⟨rfl, hb3⟩
                    go_wp2
                    all_goals go_ret2
                    all_goals exact ⟨ret_ib HT1.out.symm HT2.out.symm, bel_trans (bDrewN hbw _) hb3⟩

    · have hrs := (hr1 rfl).1
      subst hrs
      clear hr1 hr2 hr3
      go_wp2_with fail
      refine (CI _ HR1.out).mono ?_
      rintro _ w1 ⟨rfl, rfl⟩
      go_wp2_with fail
      go_loop [20, 21] (fun mv iv => ∃ (j : Nat) (W : Int), j ≤ sn ∧ iv = .int .i64 ((j : Int) - 1) ∧ mv = .int .i64 W ∧ 0 ≤ W ∧ Hid (W * P j + val dk j = val dk sn)) (fun _ iv => (intOf iv + 1).toNat)
      case atStart => exact ⟨sn, 0, Nat.le_refl _, rfl, rfl, by omega, by show _ = _; omega⟩
      case round =>
        obtain ⟨j, W, hj, rfl, rfl, hW0, HW⟩ := hrel
        by_cases hj0 : 0 < j
        · obtain ⟨m, rfl⟩ : ∃ m, j = m + 1 := ⟨j - 1, by omega⟩
          have em : ((m + 1 : Nat) : Int) - 1 = m := by omega
          obtain ⟨hb1, hb2⟩ := int_smallD (HNk.out.1.le hj) HW.out hW0 HV1.out
          have HB2' : Hid ((W * 1073741824 + dk m) * P m + val dk m = val dk sn) := hb2
          obtain ⟨ba, fa, hba, hblt, hca⟩ := HRk.out.spot (by omega)
          subst hba
          have c1 := hca m (by omega)
          have dm := HNk.out.1 m (by omega)
          rw [em]
          clear hb2 hca
          go_wp2
          go_round
          case rel => exact ⟨m, W * 1073741824 + dk m, by omega, rfl, rfl, by omega, HB2'.out⟩
          case measure => simp [intOf]; try omega
        · obtain rfl : j = 0 := by omega
          have HWK : Hid ((K : Int) = W) := by
            have h := HW.out
            rw [show P 0 = 1 from rfl, show val dk 0 = 0 from rfl, HVk.out] at h
            show _ = _
            omega
          have hW1 : W < 9007199254740992 := by have := HWK.out; omega
          clear hK
          clear HW HRk HNk HVk HV1
          cases hf
          · by_cases u0 : W ≤ 0
            · have hno : ¬ (4503599627370496 ≤ W ∧ 1024 < (blen W : Int) + E) := fun q => by omega
              have hg0 : decide (0 < W) = false := decide_eq_false (by omega)
              obtain ⟨J, hJ, hJr, CJ⟩ := CJ W (by omega) (by omega)
              have HT0 := cutT_no' (way := 0) (ng := true) (hf := false) (rs := true) (K := K) (E := E) K W HWK.out (by simp [cutA]) (hno)
              have HT1 : Hid ((cutT 0 true false true K E).1 = -9223372036854775808 + J) := by rw [HT0, ← hJ]; simp [Hid]
              have HT2 : Hid ((cutT 0 true false true K E).2 = true) := by rw [HT0]; rfl
              clear hJ HT0
              clear hno
              go_wp2_with fail
              go_quiet (fail)
              go_wp2_with fail
              refine (CJ _).mono ?_
              rintro _ w3 ⟨rfl, hb3⟩
              go_wp2
              all_goals go_ret2
              all_goals exact ⟨ret_ib HT1.out.symm HT2.out.symm, bel_trans (bDrewN hbw _) hb3⟩
            have hg0 : decide (0 < W) = true := decide_eq_true (by omega)
            by_cases u1 : W < 4503599627370496
            · have hno : ¬ (4503599627370496 ≤ W ∧ 1024 < (blen W : Int) + E) := fun q => by omega
              have hg1 : decide (4503599627370496 ≤ W) = false := decide_eq_false (by omega)
              obtain ⟨J, hJ, hJr, CJ⟩ := CJ W (by omega) (by omega)
              have HT0 := cutT_no' (way := 0) (ng := true) (hf := false) (rs := true) (K := K) (E := E) K W HWK.out (by simp [cutA]) (hno)
              have HT1 : Hid ((cutT 0 true false true K E).1 = -9223372036854775808 + J) := by rw [HT0, ← hJ]; simp [Hid]
              have HT2 : Hid ((cutT 0 true false true K E).2 = true) := by rw [HT0]; rfl
              clear hJ HT0
              clear hno
              go_wp2_with fail
              go_quiet (fail)
              go_wp2_with fail
              refine (CJ _).mono ?_
              rintro _ w3 ⟨rfl, hb3⟩
              go_wp2
              all_goals go_ret2
              all_goals exact ⟨ret_ib HT1.out.symm HT2.out.symm, bel_trans (bDrewN hbw _) hb3⟩
            have HBO : Hid (∀ Wd, Calls Tryd.prog 88 #[.int .i64 W] Wd fun e w' => e = .returned (.int .i64 (blen W)) ∧ w' = Wd) := fun Wd => rbitsOf_any _ Wd (by omega) (by omega)
            have hg1 : decide (4503599627370496 ≤ W) = true := decide_eq_true (by omega)
            have hblu : blen W ≤ 60 := blen_le (by show _ < (1152921504606846976 : Int); omega)
            by_cases u2 : 1024 < (blen W : Int) + E
            · have HT0 := cutT_ov' (way := 0) (ng := true) (hf := false) (rs := true) (K := K) (E := E) K W HWK.out (by simp [cutA]) ⟨by omega, u2⟩
              have HT1 : Hid ((cutT 0 true false true K E).1 = (-4503599627370496)) := by rw [HT0]; rfl
              have HT2 : Hid ((cutT 0 true false true K E).2 = true) := by rw [HT0]; rfl
              clear HT0
              generalize blen W = bu at HBO hblu u2
              have hg2 : decide (1024 < (bu : Int) + E) = true := decide_eq_true u2
              go_wp2_with fail
              go_quiet ((go_at_call 88; exact Calls.quiet_of_same (HBO.out _)))
              go_wp2
              all_goals go_ret2
              all_goals exact ⟨ret_ib HT1.out.symm HT2.out.symm, bDrewN hbw _⟩
            · have hno : ¬ (4503599627370496 ≤ W ∧ 1024 < (blen W : Int) + E) := fun q => u2 q.2
              obtain ⟨J, hJ, hJr, CJ⟩ := CJ W (by omega) (by omega)
              have HT0 := cutT_no' (way := 0) (ng := true) (hf := false) (rs := true) (K := K) (E := E) K W HWK.out (by simp [cutA]) (hno)
              have HT1 : Hid ((cutT 0 true false true K E).1 = -9223372036854775808 + J) := by rw [HT0, ← hJ]; simp [Hid]
              have HT2 : Hid ((cutT 0 true false true K E).2 = true) := by rw [HT0]; rfl
              clear hJ HT0
              generalize blen W = bu at HBO hblu u2 hno
              have hg2 : decide (1024 < (bu : Int) + E) = false := decide_eq_false u2
              clear hno
              go_wp2_with fail
              go_quiet ((go_at_call 88; exact Calls.quiet_of_same (HBO.out _)))
              go_wp2_with fail
              refine (CJ _).mono ?_
              rintro _ w3 ⟨rfl, hb3⟩
              go_wp2
              all_goals go_ret2
              all_goals exact ⟨ret_ib HT1.out.symm HT2.out.symm, bel_trans (bDrewN hbw _) hb3⟩
          · have kk : Hid (((K + 1 : Nat) : Int) = W + 1) := by have := HWK.out; show _ = _; omega
            have hg0 : decide (0 < (W + 1)) = true := decide_eq_true (by omega)
            by_cases u1 : (W + 1) < 4503599627370496
            · have hno : ¬ (4503599627370496 ≤ (W + 1) ∧ 1024 < (blen (W + 1) : Int) + E) := fun q => by omega
              have hg1 : decide (4503599627370496 ≤ (W + 1)) = false := decide_eq_false (by omega)
              obtain ⟨J, hJ, hJr, CJ⟩ := CJ (W + 1) (by omega) (by omega)
              have HT0 := cutT_no' (way := 0) (ng := true) (hf := true) (rs := true) (K := K) (E := E) (K + 1) (W + 1) kk.out (by simp [cutA]) (hno)
              have HT1 : Hid ((cutT 0 true true true K E).1 = -9223372036854775808 + J) := by rw [HT0, ← hJ]; simp [Hid]
              have HT2 : Hid ((cutT 0 true true true K E).2 = true) := by rw [HT0]; rfl
              clear hJ HT0
              clear hno
              go_wp2_with fail
              go_quiet (fail)
              go_wp2_with fail
              refine (CJ _).mono ?_
              rintro _ w3 ⟨rfl, hb3⟩
              go_wp2
              all_goals go_ret2
              all_goals exact ⟨ret_ib HT1.out.symm HT2.out.symm, bel_trans (bDrewN hbw _) hb3⟩
            have HBO : Hid (∀ Wd, Calls Tryd.prog 88 #[.int .i64 (W + 1)] Wd fun e w' => e = .returned (.int .i64 (blen (W + 1))) ∧ w' = Wd) := fun Wd => rbitsOf_any _ Wd (by omega) (by omega)
            have hg1 : decide (4503599627370496 ≤ (W + 1)) = true := decide_eq_true (by omega)
            have hblu : blen (W + 1) ≤ 60 := blen_le (by show _ < (1152921504606846976 : Int); omega)
            by_cases u2 : 1024 < (blen (W + 1) : Int) + E
            · have HT0 := cutT_ov' (way := 0) (ng := true) (hf := true) (rs := true) (K := K) (E := E) (K + 1) (W + 1) kk.out (by simp [cutA]) ⟨by omega, u2⟩
              have HT1 : Hid ((cutT 0 true true true K E).1 = (-4503599627370496)) := by rw [HT0]; rfl
              have HT2 : Hid ((cutT 0 true true true K E).2 = true) := by rw [HT0]; rfl
              clear HT0
              generalize blen (W + 1) = bu at HBO hblu u2
              have hg2 : decide (1024 < (bu : Int) + E) = true := decide_eq_true u2
              go_wp2_with fail
              go_quiet ((go_at_call 88; exact Calls.quiet_of_same (HBO.out _)))
              go_wp2
              all_goals go_ret2
              all_goals exact ⟨ret_ib HT1.out.symm HT2.out.symm, bDrewN hbw _⟩
            · have hno : ¬ (4503599627370496 ≤ (W + 1) ∧ 1024 < (blen (W + 1) : Int) + E) := fun q => u2 q.2
              obtain ⟨J, hJ, hJr, CJ⟩ := CJ (W + 1) (by omega) (by omega)
              have HT0 := cutT_no' (way := 0) (ng := true) (hf := true) (rs := true) (K := K) (E := E) (K + 1) (W + 1) kk.out (by simp [cutA]) (hno)
              have HT1 : Hid ((cutT 0 true true true K E).1 = -9223372036854775808 + J) := by rw [HT0, ← hJ]; simp [Hid]
              have HT2 : Hid ((cutT 0 true true true K E).2 = true) := by rw [HT0]; rfl
              clear hJ HT0
              generalize blen (W + 1) = bu at HBO hblu u2 hno
              have hg2 : decide (1024 < (bu : Int) + E) = false := decide_eq_false u2
              clear hno
              go_wp2_with fail
              go_quiet ((go_at_call 88; exact Calls.quiet_of_same (HBO.out _)))
              go_wp2_with fail
              refine (CJ _).mono ?_
              rintro _ w3 ⟨rfl, hb3⟩
              go_wp2
              all_goals go_ret2
              all_goals exact ⟨ret_ib HT1.out.symm HT2.out.symm, bel_trans (bDrewN hbw _) hb3⟩

end Go.Proofs.YtheiinclgfgneaaDoor
