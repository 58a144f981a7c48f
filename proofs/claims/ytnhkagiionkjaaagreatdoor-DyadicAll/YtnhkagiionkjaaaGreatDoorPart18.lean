/-
  Parts of the proof, one behind another.
-/
import Derived.Test.YtnhkagiionkjaaaGreatDoorPart9
import Derived.Test.YtnhkagiionkjaaaGreatDoorPart8
import Derived.Test.YtnhkagiionkjaaaGreatDoorPart10
import Derived.Test.YtnhkagiionkjaaaGreatDoorPart6
import Derived.Test.YtnhkagiionkjaaaGreatDoorPart11
/-
  The document's own answers for chapter 1 (package plumbref1), but for Join: each call by a contract over the same plain functions as package bits'.
-/
namespace Go.Proofs.YtnhkagiionkjaaaGreatDoor
open Go Go.RowKit Go.Proofs.YtnhkagiionkjaaaGreatDoor.M
set_option linter.unusedSimpArgs false
set_option linter.unusedVariables false

theorem hideIt {p : Prop} (h : p) : Hid p := h

theorem refCut (b : Int) (w : World) (hb : rng b) :
    Calls Tryz.prog 100 #[.int .i64 b] w fun e w' => e = .returned (.tuple #[.bool (decide (b < 0)), .int .i64 (fld b), .int .i64 (frc b)]) ∧ w' = w := by
  unfold rng at hb
  by_cases h : b < 0
  all_goals
    go_enter Tryz.func100, Tryz.ntmps100
    go_wp2
    go_ret3
    exact ⟨ret_bii (by simp; try omega) (by unfold fld; omega) (by unfold frc; omega), rfl⟩
theorem refcls (f t most : Int) (w : World) (hf : 0 ≤ f) (ht : 0 ≤ t) :
    Calls Tryz.prog 64 #[.int .i64 f, .int .i64 t, .int .i64 most] w fun e w' => e = .returned (.int .i64 (rcls f t most)) ∧ w' = w := by
  by_cases h1 : f = most
  · subst h1
    by_cases h2 : t = 0
    all_goals
      go_enter Tryz.func64, Tryz.ntmps64
      go_wp2
      go_ret
      exact ⟨b_ret_int (by simp [rcls, h2]), rfl⟩
  · by_cases h2 : 0 < f <;> by_cases h3 : 0 < t
    all_goals
      go_enter Tryz.func64, Tryz.ntmps64
      go_wp2
      go_ret
      exact ⟨b_ret_int (by simp [rcls, h1]; omega), rfl⟩
theorem refClass (b : Int) (w : World) (hb : rng b) :
    Calls Tryz.prog 62 #[.int .i64 b] w fun e w' => e = .returned (.int .i64 (cls b)) ∧ w' = w := by
  have hf := fld_le b
  have ht := frc_le b
  go_enter Tryz.func62, Tryz.ntmps62
  go_wp2_with (first
    | (go_at_call 100; refine (refCut _ _ hb).mono ?_; rintro e w1 ⟨rfl, rfl⟩)
    | (go_at_call 64; refine (refcls _ _ _ _ hf.1 ht.1).mono ?_; rintro e w1 ⟨rfl, rfl⟩))
  go_ret
  exact ⟨b_ret_int (rcls_cls b), rfl⟩
theorem refParts (b : Int) (w : World) (hb : rng b) :
    Calls Tryz.prog 65 #[.int .i64 b] w fun e w' => e = .returned (.tuple #[.bool (pneg b), .int .i64 (pmag b), .int .i64 (pexp b), .bool (pok b)]) ∧ w' = w := by
  have hf := fld_le b
  have ht := frc_le b
  by_cases h0 : cls b = 0
  · have k := hideIt (parts_sub (.inl h0))
    go_enter Tryz.func65, Tryz.ntmps65
    go_wp2_with (first
      | (go_at_call 100; refine (refCut _ _ hb).mono ?_; rintro e w1 ⟨rfl, rfl⟩)
      | (go_at_call 62; refine (refClass _ _ hb).mono ?_; rintro e w1 ⟨rfl, rfl⟩))
    refine bodyPost_ret (v := .tuple #[.bool (decide (b < 0)), .int .i64 (frc b), .int .i64 (-1074), .bool true]) (by simp [results, Tryz.results65, go_sem]) rfl ⟨ret_ttt4 k.out.1 k.out.2.1 k.out.2.2.1 k.out.2.2.2, rfl⟩
  · by_cases h1 : cls b = 1
    · have k := hideIt (parts_sub (.inr h1))
      go_enter Tryz.func65, Tryz.ntmps65
      go_wp2_with (first
        | (go_at_call 100; refine (refCut _ _ hb).mono ?_; rintro e w1 ⟨rfl, rfl⟩)
        | (go_at_call 62; refine (refClass _ _ hb).mono ?_; rintro e w1 ⟨rfl, rfl⟩))
      refine bodyPost_ret (v := .tuple #[.bool (decide (b < 0)), .int .i64 (frc b), .int .i64 (-1074), .bool true]) (by simp [results, Tryz.results65, go_sem]) rfl ⟨ret_ttt4 k.out.1 k.out.2.1 k.out.2.2.1 k.out.2.2.2, rfl⟩
    · by_cases h2 : cls b = 2
      · have k := hideIt (parts_norm h2)
        go_enter Tryz.func65, Tryz.ntmps65
        go_wp2_with (first
          | (go_at_call 100; refine (refCut _ _ hb).mono ?_; rintro e w1 ⟨rfl, rfl⟩)
          | (go_at_call 62; refine (refClass _ _ hb).mono ?_; rintro e w1 ⟨rfl, rfl⟩))
        refine bodyPost_ret (v := .tuple #[.bool (decide (b < 0)), .int .i64 (4503599627370496 + frc b), .int .i64 (fld b - 1075), .bool true]) (by simp [results, Tryz.results65, go_sem]) rfl ⟨ret_ttt4 k.out.1 k.out.2.1 k.out.2.2.1 k.out.2.2.2, rfl⟩
      · have k := hideIt (parts_not h0 h1 h2)
        go_enter Tryz.func65, Tryz.ntmps65
        go_wp2_with (first
          | (go_at_call 100; refine (refCut _ _ hb).mono ?_; rintro e w1 ⟨rfl, rfl⟩)
          | (go_at_call 62; refine (refClass _ _ hb).mono ?_; rintro e w1 ⟨rfl, rfl⟩))
        refine bodyPost_ret (v := .tuple #[.bool false, .int .i64 0, .int .i64 0, .bool false]) (by simp [results, Tryz.results65, go_sem]) rfl ⟨ret_ttt4 k.out.1 k.out.2.1 k.out.2.2.1 k.out.2.2.2, rfl⟩
end Go.Proofs.YtnhkagiionkjaaaGreatDoor

/-
  The document's own answers for chapter 1, on: the calls of 32 bits, the neighbours, the signs, the order.
-/
namespace Go.Proofs.YtnhkagiionkjaaaGreatDoor
open Go Go.RowKit Go.Proofs.YtnhkagiionkjaaaGreatDoor.M
set_option linter.unusedSimpArgs false
set_option linter.unusedVariables false

theorem refValid32 (b : Int) (w : World) :
    Calls Tryz.prog 63 #[.int .i64 b] w fun e w' => e = .returned (.bool (in32 b)) ∧ w' = w := by
  by_cases h : 0 ≤ b <;> by_cases h2 : b < 4294967296
  all_goals
    go_enter Tryz.func63, Tryz.ntmps63
    go_wp2
    go_ret
    exact ⟨b_ret_bool (by simp [in32]; omega), rfl⟩
theorem refClass32 (b : Int) (w : World) :
    Calls Tryz.prog 23 #[.int .i64 b] w fun e w' => e = .returned (.int .i64 (cls32 b)) ∧ w' = w := by
  by_cases h : in32 b = true
  · have hb := of_decide_eq_true h
    have e1 : b % 2147483648 / 8388608 = fld32 b := by unfold fld32; omega
    have e2 : b % 8388608 = frc32 b := rfl
    have hf := fld32_le b
    have ht := frc32_le b
    have hk := hideIt (rcls_cls32 b h)
    go_enter Tryz.func23, Tryz.ntmps23
    go_wp2_with (first
      | (go_at_call 63; refine (refValid32 _ _).mono ?_; rintro e w1 ⟨rfl, rfl⟩)
      | (go_at_call 64; refine (refcls _ _ _ _ hf.1 ht.1).mono ?_; rintro e w1 ⟨rfl, rfl⟩))
    go_ret
    exact ⟨b_ret_int hk.out, rfl⟩
  · have hn : b < 0 ∨ 4294967296 ≤ b := by simp [in32] at h; omega
    have h' : in32 b = false := by simpa using h
    have hk : Hid (4 = cls32 b) := by simp [cls32, hn, Hid]
    go_enter Tryz.func23, Tryz.ntmps23
    go_wp2_with (go_at_call 63; refine (refValid32 _ _).mono ?_; rintro e w1 ⟨rfl, rfl⟩)
    go_ret
    exact ⟨b_ret_int hk.out, rfl⟩
theorem refParts32 (b : Int) (w : World) :
    Calls Tryz.prog 67 #[.int .i64 b] w fun e w' => e = .returned (.tuple #[.bool (pneg32 b), .int .i64 (pmag32 b), .int .i64 (pexp32 b), .bool (pok32 b)]) ∧ w' = w := by
  have hf := fld32_le b
  have ht := frc32_le b
  by_cases h0 : cls32 b = 0
  · have k := hideIt (parts32_sub (.inl h0))
    have hb := cls32_in (b := b) (by omega)
    have e2 : b % 8388608 = frc32 b := rfl
    go_enter Tryz.func67, Tryz.ntmps67
    go_wp2_with (go_at_call 23; refine (refClass32 _ _).mono ?_; rintro e w1 ⟨rfl, rfl⟩)
    refine bodyPost_ret (v := .tuple #[.bool (decide (2147483648 ≤ b)), .int .i64 (frc32 b), .int .i64 (-149), .bool true]) (by simp [results, Tryz.results67, go_sem, e2]) rfl ⟨ret_ttt4 k.out.1 k.out.2.1 k.out.2.2.1 k.out.2.2.2, rfl⟩
  · by_cases h1 : cls32 b = 1
    · have k := hideIt (parts32_sub (.inr h1))
      have hb := cls32_in (b := b) (by omega)
      have e2 : b % 8388608 = frc32 b := rfl
      go_enter Tryz.func67, Tryz.ntmps67
      go_wp2_with (go_at_call 23; refine (refClass32 _ _).mono ?_; rintro e w1 ⟨rfl, rfl⟩)
      refine bodyPost_ret (v := .tuple #[.bool (decide (2147483648 ≤ b)), .int .i64 (frc32 b), .int .i64 (-149), .bool true]) (by simp [results, Tryz.results67, go_sem, e2]) rfl ⟨ret_ttt4 k.out.1 k.out.2.1 k.out.2.2.1 k.out.2.2.2, rfl⟩
    · by_cases h2 : cls32 b = 2
      · have k := hideIt (parts32_norm h2)
        have hb := cls32_in (b := b) (by omega)
        have e1 : b % 2147483648 / 8388608 = fld32 b := by unfold fld32; omega
        have e2 : b % 8388608 = frc32 b := rfl
        go_enter Tryz.func67, Tryz.ntmps67
        go_wp2_with (go_at_call 23; refine (refClass32 _ _).mono ?_; rintro e w1 ⟨rfl, rfl⟩)
        refine bodyPost_ret (v := .tuple #[.bool (decide (2147483648 ≤ b)), .int .i64 (8388608 + frc32 b), .int .i64 (fld32 b - 150), .bool true]) (by simp [results, Tryz.results67, go_sem, e1, e2]) rfl ⟨ret_ttt4 k.out.1 k.out.2.1 k.out.2.2.1 k.out.2.2.2, rfl⟩
      · have k := hideIt (parts32_not h0 h1 h2)
        go_enter Tryz.func67, Tryz.ntmps67
        go_wp2_with (go_at_call 23; refine (refClass32 _ _).mono ?_; rintro e w1 ⟨rfl, rfl⟩)
        refine bodyPost_ret (v := .tuple #[.bool false, .int .i64 0, .int .i64 0, .bool false]) (by simp [results, Tryz.results67, go_sem]) rfl ⟨ret_ttt4 k.out.1 k.out.2.1 k.out.2.2.1 k.out.2.2.2, rfl⟩
end Go.Proofs.YtnhkagiionkjaaaGreatDoor

/-
  Package plumbref3: Of, Of32, Mul, by contracts.
-/
namespace Go.Proofs.YtnhkagiionkjaaaGreatDoor
open Go Go.RowKit Go.Proofs.YtnhkagiionkjaaaGreatDoor.M
set_option linter.unusedSimpArgs false
set_option linter.unusedVariables false

set_option maxRecDepth 100000 in
set_option maxHeartbeats 1000000 in
theorem rof_any (b : Int) (w : World) (hb : rng b) (hp : pok b = true) :
    Calls Tryz.prog 25 #[.int .i64 b] w fun r w' => ∃ v, r = .returned v ∧ DAns w w' (sg (pneg b) (pmag b) * pw (pexp b)) v := by
  obtain ⟨i0, i1, i2, i3⟩ := pmag_in hp
  have hF := fun W => rfrom_any (pmag b) W i0 (by omega)
  have hN := fun W ao n cap d (h : Row W ao n cap d) (hd : Dig d n) (hn : n ≤ 40000) => rnorm_any (pneg b) ao n cap d (pexp b) W h hd hn (by omega) (by omega)
  have hP := fun W => refParts b W hb
  generalize pneg b = ng at *
  generalize pexp b = ex at *
  generalize pmag b = mg at *
  rw [hp] at hP
  go_enter Tryz.func25, Tryz.ntmps25
  go_wp2_with fail
  refine (hP _).mono ?_
  rintro r w1 ⟨rfl, rfl⟩
  go_wp2_with fail
  refine (hF _).mono ?_
  rintro r w2 ⟨v, rfl, hA⟩
  obtain ⟨so, sn, sc, d, rfl, hR, hNr, hv⟩ := hA.num
  have hsn : sn ≤ 100 := hA.num.len (k := 100) (by have := P_le (show 3 ≤ 100 by omega); have : P 3 = 1237940039285380274899124224 := rfl; omega)
  have hbw := bel_trans (bel_alloc w _) hA.below
  go_wp2_with fail
  refine (hN _ _ _ _ _ hR hNr.1 (by omega)).mono ?_
  rw [hv]
  rintro r w3 ⟨v, rfl, hD⟩
  obtain ⟨ng', s', m', e', rfl, hyy, hA2⟩ := id hD
  obtain ⟨so', sn', sc', rfl⟩ := hA2.num.shape
  have q0 := ((bel_trans hA.below hD.below).block w.heap.size (by rw [size1]; omega)).trans (heap_a1 _ _)
  have x0 := blkC q0 0 rfl
  have x1 := blkC q0 1 rfl
  have x2 := blkC q0 2 rfl
  have z0 := blkF q0 0
  have z1 := blkF q0 1
  have z2 := blkF q0 2
  go_wp2
  refine bodyPost_ret (v := .agg #[.bool ng', .slice so' sn' sc', .int .i64 e']) (by simp [results, Tryz.results25, go_sem, x0, x1, x2]) rfl ⟨_, rfl, ?_⟩
  exact dans_res3 (g := w.heap.size) hD hbw (Nat.le_refl _) (Nat.lt_of_lt_of_le (by rw [size1]; omega) hA.below.size) _ _ _
set_option maxRecDepth 100000 in
set_option maxHeartbeats 1000000 in
theorem rof32_any (b : Int) (w : World) (hb : rng b) (hp : pok32 b = true) :
    Calls Tryz.prog 26 #[.int .i64 b] w fun r w' => ∃ v, r = .returned v ∧ DAns w w' (sg (pneg32 b) (pmag32 b) * pw (pexp32 b)) v := by
  obtain ⟨i0, i1, i2, i3⟩ := pmag32_in hp
  have hF := fun W => rfrom_any (pmag32 b) W i0 (by omega)
  have hN := fun W ao n cap d (h : Row W ao n cap d) (hd : Dig d n) (hn : n ≤ 40000) => rnorm_any (pneg32 b) ao n cap d (pexp32 b) W h hd hn (by omega) (by omega)
  have hP := fun W => refParts32 b W
  generalize pneg32 b = ng at *
  generalize pexp32 b = ex at *
  generalize pmag32 b = mg at *
  rw [hp] at hP
  go_enter Tryz.func26, Tryz.ntmps26
  go_wp2_with fail
  refine (hP _).mono ?_
  rintro r w1 ⟨rfl, rfl⟩
  go_wp2_with fail
  refine (hF _).mono ?_
  rintro r w2 ⟨v, rfl, hA⟩
  obtain ⟨so, sn, sc, d, rfl, hR, hNr, hv⟩ := hA.num
  have hsn : sn ≤ 100 := hA.num.len (k := 100) (by have := P_le (show 3 ≤ 100 by omega); have : P 3 = 1237940039285380274899124224 := rfl; omega)
  have hbw := bel_trans (bel_alloc w _) hA.below
  go_wp2_with fail
  refine (hN _ _ _ _ _ hR hNr.1 (by omega)).mono ?_
  rw [hv]
  rintro r w3 ⟨v, rfl, hD⟩
  obtain ⟨ng', s', m', e', rfl, hyy, hA2⟩ := id hD
  obtain ⟨so', sn', sc', rfl⟩ := hA2.num.shape
  have q0 := ((bel_trans hA.below hD.below).block w.heap.size (by rw [size1]; omega)).trans (heap_a1 _ _)
  have x0 := blkC q0 0 rfl
  have x1 := blkC q0 1 rfl
  have x2 := blkC q0 2 rfl
  have z0 := blkF q0 0
  have z1 := blkF q0 1
  have z2 := blkF q0 2
  go_wp2
  refine bodyPost_ret (v := .agg #[.bool ng', .slice so' sn' sc', .int .i64 e']) (by simp [results, Tryz.results26, go_sem, x0, x1, x2]) rfl ⟨_, rfl, ?_⟩
  exact dans_res3 (g := w.heap.size) hD hbw (Nat.le_refl _) (Nat.lt_of_lt_of_le (by rw [size1]; omega) hA.below.size) _ _ _
end Go.Proofs.YtnhkagiionkjaaaGreatDoor

/-
  plumblaw3.made: small things ahead of its walk.
-/
namespace Go.Proofs.YtnhkagiionkjaaaGreatDoor
open Go Go.RowKit Go.Proofs.YtnhkagiionkjaaaGreatDoor.M
set_option linter.unusedSimpArgs false
set_option linter.unusedVariables false

theorem fitA_dan' {B : Nat} {w : World} {v : Value} {V er : Int} (h : DFitA B w V v er) (ok : Dok V) : DAn B w V v := by
  rcases h with ⟨_, _, h⟩ | ⟨h, _⟩
  · exact h
  · exact absurd ok h
theorem fitA_num' {B : Nat} {w : World} {v : Value} {V er : Int} (h : DFitA B w V v er) (ok : Dok V) : DNum w v V := (fitA_dan' h ok).num
end Go.Proofs.YtnhkagiionkjaaaGreatDoor

/-
  plumblaw3.made: Make, Of, Of32: it answers true, what it keeps is kept, and it turns nothing that was there ahead of the law.
-/
namespace Go.Proofs.YtnhkagiionkjaaaGreatDoor
open Go Go.RowKit Go.Proofs.YtnhkagiionkjaaaGreatDoor.M
set_option linter.unusedSimpArgs false
set_option linter.unusedVariables false

set_option maxRecDepth 100000 in
set_option maxHeartbeats 8000000 in
theorem made_g11 {w0 : World} (ng : Bool) (a_o : Option Addr) (a_n a_c : Nat) (a_d : Nat → Int) (ex b : Int) {MV V64 V32 er cl : Int} (ra : Row w0 a_o a_n a_c a_d) (hn : a_n ≤ 2100) (w : World) (hb0 : Below w0.heap.size w0 w) {k : Nat} {S : Nat → Prop} (hk : Kept w0.heap.size w k S)
    (CM : ∀ W cb cc, Below w0.heap.size w0 W → Row W (some ⟨cb, 0, none⟩) a_n cc a_d → Calls Tryz.prog 12 #[.bool ng, .slice (some ⟨cb, 0, none⟩) a_n cc, .int .i64 ex] W fun r w' => ∃ v, r = .returned (.tuple #[v, .int .i64 0]) ∧ DAns W w' MV v) (RM : ∀ W, Below w0.heap.size w0 W → Calls Tryz.prog 18 #[.bool ng, .slice a_o a_n a_c, .int .i64 ex] W fun r w' => ∃ v, r = .returned (.tuple #[v, .int .i64 0]) ∧ DAns W w' MV v) (OM : Dok MV)
    (CF : ∀ W, Calls Tryz.prog 22 #[.int .i64 b] W fun r w' => r = .returned (.bool true) ∧ w' = W) (CL : ∀ W, Calls Tryz.prog 23 #[.int .i64 b] W fun r w' => r = .returned (.int .i64 cl) ∧ w' = W) (hcl : decide (cl < 3) = true)
    (C64 : ∀ W, Below w0.heap.size w0 W → Calls Tryz.prog 13 #[.int .i64 b] W fun r w' => ∃ v, r = .returned (.tuple #[v, .int .i64 0]) ∧ DAns W w' V64 v) (R64 : ∀ W, Below w0.heap.size w0 W → Calls Tryz.prog 25 #[.int .i64 b] W fun r w' => ∃ v, r = .returned v ∧ DAns W w' V64 v) (O64 : Dok V64) (C32 : ∀ W, Below w0.heap.size w0 W → Calls Tryz.prog 21 #[.int .i64 b] W fun r w' => ∃ v, r = .returned (.tuple #[v, .int .i64 0]) ∧ DAns W w' V32 v) (R32 : ∀ W, Below w0.heap.size w0 W → Calls Tryz.prog 26 #[.int .i64 b] W fun r w' => ∃ v, r = .returned v ∧ DAns W w' V32 v) (O32 : Dok V32) :
    Calls Tryz.prog 6 #[.pointer (some ⟨k, 0, none⟩), .bool ng, .slice a_o a_n a_c, .int .i64 ex, .int .i64 b] w fun e w' => e = .returned (.bool true) ∧ Below w0.heap.size w0 w' ∧ ∃ S', Kept w0.heap.size w' k S' ∧ Fr w w' := by
  have HCM : Hid _ := CM
  have HRM : Hid _ := RM
  have H64 : Hid _ := C64
  have H32 : Hid _ := C32
  have HCF : Hid _ := CF
  have HCL : Hid _ := CL
  have HR64 : Hid _ := R64
  clear R64
  have HR32 : Hid _ := R32
  clear R32
  have HA : Hid (Row w0 a_o a_n a_c a_d) := ra
  have hla := ra.le
  have hma := ra.max
  clear CM RM C64 C32 CF CL ra
  have HS0 : Hid (w0.heap.size ≤ w.heap.size) := hb0.size
  have HB : Hid (Below w0.heap.size w0 w) := hb0
  have HK : Hid (Kept w0.heap.size w k (fun g => g < w.heap.size)) := hk.old
  have FR : Hid (Fr w w) := Fr.of (bel_refl w)
  clear hb0 hk
  go_enter Tryz.func6, Tryz.ntmps6
  go_wp2_with fail
  refine (lent_any _ _ _ _ _ (HA.out.keeps HB.out) (by omega)).mono ?_
  rintro _ y1 ⟨v, rfl, hL⟩
  have hw := hL.below
  have Z2 : Hid (w.heap.size ≤ y1.heap.size) := hw.size
  have FR : Hid (Fr w y1) := FR.out.trans (Fr.of hw)
  have HB : Hid (Below w0.heap.size w0 y1) := HB.out.trans ((hw).mono HB.out.size)
  have HK : Hid (Kept w0.heap.size y1 k (fun g => g < w.heap.size)) := HK.out.keeps hw
  obtain ⟨c_b, c_c, rfl, c_O'⟩ := hL.parts
  have c_O : Hid (Out w.heap.size y1 (.slice (some ⟨c_b, 0, none⟩) (a_n + 3) c_c) (a_n + 3) (lentD a_d a_n)) := c_O'
  have c_L : Hid (w.heap.size ≤ c_b ∧ c_b < y1.heap.size) := c_O.out.ge rfl
  obtain ⟨c_M0, c_M1⟩ := lent_cap c_O.out
  have c_M2 : a_n ≤ c_c := by omega
  clear c_O' hw hL
  go_wp2_with fail
  refine (HCM.out _ _ _ HB.out (lent_row c_O.out)).mono ?_
  rintro _ y2 ⟨v, rfl, hA⟩
  obtain ⟨x_g, x_o, x_n, x_c, x_e, rfl⟩ := dans_shape hA
  have hw := hA.below
  have Z3 : Hid (y1.heap.size ≤ y2.heap.size) := hw.size
  have c_O : Hid (Out w.heap.size y2 (.slice (some ⟨c_b, 0, none⟩) (a_n + 3) c_c) (a_n + 3) (lentD a_d a_n)) := c_O.out.stays hw
  have FR : Hid (Fr w y2) := FR.out.trans (Fr.of hw)
  have HB : Hid (Below w0.heap.size w0 y2) := HB.out.trans ((hw).mono HB.out.size)
  have HK : Hid (Kept w0.heap.size y2 k (fun g => g < w.heap.size)) := HK.out.keeps hw
  have x_F : Hid (DFitA y1.heap.size y2 MV (.agg #[.bool x_g, .slice x_o x_n x_c, .int .i64 x_e]) 0) := hA.fitA OM
  have x_L : Hid (Lies (.slice x_o x_n x_c) y1.heap.size y2.heap.size) := x_F.out.ge
  clear hw hA
  have hbx : Below y2.heap.size y2 (y2.alloc (.cells #[.bool x_g, .slice x_o x_n x_c, .int .i64 x_e] 25)) := bel_alloc _ _
  have x_k : (y2.alloc (.cells #[.bool x_g, .slice x_o x_n x_c, .int .i64 x_e] 25)).heap[y2.heap.size]? = some (.cells #[.bool x_g, .slice x_o x_n x_c, .int .i64 x_e] 25 (0, 0)) := heap_a1 _ _
  go_wp2_with fail
  generalize (y2.alloc (.cells #[.bool x_g, .slice x_o x_n x_c, .int .i64 x_e] 25)) = x3 at hbx x_k ⊢
  have Z4 : Hid (y2.heap.size ≤ x3.heap.size) := hbx.size
  have x_F : Hid (DFitA y1.heap.size x3 MV (.agg #[.bool x_g, .slice x_o x_n x_c, .int .i64 x_e]) 0) := x_F.out.keeps hbx
  have c_O : Hid (Out w.heap.size x3 (.slice (some ⟨c_b, 0, none⟩) (a_n + 3) c_c) (a_n + 3) (lentD a_d a_n)) := c_O.out.stays hbx
  have FR : Hid (Fr w x3) := FR.out.trans (Fr.of hbx)
  have HB : Hid (Below w0.heap.size w0 x3) := HB.out.trans ((hbx).mono HB.out.size)
  have HK : Hid (Kept w0.heap.size x3 k (fun g => g < w.heap.size)) := HK.out.keeps hbx
  clear hbx
  refine (HRM.out _ HB.out).mono ?_
  rintro _ y4 ⟨v, rfl, hA⟩
  obtain ⟨u_g, u_o, u_n, u_c, u_e, rfl⟩ := dans_shape hA
  have hw := hA.below
  have Z5 : Hid (x3.heap.size ≤ y4.heap.size) := hw.size
  have x_k := (hw.block _ (Array.getElem?_eq_some_iff.1 x_k).1).trans x_k
  have x_F : Hid (DFitA y1.heap.size y4 MV (.agg #[.bool x_g, .slice x_o x_n x_c, .int .i64 x_e]) 0) := x_F.out.keeps hw
  have c_O : Hid (Out w.heap.size y4 (.slice (some ⟨c_b, 0, none⟩) (a_n + 3) c_c) (a_n + 3) (lentD a_d a_n)) := c_O.out.stays hw
  have FR : Hid (Fr w y4) := FR.out.trans (Fr.of hw)
  have HB : Hid (Below w0.heap.size w0 y4) := HB.out.trans ((hw).mono HB.out.size)
  have HK : Hid (Kept w0.heap.size y4 k (fun g => g < w.heap.size)) := HK.out.keeps hw
  have u_F : Hid (DFitA x3.heap.size y4 MV (.agg #[.bool u_g, .slice u_o u_n u_c, .int .i64 u_e]) 0) := hA.fitA OM
  have u_L : Hid (Lies (.slice u_o u_n u_c) x3.heap.size y4.heap.size) := u_F.out.ge
  clear hw hA
  have hbx : Below y4.heap.size y4 (y4.alloc (.cells #[.bool u_g, .slice u_o u_n u_c, .int .i64 u_e] 25)) := bel_alloc _ _
  have u_k : (y4.alloc (.cells #[.bool u_g, .slice u_o u_n u_c, .int .i64 u_e] 25)).heap[y4.heap.size]? = some (.cells #[.bool u_g, .slice u_o u_n u_c, .int .i64 u_e] 25 (0, 0)) := heap_a1 _ _
  go_wp2_with fail
  generalize (y4.alloc (.cells #[.bool u_g, .slice u_o u_n u_c, .int .i64 u_e] 25)) = x5 at hbx u_k ⊢
  have Z6 : Hid (y4.heap.size ≤ x5.heap.size) := hbx.size
  have x_k := (hbx.block _ (Array.getElem?_eq_some_iff.1 x_k).1).trans x_k
  have x_F : Hid (DFitA y1.heap.size x5 MV (.agg #[.bool x_g, .slice x_o x_n x_c, .int .i64 x_e]) 0) := x_F.out.keeps hbx
  have u_F : Hid (DFitA x3.heap.size x5 MV (.agg #[.bool u_g, .slice u_o u_n u_c, .int .i64 u_e]) 0) := u_F.out.keeps hbx
  have c_O : Hid (Out w.heap.size x5 (.slice (some ⟨c_b, 0, none⟩) (a_n + 3) c_c) (a_n + 3) (lentD a_d a_n)) := c_O.out.stays hbx
  have FR : Hid (Fr w x5) := FR.out.trans (Fr.of hbx)
  have HB : Hid (Below w0.heap.size w0 x5) := HB.out.trans ((hbx).mono HB.out.size)
  have HK : Hid (Kept w0.heap.size x5 k (fun g => g < w.heap.size)) := HK.out.keeps hbx
  clear hbx
  refine (back_any c_O.out (RowX.of0 HA.out HB.out (by have h1 := c_L.out; have HS0q := HS0.out; have Z2q := Z2.out; have Z3q := Z3.out; have Z4q := Z4.out; have Z5q := Z5.out; omega)) (HA.out.keeps HB.out) (by omega)).mono ?_
  rintro _ y6 ⟨rfl, hw⟩
  have Z7 : Hid (x5.heap.size ≤ y6.heap.size) := hw.size
  obtain ⟨t_cur, t_z, t_t⟩ := c_O.out.typed (g := c_b) rfl
  have x_k := numblk_wr hw t_t (by decide) x_k
  have u_k := numblk_wr hw t_t (by decide) u_k
  have x_F : Hid (DFitA y1.heap.size y6 MV (.agg #[.bool x_g, .slice x_o x_n x_c, .int .i64 x_e]) 0) := x_F.out.wr hw (by have h1 := c_L.out; have HS0q := HS0.out; have Z2q := Z2.out; have Z3q := Z3.out; have Z4q := Z4.out; have Z5q := Z5.out; have Z6q := Z6.out; omega)
  have u_F : Hid (DFitA x3.heap.size y6 MV (.agg #[.bool u_g, .slice u_o u_n u_c, .int .i64 u_e]) 0) := u_F.out.wr hw (by have h1 := c_L.out; have HS0q := HS0.out; have Z2q := Z2.out; have Z3q := Z3.out; have Z4q := Z4.out; have Z5q := Z5.out; have Z6q := Z6.out; omega)
  have FR : Hid (Fr w y6) := FR.out.wr hw (by have h1 := c_L.out; have HS0q := HS0.out; have Z2q := Z2.out; have Z3q := Z3.out; have Z4q := Z4.out; have Z5q := Z5.out; have Z6q := Z6.out; omega) (by have HS0q := HS0.out; have Z2q := Z2.out; have Z3q := Z3.out; have Z4q := Z4.out; have Z5q := Z5.out; have Z6q := Z6.out; omega)
  have HB : Hid (Below w0.heap.size w0 y6) := hw.below HB.out HB.out.size (by have h1 := c_L.out; have h0 := HS0.out; have HS0q := HS0.out; have Z2q := Z2.out; have Z3q := Z3.out; have Z4q := Z4.out; have Z5q := Z5.out; have Z6q := Z6.out; omega)
  have HK : Hid (Kept w0.heap.size y6 k (fun g => g < w.heap.size)) := HK.out.wr hw (fun (h : c_b < w.heap.size) => by have h1 := c_L.out; have HS0q := HS0.out; have Z2q := Z2.out; have Z3q := Z3.out; have Z4q := Z4.out; have Z5q := Z5.out; have Z6q := Z6.out; omega) t_t
  clear hw t_t
  have f_x0 := blkC x_k 0 rfl
  have f_x1 := blkC x_k 1 rfl
  have f_x2 := blkC x_k 2 rfl
  have f_u0 := blkC u_k 0 rfl
  have f_u1 := blkC u_k 1 rfl
  have f_u2 := blkC u_k 2 rfl
  go_wp2_with fail
  clear f_x0 f_x1 f_x2 f_u0 f_u1 f_u2
  refine (sameD_yes (fitA_num' x_F.out OM) (fitA_num' u_F.out OM)).mono ?_
  rintro _ y7 ⟨rfl, hw⟩
  have Z8 : Hid (y6.heap.size ≤ y7.heap.size) := hw.size
  have x_k := (hw.block _ (Array.getElem?_eq_some_iff.1 x_k).1).trans x_k
  have u_k := (hw.block _ (Array.getElem?_eq_some_iff.1 u_k).1).trans u_k
  have x_F : Hid (DFitA y1.heap.size y7 MV (.agg #[.bool x_g, .slice x_o x_n x_c, .int .i64 x_e]) 0) := x_F.out.keeps hw
  have u_F : Hid (DFitA x3.heap.size y7 MV (.agg #[.bool u_g, .slice u_o u_n u_c, .int .i64 u_e]) 0) := u_F.out.keeps hw
  have FR : Hid (Fr w y7) := FR.out.trans (Fr.of hw)
  have HB : Hid (Below w0.heap.size w0 y7) := HB.out.trans ((hw).mono HB.out.size)
  have HK : Hid (Kept w0.heap.size y7 k (fun g => g < w.heap.size)) := HK.out.keeps hw
  clear hw
  have f_x0 := blkC x_k 0 rfl
  have f_x1 := blkC x_k 1 rfl
  have f_x2 := blkC x_k 2 rfl
  have f_u0 := blkC u_k 0 rfl
  have f_u1 := blkC u_k 1 rfl
  have f_u2 := blkC u_k 2 rfl
  go_wp2_with fail
  clear f_x0 f_x1 f_x2 f_u0 f_u1 f_u2
  refine (keep_num HK.out ((fitA_dan' x_F.out OM).lower (by have HS0q := HS0.out; have Z2q := Z2.out; have Z3q := Z3.out; have Z4q := Z4.out; have Z5q := Z5.out; have Z6q := Z6.out; have Z7q := Z7.out; have Z8q := Z8.out; omega)) ((fitA_dan' u_F.out OM).lower (by have HS0q := HS0.out; have Z2q := Z2.out; have Z3q := Z3.out; have Z4q := Z4.out; have Z5q := Z5.out; have Z6q := Z6.out; have Z7q := Z7.out; have Z8q := Z8.out; omega)).rd OM HB.out.size (fun g hg => (show ¬ g < w.heap.size from by have h1 := x_L.out g hg; have HS0q := HS0.out; have Z2q := Z2.out; have Z3q := Z3.out; have Z4q := Z4.out; have Z5q := Z5.out; have Z6q := Z6.out; have Z7q := Z7.out; have Z8q := Z8.out; omega))).mono ?_
  rintro _ y8 ⟨rfl, hw, hk9⟩
  have Z9 : Hid (y7.heap.size ≤ y8.heap.size) := hw.below.size
  have x_k := (hw.block _ _ _ _ (by decide) (by decide) x_k).trans x_k
  have u_k := (hw.block _ _ _ _ (by decide) (by decide) u_k).trans u_k
  have x_F : Hid (DFitA y1.heap.size y8 MV (.agg #[.bool x_g, .slice x_o x_n x_c, .int .i64 x_e]) 0) := x_F.out.ik hw
  have u_F : Hid (DFitA x3.heap.size y8 MV (.agg #[.bool u_g, .slice u_o u_n u_c, .int .i64 u_e]) 0) := u_F.out.ik hw
  have FR : Hid (Fr w y8) := FR.out.trans (hw.fr)
  have HB : Hid (Below w0.heap.size w0 y8) := HB.out.trans (hw.below)
  have HK : Hid (Kept w0.heap.size y8 k (S2 (fun g => g < w.heap.size) (.slice x_o x_n x_c) y7.heap.size)) := hk9
  have HK : Hid (Kept w0.heap.size y8 k (fun g => g < y8.heap.size)) := Kept.old hk9
  clear hw hk9
  go_wp2_with fail
  refine (H64.out _ HB.out).mono ?_
  rintro _ y9 ⟨v, rfl, hA⟩
  obtain ⟨y_g, y_o, y_n, y_c, y_e, rfl⟩ := dans_shape hA
  have hw := hA.below
  have Z10 : Hid (y8.heap.size ≤ y9.heap.size) := hw.size
  have FR : Hid (Fr w y9) := FR.out.trans (Fr.of hw)
  have HB : Hid (Below w0.heap.size w0 y9) := HB.out.trans ((hw).mono HB.out.size)
  have HK : Hid (Kept w0.heap.size y9 k (fun g => g < y8.heap.size)) := HK.out.keeps hw
  have y_F : Hid (DFitA y8.heap.size y9 V64 (.agg #[.bool y_g, .slice y_o y_n y_c, .int .i64 y_e]) 0) := hA.fitA O64
  have y_L : Hid (Lies (.slice y_o y_n y_c) y8.heap.size y9.heap.size) := y_F.out.ge
  clear hw hA
  have hbx : Below y9.heap.size y9 (y9.alloc (.cells #[.bool y_g, .slice y_o y_n y_c, .int .i64 y_e] 25)) := bel_alloc _ _
  have y_k : (y9.alloc (.cells #[.bool y_g, .slice y_o y_n y_c, .int .i64 y_e] 25)).heap[y9.heap.size]? = some (.cells #[.bool y_g, .slice y_o y_n y_c, .int .i64 y_e] 25 (0, 0)) := heap_a1 _ _
  go_wp2_with fail
  generalize (y9.alloc (.cells #[.bool y_g, .slice y_o y_n y_c, .int .i64 y_e] 25)) = x10 at hbx y_k ⊢
  have Z11 : Hid (y9.heap.size ≤ x10.heap.size) := hbx.size
  have y_F : Hid (DFitA y8.heap.size x10 V64 (.agg #[.bool y_g, .slice y_o y_n y_c, .int .i64 y_e]) 0) := y_F.out.keeps hbx
  have FR : Hid (Fr w x10) := FR.out.trans (Fr.of hbx)
  have HB : Hid (Below w0.heap.size w0 x10) := HB.out.trans ((hbx).mono HB.out.size)
  have HK : Hid (Kept w0.heap.size x10 k (fun g => g < y8.heap.size)) := HK.out.keeps hbx
  clear hbx
  refine (H32.out _ HB.out).mono ?_
  rintro _ y11 ⟨v, rfl, hA⟩
  obtain ⟨z_g, z_o, z_n, z_c, z_e, rfl⟩ := dans_shape hA
  have hw := hA.below
  have Z12 : Hid (x10.heap.size ≤ y11.heap.size) := hw.size
  have y_k := (hw.block _ (Array.getElem?_eq_some_iff.1 y_k).1).trans y_k
  have y_F : Hid (DFitA y8.heap.size y11 V64 (.agg #[.bool y_g, .slice y_o y_n y_c, .int .i64 y_e]) 0) := y_F.out.keeps hw
  have FR : Hid (Fr w y11) := FR.out.trans (Fr.of hw)
  have HB : Hid (Below w0.heap.size w0 y11) := HB.out.trans ((hw).mono HB.out.size)
  have HK : Hid (Kept w0.heap.size y11 k (fun g => g < y8.heap.size)) := HK.out.keeps hw
  have z_F : Hid (DFitA x10.heap.size y11 V32 (.agg #[.bool z_g, .slice z_o z_n z_c, .int .i64 z_e]) 0) := hA.fitA O32
  have z_L : Hid (Lies (.slice z_o z_n z_c) x10.heap.size y11.heap.size) := z_F.out.ge
  clear hw hA
  have hbx : Below y11.heap.size y11 (y11.alloc (.cells #[.bool z_g, .slice z_o z_n z_c, .int .i64 z_e] 25)) := bel_alloc _ _
  have z_k : (y11.alloc (.cells #[.bool z_g, .slice z_o z_n z_c, .int .i64 z_e] 25)).heap[y11.heap.size]? = some (.cells #[.bool z_g, .slice z_o z_n z_c, .int .i64 z_e] 25 (0, 0)) := heap_a1 _ _
  go_wp2_with fail
  generalize (y11.alloc (.cells #[.bool z_g, .slice z_o z_n z_c, .int .i64 z_e] 25)) = x12 at hbx z_k ⊢
  have Z13 : Hid (y11.heap.size ≤ x12.heap.size) := hbx.size
  have y_k := (hbx.block _ (Array.getElem?_eq_some_iff.1 y_k).1).trans y_k
  have y_F : Hid (DFitA y8.heap.size x12 V64 (.agg #[.bool y_g, .slice y_o y_n y_c, .int .i64 y_e]) 0) := y_F.out.keeps hbx
  have z_F : Hid (DFitA x10.heap.size x12 V32 (.agg #[.bool z_g, .slice z_o z_n z_c, .int .i64 z_e]) 0) := z_F.out.keeps hbx
  have FR : Hid (Fr w x12) := FR.out.trans (Fr.of hbx)
  have HB : Hid (Below w0.heap.size w0 x12) := HB.out.trans ((hbx).mono HB.out.size)
  have HK : Hid (Kept w0.heap.size x12 k (fun g => g < y8.heap.size)) := HK.out.keeps hbx
  clear hbx
  refine (HCF.out _).mono ?_
  rintro _ w9 ⟨rfl, hw9⟩
  replace hw9 := hw9.symm
  subst hw9
  go_wp2_with fail
  refine (HCL.out _).mono ?_
  rintro _ w9 ⟨rfl, hw9⟩
  replace hw9 := hw9.symm
  subst hw9
  go_wp2_with fail
  have kc0 : (x12.drew.cell? ⟨y9.heap.size, 0, none⟩ = some (.bool y_g) ∧ x12.drew.cell? ⟨y9.heap.size, 1, none⟩ = some (.slice y_o y_n y_c) ∧ x12.drew.cell? ⟨y9.heap.size, 2, none⟩ = some (.int .i64 y_e)) ∧ (x12.drew.cell? ⟨y11.heap.size, 0, none⟩ = some (.bool z_g) ∧ x12.drew.cell? ⟨y11.heap.size, 1, none⟩ = some (.slice z_o z_n z_c) ∧ x12.drew.cell? ⟨y11.heap.size, 2, none⟩ = some (.int .i64 z_e)) := ⟨⟨blkC y_k 0 rfl, blkC y_k 1 rfl, blkC y_k 2 rfl⟩, ⟨blkC z_k 0 rfl, blkC z_k 1 rfl, blkC z_k 2 rfl⟩⟩
  refine wp_region_held_drew (S := fun W => (W.cell? ⟨y9.heap.size, 0, none⟩ = some (.bool y_g) ∧ W.cell? ⟨y9.heap.size, 1, none⟩ = some (.slice y_o y_n y_c) ∧ W.cell? ⟨y9.heap.size, 2, none⟩ = some (.int .i64 y_e)) ∧ (W.cell? ⟨y11.heap.size, 0, none⟩ = some (.bool z_g) ∧ W.cell? ⟨y11.heap.size, 1, none⟩ = some (.slice z_o z_n z_c) ∧ W.cell? ⟨y11.heap.size, 2, none⟩ = some (.int .i64 z_e))) (by kernel_rfl) kc0 (fun hHeld0 => ?_)
  refine wpAnyH_take (i := 0) (v := ?_) rfl (by kernel_rfl) (by kernel_rfl) (by kernel_rfl) (fun _ _ _ h => h) (Or.inl ⟨by kernel_rfl, ?_⟩) (by assumption) ?_
  rotate_left
  · intro w hSw; (try dsimp only at hSw); go_simp; first | done | with_reducible rfl
  simp only [Act.put, List.setIfInBounds_toArray, List.set_cons_zero, List.set_cons_succ, List.getElem_toArray, List.getElem_cons_zero, List.getElem_cons_succ]
  refine wpAnyH_take (i := 1) (v := ?_) rfl (by kernel_rfl) (by kernel_rfl) (by kernel_rfl) (fun _ _ _ h => h) (Or.inl ⟨by kernel_rfl, ?_⟩) (by assumption) ?_
  rotate_left
  · intro w hSw; (try dsimp only at hSw); go_simp; first | done | with_reducible rfl
  simp only [Act.put, List.setIfInBounds_toArray, List.set_cons_zero, List.set_cons_succ, List.getElem_toArray, List.getElem_cons_zero, List.getElem_cons_succ]
  refine wpAnyH_take (i := 2) (v := ?_) rfl (by kernel_rfl) (by kernel_rfl) (by kernel_rfl) (fun _ _ _ h => h) (Or.inl ⟨by kernel_rfl, ?_⟩) (by assumption) ?_
  rotate_left
  · intro w hSw; (try dsimp only at hSw); go_simp; first | done | with_reducible rfl
  simp only [Act.put, List.setIfInBounds_toArray, List.set_cons_zero, List.set_cons_succ, List.getElem_toArray, List.getElem_cons_zero, List.getElem_cons_succ]
  refine wpAnyH_take (i := 3) (v := ?_) rfl (by kernel_rfl) (by kernel_rfl) (by kernel_rfl) (fun _ _ _ h => h) (Or.inl ⟨by kernel_rfl, ?_⟩) (by assumption) ?_
  rotate_left
  · intro w hSw; (try dsimp only at hSw); go_simp; first | done | with_reducible rfl
  simp only [Act.put, List.setIfInBounds_toArray, List.set_cons_zero, List.set_cons_succ, List.getElem_toArray, List.getElem_cons_zero, List.getElem_cons_succ]
  refine wpAnyH_take (i := 4) (v := ?_) rfl (by kernel_rfl) (by kernel_rfl) (by kernel_rfl) (fun _ _ _ h => h) (Or.inl ⟨by kernel_rfl, ?_⟩) (by assumption) ?_
  rotate_left
  · intro w hSw; (try dsimp only at hSw); go_simp; first | done | with_reducible rfl
  simp only [Act.put, List.setIfInBounds_toArray, List.set_cons_zero, List.set_cons_succ, List.getElem_toArray, List.getElem_cons_zero, List.getElem_cons_succ]
  refine wpAnyH_take (i := 5) (v := ?_) rfl (by kernel_rfl) (by kernel_rfl) (by kernel_rfl) (fun _ _ _ h => h) (Or.inl ⟨by kernel_rfl, ?_⟩) (by assumption) ?_
  rotate_left
  · intro w hSw; (try dsimp only at hSw); go_simp; first | done | with_reducible rfl
  simp only [Act.put, List.setIfInBounds_toArray, List.set_cons_zero, List.set_cons_succ, List.getElem_toArray, List.getElem_cons_zero, List.getElem_cons_succ]
  refine wpAnyH_ready (rs := [6]) (by kernel_rfl) (by simp) ?_
  refine AllReadyH.cons rfl (fun K hK => ?_) AllReadyH.nil
  go_simp
  refine (HR64.out _ HB.out.drew).mono ?_
  rintro _ y13 ⟨v64, rfl, hA⟩
  have want_D := (DAns.dan hA).lower HB.out.size
  have hw := hA.below
  have hw := bel_trans (bel_refl x12).drew hw
  have Z14 : Hid (x12.heap.size ≤ y13.heap.size) := hw.size
  have y_k := (hw.block _ (Array.getElem?_eq_some_iff.1 y_k).1).trans y_k
  have z_k := (hw.block _ (Array.getElem?_eq_some_iff.1 z_k).1).trans z_k
  have y_F : Hid (DFitA y8.heap.size y13 V64 (.agg #[.bool y_g, .slice y_o y_n y_c, .int .i64 y_e]) 0) := y_F.out.keeps hw
  have z_F : Hid (DFitA x10.heap.size y13 V32 (.agg #[.bool z_g, .slice z_o z_n z_c, .int .i64 z_e]) 0) := z_F.out.keeps hw
  have FR : Hid (Fr w y13) := FR.out.trans (Fr.of hw)
  have HB : Hid (Below w0.heap.size w0 y13) := HB.out.trans ((hw).mono HB.out.size)
  have HK : Hid (Kept w0.heap.size y13 k (fun g => g < y8.heap.size)) := HK.out.keeps hw
  have kc1 : (y13.cell? ⟨y9.heap.size, 0, none⟩ = some (.bool y_g) ∧ y13.cell? ⟨y9.heap.size, 1, none⟩ = some (.slice y_o y_n y_c) ∧ y13.cell? ⟨y9.heap.size, 2, none⟩ = some (.int .i64 y_e)) ∧ (y13.cell? ⟨y11.heap.size, 0, none⟩ = some (.bool z_g) ∧ y13.cell? ⟨y11.heap.size, 1, none⟩ = some (.slice z_o z_n z_c) ∧ y13.cell? ⟨y11.heap.size, 2, none⟩ = some (.int .i64 z_e)) := ⟨⟨blkC y_k 0 rfl, blkC y_k 1 rfl, blkC y_k 2 rfl⟩, ⟨blkC z_k 0 rfl, blkC z_k 1 rfl, blkC z_k 2 rfl⟩⟩
  refine hK.out _ _ kc1 (fun hHeld1 => ?_)
  clear hK K hHeld0
  try simp only [Act.put, List.setIfInBounds_toArray, List.set_cons_zero, List.set_cons_succ, List.getElem_toArray, List.getElem_cons_zero, List.getElem_cons_succ]
  refine wpAnyH_ready (rs := [7]) (by kernel_rfl) (by simp) ?_
  refine AllReadyH.cons rfl (fun K hK => ?_) AllReadyH.nil
  go_simp
  refine (is_any HK.out (y_F.out.lower (by have HS0q := HS0.out; have Z2q := Z2.out; have Z3q := Z3.out; have Z4q := Z4.out; have Z5q := Z5.out; have Z6q := Z6.out; have Z7q := Z7.out; have Z8q := Z8.out; have Z9q := Z9.out; have Z10q := Z10.out; have Z11q := Z11.out; have Z12q := Z12.out; have Z13q := Z13.out; have Z14q := Z14.out; omega)) want_D.rd HB.out.size (fun g hg => (show ¬ g < y8.heap.size from by have h1 := y_L.out g hg; have HS0q := HS0.out; have Z2q := Z2.out; have Z3q := Z3.out; have Z4q := Z4.out; have Z5q := Z5.out; have Z6q := Z6.out; have Z7q := Z7.out; have Z8q := Z8.out; have Z9q := Z9.out; have Z10q := Z10.out; have Z11q := Z11.out; have Z12q := Z12.out; have Z13q := Z13.out; have Z14q := Z14.out; omega))).mono ?_
  rintro _ y14 ⟨rfl, hw, hk9⟩
  have Z15 : Hid (y13.heap.size ≤ y14.heap.size) := hw.below.size
  have y_k := (hw.block _ _ _ _ (by decide) (by decide) y_k).trans y_k
  have z_k := (hw.block _ _ _ _ (by decide) (by decide) z_k).trans z_k
  have y_F : Hid (DFitA y8.heap.size y14 V64 (.agg #[.bool y_g, .slice y_o y_n y_c, .int .i64 y_e]) 0) := y_F.out.ik hw
  have z_F : Hid (DFitA x10.heap.size y14 V32 (.agg #[.bool z_g, .slice z_o z_n z_c, .int .i64 z_e]) 0) := z_F.out.ik hw
  have FR : Hid (Fr w y14) := FR.out.trans (hw.fr)
  have HB : Hid (Below w0.heap.size w0 y14) := HB.out.trans (hw.below)
  have HK : Hid (Kept w0.heap.size y14 k (S2 (fun g => g < y8.heap.size) (.slice y_o y_n y_c) y13.heap.size)) := hk9
  have kc2 : (y14.cell? ⟨y9.heap.size, 0, none⟩ = some (.bool y_g) ∧ y14.cell? ⟨y9.heap.size, 1, none⟩ = some (.slice y_o y_n y_c) ∧ y14.cell? ⟨y9.heap.size, 2, none⟩ = some (.int .i64 y_e)) ∧ (y14.cell? ⟨y11.heap.size, 0, none⟩ = some (.bool z_g) ∧ y14.cell? ⟨y11.heap.size, 1, none⟩ = some (.slice z_o z_n z_c) ∧ y14.cell? ⟨y11.heap.size, 2, none⟩ = some (.int .i64 z_e)) := ⟨⟨blkC y_k 0 rfl, blkC y_k 1 rfl, blkC y_k 2 rfl⟩, ⟨blkC z_k 0 rfl, blkC z_k 1 rfl, blkC z_k 2 rfl⟩⟩
  refine hK.out _ _ kc2 (fun hHeld2 => ?_)
  clear hK K hHeld1
  try simp only [Act.put, List.setIfInBounds_toArray, List.set_cons_zero, List.set_cons_succ, List.getElem_toArray, List.getElem_cons_zero, List.getElem_cons_succ]
  refine wpAnyH_take (i := 8) (v := ?_) rfl (by kernel_rfl) (by kernel_rfl) (by kernel_rfl) (fun _ _ _ h => h) (Or.inl ⟨by kernel_rfl, ?_⟩) (by assumption) ?_
  rotate_left
  · intro w hSw; (try dsimp only at hSw); go_simp; first | done | with_reducible rfl
  simp only [Act.put, List.setIfInBounds_toArray, List.set_cons_zero, List.set_cons_succ, List.getElem_toArray, List.getElem_cons_zero, List.getElem_cons_succ]
  refine wpAnyH_take (i := 9) (v := ?_) rfl (by kernel_rfl) (by kernel_rfl) (by kernel_rfl) (fun _ _ _ h => h) (Or.inl ⟨by kernel_rfl, ?_⟩) (by assumption) ?_
  rotate_left
  · intro w hSw; (try dsimp only at hSw); go_simp; first | done | with_reducible rfl
  simp only [Act.put, List.setIfInBounds_toArray, List.set_cons_zero, List.set_cons_succ, List.getElem_toArray, List.getElem_cons_zero, List.getElem_cons_succ]
  refine wpAnyH_take (i := 10) (v := undef) rfl (by kernel_rfl) (by kernel_rfl) (by kernel_rfl) (fun _ _ _ h => h) (Or.inr ⟨by kernel_rfl, rfl⟩) (by assumption) ?_
  simp only [Act.put, List.setIfInBounds_toArray, List.set_cons_zero, List.set_cons_succ, List.getElem_toArray, List.getElem_cons_zero, List.getElem_cons_succ]
  refine wpAnyH_take (i := 11) (v := undef) rfl (by kernel_rfl) (by kernel_rfl) (by kernel_rfl) (fun _ _ _ h => h) (Or.inr ⟨by kernel_rfl, rfl⟩) (by assumption) ?_
  simp only [Act.put, List.setIfInBounds_toArray, List.set_cons_zero, List.set_cons_succ, List.getElem_toArray, List.getElem_cons_zero, List.getElem_cons_succ]
  refine wpAnyH_take (i := 12) (v := undef) rfl (by kernel_rfl) (by kernel_rfl) (by kernel_rfl) (fun _ _ _ h => h) (Or.inr ⟨by kernel_rfl, rfl⟩) (by assumption) ?_
  simp only [Act.put, List.setIfInBounds_toArray, List.set_cons_zero, List.set_cons_succ, List.getElem_toArray, List.getElem_cons_zero, List.getElem_cons_succ]
  refine wpAnyH_take (i := 13) (v := undef) rfl (by kernel_rfl) (by kernel_rfl) (by kernel_rfl) (fun _ _ _ h => h) (Or.inr ⟨by kernel_rfl, rfl⟩) (by assumption) ?_
  simp only [Act.put, List.setIfInBounds_toArray, List.set_cons_zero, List.set_cons_succ, List.getElem_toArray, List.getElem_cons_zero, List.getElem_cons_succ]
  refine wpAnyH_take (i := 14) (v := undef) rfl (by kernel_rfl) (by kernel_rfl) (by kernel_rfl) (fun _ _ _ h => h) (Or.inr ⟨by kernel_rfl, rfl⟩) (by assumption) ?_
  simp only [Act.put, List.setIfInBounds_toArray, List.set_cons_zero, List.set_cons_succ, List.getElem_toArray, List.getElem_cons_zero, List.getElem_cons_succ]
  refine wpAnyH_take (i := 15) (v := undef) rfl (by kernel_rfl) (by kernel_rfl) (by kernel_rfl) (fun _ _ _ h => h) (Or.inr ⟨by kernel_rfl, rfl⟩) (by assumption) ?_
  simp only [Act.put, List.setIfInBounds_toArray, List.set_cons_zero, List.set_cons_succ, List.getElem_toArray, List.getElem_cons_zero, List.getElem_cons_succ]
  refine wpAnyH_take (i := 16) (v := undef) rfl (by kernel_rfl) (by kernel_rfl) (by kernel_rfl) (fun _ _ _ h => h) (Or.inr ⟨by kernel_rfl, rfl⟩) (by assumption) ?_
  simp only [Act.put, List.setIfInBounds_toArray, List.set_cons_zero, List.set_cons_succ, List.getElem_toArray, List.getElem_cons_zero, List.getElem_cons_succ]
  refine wpAnyH_take (i := 17) (v := ?_) rfl (by kernel_rfl) (by kernel_rfl) (by kernel_rfl) (fun _ _ _ h => h) (Or.inl ⟨by kernel_rfl, ?_⟩) (by assumption) ?_
  rotate_left
  · intro w hSw; (try dsimp only at hSw); go_simp; first | done | with_reducible rfl
  simp only [Act.put, List.setIfInBounds_toArray, List.set_cons_zero, List.set_cons_succ, List.getElem_toArray, List.getElem_cons_zero, List.getElem_cons_succ]
  refine wpAnyH_take (i := 18) (v := ?_) rfl (by kernel_rfl) (by kernel_rfl) (by kernel_rfl) (fun _ _ _ h => h) (Or.inl ⟨by kernel_rfl, ?_⟩) (by assumption) ?_
  rotate_left
  · intro w hSw; (try dsimp only at hSw); go_simp; first | done | with_reducible rfl
  simp only [Act.put, List.setIfInBounds_toArray, List.set_cons_zero, List.set_cons_succ, List.getElem_toArray, List.getElem_cons_zero, List.getElem_cons_succ]
  refine wpAnyH_take (i := 19) (v := ?_) rfl (by kernel_rfl) (by kernel_rfl) (by kernel_rfl) (fun _ _ _ h => h) (Or.inl ⟨by kernel_rfl, ?_⟩) (by assumption) ?_
  rotate_left
  · intro w hSw; (try dsimp only at hSw); go_simp; first | done | with_reducible rfl
  simp only [Act.put, List.setIfInBounds_toArray, List.set_cons_zero, List.set_cons_succ, List.getElem_toArray, List.getElem_cons_zero, List.getElem_cons_succ]
  refine wpAnyH_take (i := 20) (v := ?_) rfl (by kernel_rfl) (by kernel_rfl) (by kernel_rfl) (fun _ _ _ h => h) (Or.inl ⟨by kernel_rfl, ?_⟩) (by assumption) ?_
  rotate_left
  · intro w hSw; (try dsimp only at hSw); go_simp; first | done | with_reducible rfl
  simp only [Act.put, List.setIfInBounds_toArray, List.set_cons_zero, List.set_cons_succ, List.getElem_toArray, List.getElem_cons_zero, List.getElem_cons_succ]
  refine wpAnyH_take (i := 21) (v := ?_) rfl (by kernel_rfl) (by kernel_rfl) (by kernel_rfl) (fun _ _ _ h => h) (Or.inl ⟨by kernel_rfl, ?_⟩) (by assumption) ?_
  rotate_left
  · intro w hSw; (try dsimp only at hSw); go_simp; first | done | with_reducible rfl
  simp only [Act.put, List.setIfInBounds_toArray, List.set_cons_zero, List.set_cons_succ, List.getElem_toArray, List.getElem_cons_zero, List.getElem_cons_succ]
  refine wpAnyH_take (i := 22) (v := ?_) rfl (by kernel_rfl) (by kernel_rfl) (by kernel_rfl) (fun _ _ _ h => h) (Or.inl ⟨by kernel_rfl, ?_⟩) (by assumption) ?_
  rotate_left
  · intro w hSw; (try dsimp only at hSw); go_simp; first | done | with_reducible rfl
  simp only [Act.put, List.setIfInBounds_toArray, List.set_cons_zero, List.set_cons_succ, List.getElem_toArray, List.getElem_cons_zero, List.getElem_cons_succ]
  refine wpAnyH_take (i := 23) (v := ?_) rfl (by kernel_rfl) (by kernel_rfl) (by kernel_rfl) (fun _ _ _ h => h) (Or.inl ⟨by kernel_rfl, ?_⟩) (by assumption) ?_
  rotate_left
  · intro w hSw; (try dsimp only at hSw); go_simp; first | done | with_reducible rfl
  simp only [Act.put, List.setIfInBounds_toArray, List.set_cons_zero, List.set_cons_succ, List.getElem_toArray, List.getElem_cons_zero, List.getElem_cons_succ]
  refine wpAnyH_take (i := 24) (v := ?_) rfl (by kernel_rfl) (by kernel_rfl) (by kernel_rfl) (fun _ _ _ h => h) (Or.inl ⟨by kernel_rfl, ?_⟩) (by assumption) ?_
  rotate_left
  · intro w hSw; (try dsimp only at hSw); go_simp; first | done | with_reducible rfl
  simp only [Act.put, List.setIfInBounds_toArray, List.set_cons_zero, List.set_cons_succ, List.getElem_toArray, List.getElem_cons_zero, List.getElem_cons_succ]
  refine wpAnyH_ready (rs := [25]) (by kernel_rfl) (by simp) ?_
  refine AllReadyH.cons rfl (fun K hK => ?_) AllReadyH.nil
  go_simp
  refine (HR32.out _ HB.out).mono ?_
  rintro _ y15 ⟨v32, rfl, hA⟩
  have want_D := (DAns.dan hA).lower HB.out.size
  have hw := hA.below
  have Z16 : Hid (y14.heap.size ≤ y15.heap.size) := hw.size
  have y_k := (hw.block _ (Array.getElem?_eq_some_iff.1 y_k).1).trans y_k
  have z_k := (hw.block _ (Array.getElem?_eq_some_iff.1 z_k).1).trans z_k
  have y_F : Hid (DFitA y8.heap.size y15 V64 (.agg #[.bool y_g, .slice y_o y_n y_c, .int .i64 y_e]) 0) := y_F.out.keeps hw
  have z_F : Hid (DFitA x10.heap.size y15 V32 (.agg #[.bool z_g, .slice z_o z_n z_c, .int .i64 z_e]) 0) := z_F.out.keeps hw
  have FR : Hid (Fr w y15) := FR.out.trans (Fr.of hw)
  have HB : Hid (Below w0.heap.size w0 y15) := HB.out.trans ((hw).mono HB.out.size)
  have HK : Hid (Kept w0.heap.size y15 k (S2 (fun g => g < y8.heap.size) (.slice y_o y_n y_c) y13.heap.size)) := HK.out.keeps hw
  have kc3 : (y15.cell? ⟨y9.heap.size, 0, none⟩ = some (.bool y_g) ∧ y15.cell? ⟨y9.heap.size, 1, none⟩ = some (.slice y_o y_n y_c) ∧ y15.cell? ⟨y9.heap.size, 2, none⟩ = some (.int .i64 y_e)) ∧ (y15.cell? ⟨y11.heap.size, 0, none⟩ = some (.bool z_g) ∧ y15.cell? ⟨y11.heap.size, 1, none⟩ = some (.slice z_o z_n z_c) ∧ y15.cell? ⟨y11.heap.size, 2, none⟩ = some (.int .i64 z_e)) := ⟨⟨blkC y_k 0 rfl, blkC y_k 1 rfl, blkC y_k 2 rfl⟩, ⟨blkC z_k 0 rfl, blkC z_k 1 rfl, blkC z_k 2 rfl⟩⟩
  refine hK.out _ _ kc3 (fun hHeld3 => ?_)
  clear hK K hHeld2
  try simp only [Act.put, List.setIfInBounds_toArray, List.set_cons_zero, List.set_cons_succ, List.getElem_toArray, List.getElem_cons_zero, List.getElem_cons_succ]
  refine wpAnyH_ready (rs := [26]) (by kernel_rfl) (by simp) ?_
  refine AllReadyH.cons rfl (fun K hK => ?_) AllReadyH.nil
  go_simp
  refine (is_any HK.out (z_F.out.lower (by have HS0q := HS0.out; have Z2q := Z2.out; have Z3q := Z3.out; have Z4q := Z4.out; have Z5q := Z5.out; have Z6q := Z6.out; have Z7q := Z7.out; have Z8q := Z8.out; have Z9q := Z9.out; have Z10q := Z10.out; have Z11q := Z11.out; have Z12q := Z12.out; have Z13q := Z13.out; have Z14q := Z14.out; have Z15q := Z15.out; have Z16q := Z16.out; omega)) want_D.rd HB.out.size (fun g hg => (notS2 (show ¬ g < y8.heap.size from by have h1 := z_L.out g hg; have HS0q := HS0.out; have Z2q := Z2.out; have Z3q := Z3.out; have Z4q := Z4.out; have Z5q := Z5.out; have Z6q := Z6.out; have Z7q := Z7.out; have Z8q := Z8.out; have Z9q := Z9.out; have Z10q := Z10.out; have Z11q := Z11.out; have Z12q := Z12.out; have Z13q := Z13.out; have Z14q := Z14.out; have Z15q := Z15.out; have Z16q := Z16.out; omega) (fun hl => by have h1 := z_L.out g hg; have h2 := y_L.out g hl; have HS0q := HS0.out; have Z2q := Z2.out; have Z3q := Z3.out; have Z4q := Z4.out; have Z5q := Z5.out; have Z6q := Z6.out; have Z7q := Z7.out; have Z8q := Z8.out; have Z9q := Z9.out; have Z10q := Z10.out; have Z11q := Z11.out; have Z12q := Z12.out; have Z13q := Z13.out; have Z14q := Z14.out; have Z15q := Z15.out; have Z16q := Z16.out; omega) (by have h1 := z_L.out g hg; have HS0q := HS0.out; have Z2q := Z2.out; have Z3q := Z3.out; have Z4q := Z4.out; have Z5q := Z5.out; have Z6q := Z6.out; have Z7q := Z7.out; have Z8q := Z8.out; have Z9q := Z9.out; have Z10q := Z10.out; have Z11q := Z11.out; have Z12q := Z12.out; have Z13q := Z13.out; have Z14q := Z14.out; have Z15q := Z15.out; have Z16q := Z16.out; omega)))).mono ?_
  rintro _ y16 ⟨rfl, hw, hk9⟩
  have Z17 : Hid (y15.heap.size ≤ y16.heap.size) := hw.below.size
  have y_k := (hw.block _ _ _ _ (by decide) (by decide) y_k).trans y_k
  have z_k := (hw.block _ _ _ _ (by decide) (by decide) z_k).trans z_k
  have y_F : Hid (DFitA y8.heap.size y16 V64 (.agg #[.bool y_g, .slice y_o y_n y_c, .int .i64 y_e]) 0) := y_F.out.ik hw
  have z_F : Hid (DFitA x10.heap.size y16 V32 (.agg #[.bool z_g, .slice z_o z_n z_c, .int .i64 z_e]) 0) := z_F.out.ik hw
  have FR : Hid (Fr w y16) := FR.out.trans (hw.fr)
  have HB : Hid (Below w0.heap.size w0 y16) := HB.out.trans (hw.below)
  have HK : Hid (Kept w0.heap.size y16 k (S2 (S2 (fun g => g < y8.heap.size) (.slice y_o y_n y_c) y13.heap.size) (.slice z_o z_n z_c) y15.heap.size)) := hk9
  have kc4 : (y16.cell? ⟨y9.heap.size, 0, none⟩ = some (.bool y_g) ∧ y16.cell? ⟨y9.heap.size, 1, none⟩ = some (.slice y_o y_n y_c) ∧ y16.cell? ⟨y9.heap.size, 2, none⟩ = some (.int .i64 y_e)) ∧ (y16.cell? ⟨y11.heap.size, 0, none⟩ = some (.bool z_g) ∧ y16.cell? ⟨y11.heap.size, 1, none⟩ = some (.slice z_o z_n z_c) ∧ y16.cell? ⟨y11.heap.size, 2, none⟩ = some (.int .i64 z_e)) := ⟨⟨blkC y_k 0 rfl, blkC y_k 1 rfl, blkC y_k 2 rfl⟩, ⟨blkC z_k 0 rfl, blkC z_k 1 rfl, blkC z_k 2 rfl⟩⟩
  refine hK.out _ _ kc4 (fun hHeld4 => ?_)
  clear hK K hHeld3
  try simp only [Act.put, List.setIfInBounds_toArray, List.set_cons_zero, List.set_cons_succ, List.getElem_toArray, List.getElem_cons_zero, List.getElem_cons_succ]
  refine wpAnyH_take (i := 27) (v := ?_) rfl (by kernel_rfl) (by kernel_rfl) (by kernel_rfl) (fun _ _ _ h => h) (Or.inl ⟨by kernel_rfl, ?_⟩) (by assumption) ?_
  rotate_left
  · intro w hSw; (try dsimp only at hSw); go_simp; first | done | with_reducible rfl
  simp only [Act.put, List.setIfInBounds_toArray, List.set_cons_zero, List.set_cons_succ, List.getElem_toArray, List.getElem_cons_zero, List.getElem_cons_succ]
  refine wpAnyH_take (i := 28) (v := ?_) rfl (by kernel_rfl) (by kernel_rfl) (by kernel_rfl) (fun _ _ _ h => h) (Or.inl ⟨by kernel_rfl, ?_⟩) (by assumption) ?_
  rotate_left
  · intro w hSw; (try dsimp only at hSw); go_simp; first | done | with_reducible rfl
  simp only [Act.put, List.setIfInBounds_toArray, List.set_cons_zero, List.set_cons_succ, List.getElem_toArray, List.getElem_cons_zero, List.getElem_cons_succ]
  refine wpAnyH_take (i := 29) (v := undef) rfl (by kernel_rfl) (by kernel_rfl) (by kernel_rfl) (fun _ _ _ h => h) (Or.inr ⟨by kernel_rfl, rfl⟩) (by assumption) ?_
  simp only [Act.put, List.setIfInBounds_toArray, List.set_cons_zero, List.set_cons_succ, List.getElem_toArray, List.getElem_cons_zero, List.getElem_cons_succ]
  refine wpAnyH_take (i := 30) (v := undef) rfl (by kernel_rfl) (by kernel_rfl) (by kernel_rfl) (fun _ _ _ h => h) (Or.inr ⟨by kernel_rfl, rfl⟩) (by assumption) ?_
  simp only [Act.put, List.setIfInBounds_toArray, List.set_cons_zero, List.set_cons_succ, List.getElem_toArray, List.getElem_cons_zero, List.getElem_cons_succ]
  refine wpAnyH_take (i := 31) (v := undef) rfl (by kernel_rfl) (by kernel_rfl) (by kernel_rfl) (fun _ _ _ h => h) (Or.inr ⟨by kernel_rfl, rfl⟩) (by assumption) ?_
  simp only [Act.put, List.setIfInBounds_toArray, List.set_cons_zero, List.set_cons_succ, List.getElem_toArray, List.getElem_cons_zero, List.getElem_cons_succ]
  refine wpAnyH_take (i := 32) (v := undef) rfl (by kernel_rfl) (by kernel_rfl) (by kernel_rfl) (fun _ _ _ h => h) (Or.inr ⟨by kernel_rfl, rfl⟩) (by assumption) ?_
  simp only [Act.put, List.setIfInBounds_toArray, List.set_cons_zero, List.set_cons_succ, List.getElem_toArray, List.getElem_cons_zero, List.getElem_cons_succ]
  refine wpAnyH_take (i := 33) (v := undef) rfl (by kernel_rfl) (by kernel_rfl) (by kernel_rfl) (fun _ _ _ h => h) (Or.inr ⟨by kernel_rfl, rfl⟩) (by assumption) ?_
  simp only [Act.put, List.setIfInBounds_toArray, List.set_cons_zero, List.set_cons_succ, List.getElem_toArray, List.getElem_cons_zero, List.getElem_cons_succ]
  refine wpAnyH_take (i := 34) (v := undef) rfl (by kernel_rfl) (by kernel_rfl) (by kernel_rfl) (fun _ _ _ h => h) (Or.inr ⟨by kernel_rfl, rfl⟩) (by assumption) ?_
  simp only [Act.put, List.setIfInBounds_toArray, List.set_cons_zero, List.set_cons_succ, List.getElem_toArray, List.getElem_cons_zero, List.getElem_cons_succ]
  refine wpAnyH_take (i := 35) (v := undef) rfl (by kernel_rfl) (by kernel_rfl) (by kernel_rfl) (fun _ _ _ h => h) (Or.inr ⟨by kernel_rfl, rfl⟩) (by assumption) ?_
  simp only [Act.put, List.setIfInBounds_toArray, List.set_cons_zero, List.set_cons_succ, List.getElem_toArray, List.getElem_cons_zero, List.getElem_cons_succ]
  refine wpAnyH_take (i := 36) (v := ?_) rfl (by kernel_rfl) (by kernel_rfl) (by kernel_rfl) (fun _ _ _ h => h) (Or.inl ⟨by kernel_rfl, ?_⟩) (by assumption) ?_
  rotate_left
  · intro w hSw; (try dsimp only at hSw); go_simp; first | done | with_reducible rfl
  simp only [Act.put, List.setIfInBounds_toArray, List.set_cons_zero, List.set_cons_succ, List.getElem_toArray, List.getElem_cons_zero, List.getElem_cons_succ]
  refine wpAnyH_take (i := 37) (v := ?_) rfl (by kernel_rfl) (by kernel_rfl) (by kernel_rfl) (fun _ _ _ h => h) (Or.inl ⟨by kernel_rfl, ?_⟩) (by assumption) ?_
  rotate_left
  · intro w hSw; (try dsimp only at hSw); go_simp; first | done | with_reducible rfl
  simp only [Act.put, List.setIfInBounds_toArray, List.set_cons_zero, List.set_cons_succ, List.getElem_toArray, List.getElem_cons_zero, List.getElem_cons_succ]
  refine wpAnyH_take (i := 38) (v := ?_) rfl (by kernel_rfl) (by kernel_rfl) (by kernel_rfl) (fun _ _ _ h => h) (Or.inl ⟨by kernel_rfl, ?_⟩) (by assumption) ?_
  rotate_left
  · intro w hSw; (try dsimp only at hSw); go_simp; first | done | with_reducible rfl
  simp only [Act.put, List.setIfInBounds_toArray, List.set_cons_zero, List.set_cons_succ, List.getElem_toArray, List.getElem_cons_zero, List.getElem_cons_succ]
  refine wpAnyH_done (by kernel_rfl) ?_ _
  go_wp2
  go_ret
  exact ⟨rfl, HB.out, _, HK.out, FR.out⟩
end Go.Proofs.YtnhkagiionkjaaaGreatDoor
