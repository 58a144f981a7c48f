/-
  Parts of the proof, one behind another.
-/
import Derived.Test.YtcmcaladmodahaaGreatDoorPart8
import Derived.Test.YtcmcaladmodahaaGreatDoorPart4
import Derived.Test.YtcmcaladmodahaaGreatDoorPart5
import Derived.Test.YtcmcaladmodahaaGreatDoorPart6
import Derived.Deep.LoopGhost
import Derived.Test.YtcmcaladmodahaaGreatDoorPart7
import Derived.Deep.RegionWith
/-
  Package dyadic: Of, Of32, Float, by contracts.
-/
namespace Go.Proofs.YtcmcaladmodahaaGreatDoor
open Go Go.RowKit Go.Proofs.YtcmcaladmodahaaGreatDoor.M
set_option linter.unusedSimpArgs false
set_option linter.unusedVariables false

/-- The cells of binary64's layout. -/
structure Lay64 (w : World) : Prop where
  a0 : w.cell? ⟨0, 0, none⟩ = some (.int .i64 52)
  a1 : w.cell? ⟨0, 1, none⟩ = some (.int .i64 2047)
  a2 : w.cell? ⟨0, 2, none⟩ = some (.int .i64 (-1074))
theorem Lay64.keeps {w w' : World} (h : Lay64 w) (hb : Below w.heap.size w w') : Lay64 w' := ⟨cell_keeps h.a0 hb, cell_keeps h.a1 hb, cell_keeps h.a2 hb⟩
/-- The cells of binary32's. -/
structure Lay32 (w : World) : Prop where
  b0 : w.cell? ⟨3, 0, none⟩ = some (.int .i64 23)
  b1 : w.cell? ⟨3, 1, none⟩ = some (.int .i64 255)
  b2 : w.cell? ⟨3, 2, none⟩ = some (.int .i64 (-149))
theorem Lay32.keeps {w w' : World} (h : Lay32 w) (hb : Below w.heap.size w w') : Lay32 w' := ⟨cell_keeps h.b0 hb, cell_keeps h.b1 hb, cell_keeps h.b2 hb⟩
theorem bitsPartsA (b : Int) (w : World) (L : Lay64 w) :
    Calls Tryz.prog 18 #[.int .i64 b] w fun e w' => e = .returned (.tuple #[.bool (pneg b), .int .i64 (pmag b), .int .i64 (pexp b), .bool (pok b)]) ∧ Below w.heap.size w w' := by
  obtain ⟨a0, a1, a2⟩ := L
  by_cases h : pok b = true
  all_goals
    go_enter Tryz.func18, Tryz.ntmps18
    go_wp2_with (go_at_call 41; refine (parts64 _ _).mono ?_; rintro e w1 ⟨rfl, hg⟩)
    refine bodyPost_ret (v := .tuple #[.bool (pneg b), .int .i64 (pmag b), .int .i64 (pexp b), .bool (pok b)]) (by simp [results, Tryz.results18, go_sem, pneg, h]) rfl ⟨rfl, hg.be⟩
theorem bitsParts32A (b : Int) (w : World) (L : Lay32 w) :
    Calls Tryz.prog 102 #[.int .i64 b] w fun e w' => e = .returned (.tuple #[.bool (pneg32 b), .int .i64 (pmag32 b), .int .i64 (pexp32 b), .bool (pok32 b)]) ∧ Below w.heap.size w w' := by
  obtain ⟨b0, b1, b2⟩ := L
  by_cases h : in32 b = true
  · by_cases h2 : pok32 b = true
    all_goals
      go_enter Tryz.func102, Tryz.ntmps102
      go_wp2_with (first
        | (go_at_call 82; refine (bitsFits32 _ _).mono ?_; rintro e w1 ⟨rfl, rfl⟩)
        | (go_at_call 41; refine (parts32 _ _ h).mono ?_; rintro e w1 ⟨rfl, hg⟩))
      refine bodyPost_ret (v := .tuple #[.bool (pneg32 b), .int .i64 (pmag32 b), .int .i64 (pexp32 b), .bool (pok32 b)]) (by simp [results, Tryz.results102, go_sem, pneg32, h2]) rfl ⟨rfl, hg.be⟩
  · have h' : in32 b = false := by simpa using h
    have h2 : pok32 b = false := by simp [pok32, h']
    go_enter Tryz.func102, Tryz.ntmps102
    go_wp2_with (go_at_call 82; refine (bitsFits32 _ _).mono ?_; rintro e w1 ⟨rfl, rfl⟩)
    refine bodyPost_ret (v := .tuple #[.bool (pneg32 b), .int .i64 (pmag32 b), .int .i64 (pexp32 b), .bool (pok32 b)]) (by simp [results, Tryz.results102, go_sem, pneg32, pmag32, pexp32, h2]) rfl ⟨rfl, bel_refl _⟩
theorem bitsJoinA (neg : Bool) (mag exp : Int) (w : World) (L : Lay64 w) (hT : Tab w) (hm : rng mag) (he : rng exp) :
    Calls Tryz.prog 34 #[.bool neg, .int .i64 mag, .int .i64 exp] w fun e w' => e = .returned (.tuple #[.int .i64 (jp neg mag exp), .bool (jk 52 2047 (-1074) mag exp)]) ∧ Below w.heap.size w w' := by
  obtain ⟨a0, a1, a2⟩ := L
  have hb := jv_le (mag := mag) (exp := exp) hm
  have ho := or_i64_sign (jv 52 2047 (-1074) mag exp) (by omega) (by omega)
  have Ho := keepIt ho
  clear ho
  cases hk : jk 52 2047 (-1074) mag exp
  all_goals
    have HK := keepIt hk
    cases neg
    all_goals
      go_enter Tryz.func34, Tryz.ntmps34
      go_wp2_with (go_at_call 65; refine (join64 _ _ _ hT hm he).mono ?_; rintro e w1 ⟨rfl, hg⟩)
      go_ret2
      exact ⟨ret_ib (by simp [jp, HK.out, Ho.out]) (by simp [HK.out]), hg.be⟩
theorem pmag_in {b : Int} (hp : pok b = true) : 0 ≤ pmag b ∧ pmag b < 9007199254740992 ∧ -1074 ≤ pexp b ∧ pexp b ≤ 971 := by
  have hf := fld_le b
  have hr := frc_le b
  have h1 : fld b ≠ 2047 := by simpa [pok] using hp
  unfold pmag pexp
  rw [if_neg h1, if_neg h1]
  split <;> omega
theorem pmag32_in {b : Int} (hp : pok32 b = true) : 0 ≤ pmag32 b ∧ pmag32 b < 16777216 ∧ -149 ≤ pexp32 b ∧ pexp32 b ≤ 104 := by
  have hf := fld32_le b
  have hr := frc32_le b
  have h1 : fld32 b ≠ 255 := by
    intro h
    simp [pok32, h] at hp
  unfold pmag32 pexp32
  rw [if_pos hp, if_pos hp]
  split <;> omega
theorem ofNat_any (x : Int) (w : World) (h0 : 0 ≤ x) (h1 : x < 9223372036854775808) :
    Calls Tryz.prog 40 #[.int .i64 x] w fun e w' => ∃ v, e = .returned (.tuple #[v, .int .i64 0]) ∧ Ans w w' x v := by
  have HX := digits_nat x w h0 h1
  have HX' : Hid (Calls Tryz.prog 70 #[.int .i64 x] w fun e w' => ∃ v, e = .returned v ∧ Ans w w' x v) := HX
  clear HX h1
  go_enter Tryz.func40, Tryz.ntmps40
  go_wp2_with fail
  refine HX'.out.mono ?_
  rintro e w2 ⟨v, rfl, hA⟩
  go_wp2
  go_ret2
  exact ⟨_, rfl, hA⟩
theorem P2000_big2 : 9223372036854775808 < P 2000 := by
  have := P_le (show 3 ≤ 2000 by omega)
  have e : P 3 = 1237940039285380274899124224 := rfl
  omega
/-- A finite float's worth has a valid form. -/
theorem dok_small {ng : Bool} {M e : Int} (h0 : 0 ≤ M) (h1 : M < 9223372036854775808) (e0 : -1074 ≤ e) (e1 : e ≤ 971) : Dok (sg ng M * pw e) := by
  by_cases hz : M = 0
  · rw [hz, sg_zero, Int.zero_mul]; exact dok_zero
  · obtain ⟨l, hl⟩ := isLow_ex (show 0 < M by omega)
    have hy := Dy.of ng hl (show 0 < M by omega) (show -4194304 ≤ e by omega)
    obtain ⟨c1, c2, c3⟩ := isLow_odd hl (show 0 < M by omega)
    have hp := two_pos l
    have hl63 : l < 63 := by
      have h3 : (1 : Int) * 2 ^ l ≤ M / 2 ^ l * 2 ^ l := Int.mul_le_mul_of_nonneg_right (by omega) (by omega)
      rw [c3] at h3
      refine two_lt_iff ?_
      rw [show (2 : Int) ^ 63 = 9223372036854775808 by decide]
      omega
    refine hy.ok.2 ⟨?_, by omega, by omega⟩
    have : M / 2 ^ l ≤ M := Int.ediv_le_self _ h0
    have := P2000_big2
    omega
set_option maxRecDepth 100000 in
set_option maxHeartbeats 1000000 in
theorem value_yes (ng : Bool) (M e : Int) (w : World) (hT : Tab w) (h0 : 0 ≤ M) (h1 : M < 9223372036854775808) (e0 : -1074 ≤ e) (e1 : e ≤ 971) :
    Calls Tryz.prog 17 #[.bool ng, .int .i64 M, .int .i64 e, .bool true] w fun r w' => ∃ v, r = .returned (.tuple #[v, .int .i64 0]) ∧ DAns w w' (sg ng M * pw e) v := by
  have hok := dok_small (ng := ng) h0 h1 e0 e1
  go_enter Tryz.func17, Tryz.ntmps17
  go_wp2_with fail
  refine (ofNat_any M _ h0 h1).mono ?_
  rintro r w1 ⟨v, rfl, hA⟩
  obtain ⟨so, sn, sc, d, rfl, hR, hN, hv⟩ := hA.num
  have hsn : sn ≤ 100 := hA.num.len (k := 100) (by have := P_le (show 3 ≤ 100 by omega); have : P 3 = 1237940039285380274899124224 := rfl; omega)
  have hbw := bel_trans (bel_alloc w _) hA.below
  go_wp2_with fail
  refine (settle_any (V := sg ng M * pw e) hR hN.1 (by omega) (hT.keeps hbw) (by omega) (by rw [hv])).mono ?_
  rintro r w7 (⟨_, v, rfl, hD⟩ | ⟨hno, _⟩)
  · have hb7 := hD.below
    obtain ⟨ng', s', m', e', rfl, hyy, hA2⟩ := id hD
    obtain ⟨so', sn', sc', rfl⟩ := hA2.num.shape
    have q0 := ((bel_trans hA.below hb7).block w.heap.size (by rw [size1]; omega)).trans (heap_a1 _ _)
    have x0 := blkC q0 0 rfl
    have x1 := blkC q0 1 rfl
    have x2 := blkC q0 2 rfl
    have z0 := blkF q0 0
    have z1 := blkF q0 1
    have z2 := blkF q0 2
    go_wp2
    refine bodyPost_ret (v := .tuple #[.agg #[.bool ng', .slice so' sn' sc', .int .i64 e'], .int .i64 0]) (by simp [results, Tryz.results17, go_sem, x0, x1, x2]) rfl ⟨_, rfl, ?_⟩
    exact dans_res3 (g := w.heap.size) hD hbw (Nat.le_refl _) (Nat.lt_of_lt_of_le (by rw [size1]; omega) hA.below.size) _ _ _
  · exact absurd hok hno
set_option maxRecDepth 100000 in
theorem value_no (ng : Bool) (M e : Int) (w : World) :
    Calls Tryz.prog 17 #[.bool ng, .int .i64 M, .int .i64 e, .bool false] w fun r w' => r = .returned (.tuple #[zeroV, .int .i64 10]) ∧ Below w.heap.size w w' := by
  go_enter Tryz.func17, Tryz.ntmps17
  go_wp2
  refine bodyPost_ret (v := .tuple #[zeroV, .int .i64 10]) (by simp [results, Tryz.results17, go_sem, zeroV]) rfl ⟨rfl, ?_⟩
  exact bel_alloc _ _
set_option maxRecDepth 100000 in
set_option maxHeartbeats 1000000 in
theorem dof_any (b : Int) (w : World) (L : Lay64 w) (hT : Tab w) :
    Calls Tryz.prog 6 #[.int .i64 b] w fun r w' => ∃ v er, r = .returned (.tuple #[v, .int .i64 er]) ∧ Below w.heap.size w w' ∧ ((pok b = true ∧ er = 0 ∧ DAns w w' (sg (pneg b) (pmag b) * pw (pexp b)) v) ∨ (pok b = false ∧ er = 10 ∧ v = zeroV)) := by
  have hVy : pok b = true → ∀ W, Below w.heap.size w W → Calls Tryz.prog 17 #[.bool (pneg b), .int .i64 (pmag b), .int .i64 (pexp b), .bool true] W fun r w' => ∃ v, r = .returned (.tuple #[v, .int .i64 0]) ∧ DAns W w' (sg (pneg b) (pmag b) * pw (pexp b)) v := fun hp W hb => by
    have hi := pmag_in hp
    exact value_yes _ _ _ W (hT.keeps hb) (by omega) (by omega) (by omega) (by omega)
  have hP := fun W hb => bitsPartsA b W (L.keeps hb)
  generalize sg (pneg b) (pmag b) * pw (pexp b) = V at hVy ⊢
  generalize pneg b = ng at *
  generalize pmag b = mg at *
  generalize pexp b = ex at *
  clear L hT
  cases hp : pok b
  · rw [hp] at hP hVy
    go_enter Tryz.func6, Tryz.ntmps6
    go_wp2_with fail
    refine (hP _ (bel_alloc _ _)).mono ?_
    rintro r w1 ⟨rfl, hb1⟩
    go_wp2_with fail
    refine (value_no _ _ _ _).mono ?_
    unfold zeroV
    rintro r w2 ⟨rfl, hb2⟩
    have hbw := bel_trans (bel_alloc w (.cells #[.bool false, .slice none 0 0, .int .i64 0] 24)) (bel_trans hb1 hb2)
    have q0 := ((bel_trans hb1 hb2).block w.heap.size (by rw [size1]; omega)).trans (heap_a1 _ _)
    have x0 := blkC q0 0 rfl
    have x1 := blkC q0 1 rfl
    have x2 := blkC q0 2 rfl
    have z0 := blkF q0 0
    have z1 := blkF q0 1
    have z2 := blkF q0 2
    go_wp2
    refine bodyPost_ret (v := .tuple #[zeroV, .int .i64 10]) (by simp [results, Tryz.results6, go_sem, x0, x1, x2, zeroV]) rfl ⟨_, _, rfl, ?_, .inr ⟨by trivial, rfl, rfl⟩⟩
    exact bel_set3 hbw (Nat.le_refl _) _ _ _
  · rw [hp] at hP hVy
    go_enter Tryz.func6, Tryz.ntmps6
    go_wp2_with fail
    refine (hP _ (bel_alloc _ _)).mono ?_
    rintro r w1 ⟨rfl, hb1⟩
    have hbw := bel_trans (bel_alloc w (.cells #[.bool false, .slice none 0 0, .int .i64 0] 24)) hb1
    go_wp2_with fail
    refine (hVy (by trivial) _ hbw).mono ?_
    rintro r w2 ⟨v, rfl, hD⟩
    obtain ⟨ng', s', m', e', rfl, hyy, hA2⟩ := id hD
    obtain ⟨so', sn', sc', rfl⟩ := hA2.num.shape
    have q0 := ((bel_trans hb1 hD.below).block w.heap.size (by rw [size1]; omega)).trans (heap_a1 _ _)
    have x0 := blkC q0 0 rfl
    have x1 := blkC q0 1 rfl
    have x2 := blkC q0 2 rfl
    have z0 := blkF q0 0
    have z1 := blkF q0 1
    have z2 := blkF q0 2
    go_wp2
    refine bodyPost_ret (v := .tuple #[.agg #[.bool ng', .slice so' sn' sc', .int .i64 e'], .int .i64 0]) (by simp [results, Tryz.results6, go_sem, x0, x1, x2]) rfl ⟨_, _, rfl, ?_, .inl ⟨by trivial, rfl, ?_⟩⟩
    · exact bel_set3 (bel_trans hbw hD.below) (Nat.le_refl _) _ _ _
    · exact dans_res3 (g := w.heap.size) hD hbw (Nat.le_refl _) (Nat.lt_of_lt_of_le (by rw [size1]; omega) hb1.size) _ _ _
set_option maxRecDepth 100000 in
set_option maxHeartbeats 1000000 in
theorem dof32_any (b : Int) (w : World) (L : Lay32 w) (hT : Tab w) :
    Calls Tryz.prog 79 #[.int .i64 b] w fun r w' => ∃ v er, r = .returned (.tuple #[v, .int .i64 er]) ∧ Below w.heap.size w w' ∧ ((pok32 b = true ∧ er = 0 ∧ DAns w w' (sg (pneg32 b) (pmag32 b) * pw (pexp32 b)) v) ∨ (pok32 b = false ∧ er = 10 ∧ v = zeroV)) := by
  have hVy : pok32 b = true → ∀ W, Below w.heap.size w W → Calls Tryz.prog 17 #[.bool (pneg32 b), .int .i64 (pmag32 b), .int .i64 (pexp32 b), .bool true] W fun r w' => ∃ v, r = .returned (.tuple #[v, .int .i64 0]) ∧ DAns W w' (sg (pneg32 b) (pmag32 b) * pw (pexp32 b)) v := fun hp W hb => by
    have hi := pmag32_in hp
    exact value_yes _ _ _ W (hT.keeps hb) (by omega) (by omega) (by omega) (by omega)
  have hP := fun W hb => bitsParts32A b W (L.keeps hb)
  generalize sg (pneg32 b) (pmag32 b) * pw (pexp32 b) = V at hVy ⊢
  generalize pneg32 b = ng at *
  generalize pmag32 b = mg at *
  generalize pexp32 b = ex at *
  clear L hT
  cases hp : pok32 b
  · rw [hp] at hP hVy
    go_enter Tryz.func79, Tryz.ntmps79
    go_wp2_with fail
    refine (hP _ (bel_alloc _ _)).mono ?_
    rintro r w1 ⟨rfl, hb1⟩
    go_wp2_with fail
    refine (value_no _ _ _ _).mono ?_
    unfold zeroV
    rintro r w2 ⟨rfl, hb2⟩
    have hbw := bel_trans (bel_alloc w (.cells #[.bool false, .slice none 0 0, .int .i64 0] 24)) (bel_trans hb1 hb2)
    have q0 := ((bel_trans hb1 hb2).block w.heap.size (by rw [size1]; omega)).trans (heap_a1 _ _)
    have x0 := blkC q0 0 rfl
    have x1 := blkC q0 1 rfl
    have x2 := blkC q0 2 rfl
    have z0 := blkF q0 0
    have z1 := blkF q0 1
    have z2 := blkF q0 2
    go_wp2
    refine bodyPost_ret (v := .tuple #[zeroV, .int .i64 10]) (by simp [results, Tryz.results79, go_sem, x0, x1, x2, zeroV]) rfl ⟨_, _, rfl, ?_, .inr ⟨by trivial, rfl, rfl⟩⟩
    exact bel_set3 hbw (Nat.le_refl _) _ _ _
  · rw [hp] at hP hVy
    go_enter Tryz.func79, Tryz.ntmps79
    go_wp2_with fail
    refine (hP _ (bel_alloc _ _)).mono ?_
    rintro r w1 ⟨rfl, hb1⟩
    have hbw := bel_trans (bel_alloc w (.cells #[.bool false, .slice none 0 0, .int .i64 0] 24)) hb1
    go_wp2_with fail
    refine (hVy (by trivial) _ hbw).mono ?_
    rintro r w2 ⟨v, rfl, hD⟩
    obtain ⟨ng', s', m', e', rfl, hyy, hA2⟩ := id hD
    obtain ⟨so', sn', sc', rfl⟩ := hA2.num.shape
    have q0 := ((bel_trans hb1 hD.below).block w.heap.size (by rw [size1]; omega)).trans (heap_a1 _ _)
    have x0 := blkC q0 0 rfl
    have x1 := blkC q0 1 rfl
    have x2 := blkC q0 2 rfl
    have z0 := blkF q0 0
    have z1 := blkF q0 1
    have z2 := blkF q0 2
    go_wp2
    refine bodyPost_ret (v := .tuple #[.agg #[.bool ng', .slice so' sn' sc', .int .i64 e'], .int .i64 0]) (by simp [results, Tryz.results79, go_sem, x0, x1, x2]) rfl ⟨_, _, rfl, ?_, .inl ⟨by trivial, rfl, ?_⟩⟩
    · exact bel_set3 (bel_trans hbw hD.below) (Nat.le_refl _) _ _ _
    · exact dans_res3 (g := w.heap.size) hD hbw (Nat.le_refl _) (Nat.lt_of_lt_of_le (by rw [size1]; omega) hb1.size) _ _ _
end Go.Proofs.YtcmcaladmodahaaGreatDoor

/-
  Package round: way.beyond, value.binary64, by their contracts.
-/
namespace Go.Proofs.YtcmcaladmodahaaGreatDoor
open Go Go.RowKit Go.Proofs.YtcmcaladmodahaaGreatDoor.M
set_option linter.unusedSimpArgs false
set_option linter.unusedVariables false

/-- The rung of what is too great. -/
def bRung (way : Int) (ng : Bool) : Int := if rUp way ng true 3 then 9218868437227405312 else 9218868437227405311
/-- A pattern of a sign and a rung. -/
def patS (ng : Bool) (r : Int) : Int := if ng then r - 9223372036854775808 else r
theorem or_inf : bits BinOp.or IntKind.i64 9218868437227405312 (-9223372036854775808) = -4503599627370496 := by decide +kernel
theorem or_most : bits BinOp.or IntKind.i64 9218868437227405311 (-9223372036854775808) = -4503599627370497 := by decide +kernel
theorem Env.keeps {w w' : World} (h : Env w) (hb : Below w.heap.size w w') : Env w' :=
  ⟨⟨cell_keeps h.lays.a0 hb, cell_keeps h.lays.a1 hb, cell_keeps h.lays.a2 hb, cell_keeps h.lays.b0 hb, cell_keeps h.lays.b1 hb, cell_keeps h.lays.b2 hb⟩, fun j hj => cell_keeps (h.tab j hj) hb⟩
set_option maxRecDepth 100000 in
set_option maxHeartbeats 1000000 in
theorem beyond_any (way : Int) (hw : 0 ≤ way ∧ way ≤ 3) (ng : Bool) (w : World) :
    Calls Tryz.prog 35 #[wayV way, .bool ng, .int .i64 9218868437227405312, .int .i64 (-9223372036854775808)] w fun e w' => e = .returned (.int .i64 (patS ng (bRung way ng))) ∧ Below w.heap.size w w' := by
  have hF := wraise_any way hw
  have hE := wraise_enter way
  unfold wayV bRung
  generalize wayF way = F at hF hE ⊢
  have q0 := heap_alloc_new w (.cells #[.func (.func F) #[] #[]] 60)
  have k0 := blkC q0 0 rfl
  have o1 := or_inf
  have o2 := or_most
  obtain ⟨R, hR⟩ : ∃ R, rUp way ng true 3 = R := ⟨_, rfl⟩
  have hFF := hF ng true 3
  rw [hR] at hFF ⊢
  clear hR hF
  cases ng <;> cases R
  all_goals
    unfold patS
    go_enter Tryz.func35, Tryz.ntmps35
    go_wp2_with (first | (refine (hFF _).mono ?_; rintro _ _ ⟨rfl, rfl⟩))
    all_goals go_ret
    all_goals exact ⟨by simp, bel_alloc _ _⟩
/-- What a value is rounded to. -/
def r64 (way : Int) (ng sd : Bool) (mag : Nat) (exp : Int) (cut : Bool) : Int × Bool :=
  let E := rE 53 (-1074) mag exp
  let u := rU mag (E - exp)
  let left := rL mag cut (E - exp)
  let U := u + (if rUp way ng (decide (u % 2 = 1)) left then 1 else 0)
  let neg := ng && (decide (0 < U) || sd)
  if jk 52 2047 (-1074) U E then (jp neg U E, decide (left ≠ 0)) else (patS neg (bRung way neg), true)
set_option maxRecDepth 100000 in
set_option maxHeartbeats 1000000 in
theorem binary64_any (way : Int) (hw : 0 ≤ way ∧ way ≤ 3) (ng sd : Bool) (mag : Nat) (exp : Int) (cut : Bool) (w : World) (Ev : Env w) (hm : mag < 18446744073709551616) (he : -4500000 ≤ exp ∧ exp ≤ 4500000) :
    Calls Tryz.prog 15 #[valV ng mag exp cut sd, wayV way] w fun e w' => e = .returned (.tuple #[.int .i64 (r64 way ng sd mag exp cut).1, .bool (r64 way ng sd mag exp cut).2]) ∧ Below w.heap.size w w' := by
  have e64 : (2 : Nat) ^ 64 = 18446744073709551616 := by decide
  have e53 : (2 : Nat) ^ (53 : Int).toNat = 9007199254740992 := by decide
  have hE : -5000000 ≤ rE 53 (-1074) mag exp ∧ rE 53 (-1074) mag exp ≤ 5000000 := by
    have hbl : Lib.bitLen mag ≤ 64 := by
      by_cases h0 : mag = 0
      · rw [h0]; decide
      · exact (M.bitLen_spec mag (by omega) h0).2.2.2
    unfold rE
    omega
  have hu : rU mag (rE 53 (-1074) mag exp - exp) ≤ 9007199254740991 := by
    by_cases h0 : mag = 0
    · rw [h0]; unfold rU; split <;> simp
    · have := (rU_bits (size := 53) (low := -1074) (exp := exp) (by decide) (by omega) h0).1
      rw [e53] at this
      omega
  have hUn := fun W => units_any way hw ng mag exp (rE 53 (-1074) mag exp) cut sd W hm hE (by omega) (by omega)
  have HR : r64 way ng sd mag exp cut = (let E := rE 53 (-1074) mag exp
    let u := rU mag (E - exp)
    let left := rL mag cut (E - exp)
    let U := u + (if rUp way ng (decide (u % 2 = 1)) left then 1 else 0)
    let neg := ng && (decide (0 < U) || sd)
    if jk 52 2047 (-1074) U E then (jp neg U E, decide (left ≠ 0)) else (patS neg (bRung way neg), true)) := rfl
  simp only at HR
  have hEE : rE 53 (-1074) mag exp = rE 53 (-1074) mag exp := rfl
  obtain ⟨E, hEq⟩ : ∃ E, rE 53 (-1074) mag exp = E := ⟨_, rfl⟩
  rw [hEq] at hE hu hUn HR
  obtain ⟨left, hleft⟩ : ∃ l, rL mag cut (E - exp) = l := ⟨_, rfl⟩
  rw [hleft] at hUn HR
  obtain ⟨U, hU⟩ : ∃ U, rU mag (E - exp) + (if rUp way ng (decide (rU mag (E - exp) % 2 = 1)) left then 1 else 0) = U := ⟨_, rfl⟩
  rw [hU] at hUn HR
  have hU2 : U ≤ 9007199254740992 := by rw [← hU]; split <;> omega
  obtain ⟨neg, hneg⟩ : ∃ n, (ng && (decide (0 < U) || sd)) = n := ⟨_, rfl⟩
  have hFl := fun W => float_F (wayF way) ng mag exp 53 (-1074) cut sd U E (decide (left ≠ 0)) W hm he (by omega) (by omega) hEq (by omega) hUn
  rw [hneg] at hFl HR
  have hJ := fun W (EW : Env W) => bitsJoin neg (U : Int) E W EW (by unfold rng; omega) (by unfold rng; omega)
  have hB := fun W => beyond_any way hw neg W
  obtain ⟨other, hoth⟩ : ∃ o, decide (left ≠ 0) = o := ⟨_, rfl⟩
  rw [hoth] at hFl HR
  obtain ⟨fin, hfin⟩ : ∃ f, jk 52 2047 (-1074) (U : Int) E = f := ⟨_, rfl⟩
  obtain ⟨pt, hpt⟩ : ∃ p, jp neg (U : Int) E = p := ⟨_, rfl⟩
  rw [hpt] at hJ HR
  rw [hfin] at hJ HR
  obtain ⟨by1, hby⟩ : ∃ b, patS neg (bRung way neg) = b := ⟨_, rfl⟩
  rw [hby] at hB HR
  rw [HR]
  have hUi : ((U : Nat) : Int) = ((U : Nat) : Int) := rfl
  have hb2 := bel_alloc2 w (.cells #[.bool ng, .int .u64 mag, .int .i64 exp, .bool cut, .bool sd] 43) (.cells #[.func (.func (wayF way)) #[] #[]] 60)
  have q1 := heap_b2 w (.cells #[.bool ng, .int .u64 mag, .int .i64 exp, .bool cut, .bool sd] 43) (.cells #[.func (.func (wayF way)) #[] #[]] 60)
  have k1 := blkC q1 0 rfl
  have HEV : Hid (Env w) := Ev
  clear Ev HR hUn hEq hleft hU hneg hoth hfin hpt hby hU2 hu hE hEE hUi e64 e53
  unfold wayV valV at *
  generalize wayF way = F at *
  go_enter Tryz.func15, Tryz.ntmps15
  go_wp2_with fail
  refine (hFl _).mono ?_
  rintro _ w1 ⟨rfl, hb1⟩
  have hbw := bel_trans hb2 hb1
  have p1 := (hb1.block _ (Array.getElem?_eq_some_iff.1 q1).1).trans q1
  have k2 := blkC p1 0 rfl
  clear hFl hb2 hb1 q1 k1
  go_wp2_with fail
  refine (hJ _ (HEV.out.keeps hbw)).mono ?_
  rintro _ w2 ⟨rfl, hg⟩
  have hb2 := hg.be
  have hbw2 := bel_trans hbw hb2
  have p2 := (hb2.block _ (Array.getElem?_eq_some_iff.1 p1).1).trans p1
  have k3 := blkC p2 0 rfl
  clear hJ hg p1 p2 k2 hb2 hbw
  cases fin
  · go_wp2_with fail
    refine (hB _).mono ?_
    rintro _ w3 ⟨rfl, hb3⟩
    go_wp2
    all_goals go_ret2
    all_goals exact ⟨by simp, bel_trans hbw2 hb3⟩
  · go_wp2
    all_goals go_ret2
    all_goals exact ⟨by simp, hbw2⟩
end Go.Proofs.YtcmcaladmodahaaGreatDoor

/-
  Package nat: root, Root, by contracts: for every number.
-/
namespace Go.Proofs.YtcmcaladmodahaaGreatDoor
open Go Go.RowKit Go.Proofs.YtcmcaladmodahaaGreatDoor.M
set_option linter.unusedSimpArgs false
set_option linter.unusedVariables false

/-- The square root, cut: the greatest s with s s <= A. -/
def IsRoot (A s : Int) : Prop := 0 ≤ s ∧ s * s ≤ A ∧ A < (s + 1) * (s + 1)
theorem root_above {A s : Int} (hA : 0 ≤ A) (hs : 0 < s) (h : A < s * s) : ∀ r, r * r ≤ A → r < s := fun r hr => by
  rcases Int.lt_or_le r s with q | q
  · exact q
  · have := Int.mul_le_mul q q (by omega) (by omega)
    omega
/-- s is not below the root. -/
def Abv (A s : Int) : Prop := ∀ r, 0 ≤ r → r * r ≤ A → r ≤ s
theorem abv_start {A : Int} (hA : 0 ≤ A) {k : Nat} (h : A < 2 ^ (2 * k)) : Abv A (2 ^ k) := fun r h0 hr => by
  rcases Int.lt_or_le (2 ^ k) r with q | q
  · have h1 := Int.mul_le_mul (Int.le_of_lt q) (Int.le_of_lt q) (Int.le_of_lt (two_pos k)) h0
    rw [← Int.pow_add, ← Nat.two_mul] at h1
    omega
  · exact q
theorem abv_next {A s : Int} (hs : 0 < s) (h : Abv A s) : Abv A ((s + A / s) / 2) := fun r h0 hr => newton_above hs hr
theorem abv_done {A s : Int} (hs : 0 < s) (h : Abv A s) (hst : s ≤ (s + A / s) / 2) : IsRoot A s := by
  refine ⟨by omega, newton_stop hs hst, ?_⟩
  rcases Int.lt_or_le A ((s + 1) * (s + 1)) with q | q
  · exact q
  · have := h (s + 1) (by omega) q
    omega
theorem Num.parts {w : World} {v : Value} {V : Int} (h : Num w v V) {k : Nat} (hV : V < P k) : ∃ ao n cap d, v = .slice ao n cap ∧ Row w ao n cap d ∧ Nrm d n ∧ val d n = V ∧ n ≤ k := by
  obtain ⟨ao, n, cap, rfl⟩ := h.shape
  have hl := h.len hV
  obtain ⟨ao', n', cap', d, e, hR, h2, h3⟩ := h
  simp only [Value.slice.injEq] at e
  obtain ⟨rfl, rfl, rfl⟩ := e
  exact ⟨ao, n, cap, d, rfl, hR, h2, h3, hl⟩
theorem divide_num {w : World} {x y : Value} {A B : Int} (hx : Num w x A) (hy : Num w y B) (hA : A < P 5000) (hB : 0 < B) :
    Calls Tryz.prog 72 #[x, y] w fun e w' => ∃ v1 v2, e = .returned (.tuple #[v1, v2]) ∧ Ans2 w w' (A / B) v1 (A % B) v2 := by
  obtain ⟨ao, n, ca, d, rfl, hR, h2, rfl, hl⟩ := hx.parts hA
  obtain ⟨bo, m, cb, e, rfl, kR, k2, rfl⟩ := hy
  have hm : 0 < m := by
    by_cases h : 0 < m
    · exact h
    · obtain rfl : m = 0 := by omega
      exact absurd hB (Int.lt_irrefl 0)
  exact divide_any _ _ _ _ _ _ _ _ _ hR kR h2 k2 hl hm
theorem sum_num {w : World} {x y : Value} {A B : Int} (hx : Num w x A) (hy : Num w y B) (hA : A < P 5000) (hB : B < P 5000) :
    Calls Tryz.prog 94 #[x, y] w fun e w' => ∃ v, e = .returned v ∧ Ans w w' (A + B) v := by
  obtain ⟨ao, n, ca, d, rfl, hR, h2, rfl, hl⟩ := hx.parts hA
  obtain ⟨bo, m, cb, e, rfl, kR, k2, rfl, kl⟩ := hy.parts hB
  exact sum_any _ _ _ _ _ _ _ _ _ hR kR h2.1 k2.1 (by omega) (by omega)
theorem lower_num {w : World} {x : Value} {A : Int} (hx : Num w x A) (hA : A < P 6000) (k : Nat) (hk : (k : Int) < 9223372036854775808) :
    Calls Tryz.prog 54 #[x, .int .i64 k] w fun e w' => ∃ v, e = .returned v ∧ Ans w w' (A / 2 ^ k) v := by
  obtain ⟨ao, n, ca, d, rfl, hR, h2, rfl, hl⟩ := hx.parts hA
  exact lower_any _ _ _ _ _ _ hR h2.1 (by omega) hk
theorem lower_half {w : World} {x : Value} {A : Int} (hx : Num w x A) (hA : A < P 6000) :
    Calls Tryz.prog 54 #[x, .int .i64 1] w fun e w' => ∃ v, e = .returned v ∧ Ans w w' (A / 2) v := lower_num hx hA 1 (by decide)
theorem compare_num {w : World} {x y : Value} {A B : Int} (hx : Num w x A) (hy : Num w y B) :
    Calls Tryz.prog 87 #[x, y] w fun e w' => e = .returned (.int .i64 (ord A B)) ∧ Below w.heap.size w w' := by
  obtain ⟨ao, n, ca, d, rfl, hR, h2, rfl⟩ := hx
  obtain ⟨bo, m, cb, e, rfl, kR, k2, rfl⟩ := hy
  exact compare_any _ _ _ _ _ _ _ _ _ hR kR h2 k2
theorem raise_num {w : World} {x : Value} {A : Int} (hx : Num w x A) (hA : A < P 5000) (k : Nat) (hk : k ≤ 1000000) :
    Calls Tryz.prog 67 #[x, .int .i64 k] w fun e w' => ∃ v, e = .returned v ∧ Ans w w' (A * 2 ^ k) v := by
  obtain ⟨ao, n, ca, d, rfl, hR, h2, rfl, hl⟩ := hx.parts hA
  exact raise_any _ _ _ _ _ _ hR h2.1 (by omega) hk
theorem difference_num {w : World} {x y : Value} {A B : Int} (hx : Num w x A) (hy : Num w y B) (hA : A < P 5000) (hle : B ≤ A) :
    Calls Tryz.prog 69 #[x, y] w fun e w' => ∃ v, e = .returned v ∧ Ans w w' (A - B) v := by
  obtain ⟨ao, n, ca, d, rfl, hR, h2, rfl, hl⟩ := hx.parts hA
  obtain ⟨bo, m, cb, e, rfl, kR, k2, rfl⟩ := hy
  exact difference_any _ _ _ _ _ _ _ _ _ hR kR h2.1 k2.1 (by omega) (nrm_le_len k2 h2.1 hle) hle
theorem bitLength_num {w : World} {x : Value} {A : Int} (hx : Num w x A) (hA : A < P 5000) :
    Calls Tryz.prog 36 #[x] w fun e w' => e = .returned (.int .i64 (blen A)) ∧ w' = w := by
  obtain ⟨ao, n, ca, d, rfl, hR, h2, rfl, hl⟩ := hx.parts hA
  exact bitLength_any _ _ _ _ _ hR h2 (by omega)

/-- A root that is answered. -/
def RootA (w w' : World) (A : Int) (v : Value) : Prop := ∃ s, Ans w w' s v ∧ IsRoot A s
theorem root_bnd {A s : Int} (hA : A < P 2000) (hA0 : 0 ≤ A) (hs : 0 < s) (h3 : s < P 3000) : A / s < P 5000 ∧ s < P 5000 ∧ s + A / s < P 6000 := by
  have h1 : A / s ≤ A := Int.ediv_le_self _ hA0
  have p1 := P_le (show 2000 ≤ 3000 by decide)
  have p2 := P_le (show 3000 ≤ 5000 by decide)
  have p3 : P 3000 + P 3000 ≤ P 6000 := by
    have h := P_le (show 3001 ≤ 6000 by decide)
    have e : P 3001 = P 3000 * 1073741824 := P_succ 3000
    have := P_pos 3000
    generalize P 3000 = X at *
    generalize P 6000 = Y at *
    generalize P 3001 = Z at *
    omega
  generalize P 3000 = X at *
  generalize P 6000 = Y at *
  generalize P 5000 = Z at *
  generalize P 2000 = T at *
  refine ⟨?_, ?_, ?_⟩ <;> omega
/-- Where a root's rounds stand: s is in new memory, and not below the root. -/
def RootR (w0 : World) (A : Int) (v : Value) (s : Int) (wr : World) : Prop := Ans w0 wr s v ∧ 0 < s ∧ Abv A s ∧ s < P 3000
set_option maxRecDepth 100000 in
set_option maxHeartbeats 1000000 in
theorem root_any (ao : Option Addr) (n ca : Nat) (A : Int) (w : World) (ha : Num w (.slice ao n ca) A) (hA : A < P 2000) :
    Calls Tryz.prog 68 #[.slice ao n ca] w fun e w' => ∃ v, e = .returned v ∧ RootA w w' A v := by
  have hA0 := ha.nonneg
  have hz := ha.zero
  have hn := ha.len hA
  have HA5 : Hid (A < P 5000) := Int.lt_of_lt_of_le hA (P_le (by decide))
  have HA : Hid (A < P 2000) := hA
  clear hA
  by_cases h0 : n = 0
  · subst h0
    have HZ : Hid (IsRoot A 0) := by have : A = 0 := hz.2 rfl; subst this; exact ⟨by omega, by omega, by omega⟩
    clear hz
    go_enter Tryz.func68, Tryz.ntmps68
    go_wp2
    go_ret
    exact ⟨_, rfl, 0, Ans.nil (bel_refl _), HZ.out⟩
  · have e0 : ((n : Int) == 0) = false := by simp; omega
    have hAp : 0 < A := by
      rcases Int.lt_or_eq_of_le hA0 with q | q
      · exact q
      · exact absurd (hz.1 q.symm) h0
    have hbl : blen A ≤ 60000 := blen_le (by rw [show (2 : Int) ^ 60000 = P 2000 from (P_two 2000).symm]; exact HA.out)
    obtain ⟨k, hk⟩ : ∃ k : Nat, (((blen A : Nat) : Int) + 1) / 2 = k := ⟨(blen A + 1) / 2, by omega⟩
    have hk1 : k ≤ 30000 := by omega
    have HAB : Hid (Abv A (2 ^ k)) := abv_start hA0 (by
      have h1 := blen_lt A
      have h2 : (2 : Int) ^ blen A ≤ 2 ^ (2 * k) := two_le (by omega)
      omega)
    have HP3 : Hid ((2 : Int) ^ k < P 3000) := by
      have h1 : (2 : Int) ^ k < 2 ^ (30 * 3000) := two_lt (by omega)
      rw [← P_two] at h1; exact h1
    have HR0 : ∀ w1 v, Ans w w1 (1 * 2 ^ k) v → RootR w A v (2 ^ k) w1 := fun w1 v h => ⟨by rw [Int.one_mul] at h; exact h, two_pos k, HAB.out, HP3.out⟩
    have P1 : Hid ((1 : Int) < P 5000) := Int.lt_of_lt_of_le (show (1 : Int) < P 1 by decide) (P_le (by decide))
    clear hz
    go_enter Tryz.func68, Tryz.ntmps68
    go_wp2_with fail
    refine (bitLength_num (ha.alloc _) HA5.out).mono ?_
    rintro e w1 ⟨rfl, rfl⟩
    go_wp2_with fail
    refine (raise_num (num1 w 1 (by decide) (by decide) rfl) P1.out k (by omega)).mono ?_
    rintro e w2 ⟨v, rfl, hv⟩
    have hR2 := HR0 w2 v (hv.from (bel_alloc _ _))
    clear hv HR0
    go_wp2
    go_loopg [3] (((2 : Int) ^ k).toNat) (fun g v wr => ∃ s : Int, RootR w A v s wr ∧ g = s.toNat)
    case atStart => exact ⟨_, hR2, rfl⟩
    case round =>
      clear hR2
      obtain ⟨s, hR, hgk⟩ := hrel
      have HGK : Hid (gk = s.toNat) := hgk
      clear hgk
      obtain ⟨hs, hs0, hab, hs3⟩ := hR
      obtain ⟨B1, B2, B3⟩ := root_bnd HA.out hA0 hs0 hs3
      have HB1 : Hid (A / s < P 5000) := B1
      have HB2 : Hid (s < P 5000) := B2
      have HB3 : Hid (s + A / s < P 6000) := B3
      have HAb : Hid (Abv A s) := hab
      have HS3 : Hid (s < P 3000) := hs3
      clear B1 B2 B3 hab hs3
      go_wp2_with fail
      refine (divide_num (ha.keeps hs.below) hs.num HA5.out hs0).mono ?_
      rintro e w3 ⟨q, r, rfl, hq, hr, _⟩
      have b3 := hq.below
      go_wp2_with fail
      refine (sum_num (hs.num.keeps b3) hq.num HB2.out HB1.out).mono ?_
      rintro e w4 ⟨v4, rfl, h4⟩
      go_wp2_with fail
      refine (lower_half h4.num HB3.out).mono ?_
      rintro e w5 ⟨v5, rfl, h5⟩
      have b45 := bel_trans h4.below h5.below
      have hs5 := (hs.num.keeps b3).keeps b45
      go_wp2_with fail
      refine (compare_num h5.num hs5).mono ?_
      rintro e w6 ⟨rfl, b6⟩
      have b36 := bel_trans (bel_trans b3 b45) b6
      by_cases hge : s ≤ (s + A / s) / 2
      · have hd : decide (0 ≤ ord ((s + A / s) / 2) s) = true := decide_eq_true (by have := ord_ge hge; omega)
        go_wp2
        go_ret
        exact ⟨_, rfl, s, hs.stays b36, abv_done hs0 HAb.out hge⟩
      · have hd : decide (0 ≤ ord ((s + A / s) / 2) s) = false := decide_eq_false (by rw [ord_lt (by omega)]; omega)
        have hn0 : 0 < (s + A / s) / 2 := by
          have := abv_next hs0 HAb.out 1 (by omega) (by omega)
          omega
        have HN : Hid (RootR w A v5 ((s + A / s) / 2) w6) := ⟨((h5.from h4.below).from (bel_trans hs.below b3)).stays b6, hn0, abv_next hs0 HAb.out, by
          have := HS3.out
          generalize P 3000 = X at *
          omega⟩
        have HLT : Hid (((s + A / s) / 2).toNat < s.toNat) := by show _ < _; omega
        go_wp2
        go_roundg (((s + A / s) / 2).toNat)
        case measure => rw [HGK.out]; exact HLT.out
        case rel => exact ⟨_, HN.out, rfl⟩

set_option maxRecDepth 100000 in
set_option maxHeartbeats 400000 in
theorem root_num {w : World} {x : Value} {A : Int} (hx : Num w x A) (hA : A < P 2000) :
    Calls Tryz.prog 38 #[x] w fun e w' => ∃ v1 v2, e = .returned (.tuple #[v1, v2, .int .i64 0]) ∧ ∃ s, IsRoot A s ∧ Ans2 w w' s v1 (A - s * s) v2 := by
  have hx' := hx
  have HA5 : Hid (A < P 5000) := Int.lt_of_lt_of_le hA (P_le (by decide))
  obtain ⟨ao, n, ca, d, rfl, hR, h2, rfl⟩ := hx
  have ok := Num.ok h2 hA
  have HA : Hid (val d n < P 2000) := hA
  clear hA
  go_enter Tryz.func38, Tryz.ntmps38
  go_wp2_with fail
  refine (valid_any _ _ _ _ _ hR).mono ?_
  rintro e w' ⟨rfl, rfl⟩
  go_wp2_with fail
  refine (root_any _ _ _ _ _ hx' HA.out).mono ?_
  rintro e w1 ⟨v1, rfl, s, h1, hroot⟩
  have hs0 := hroot.1
  have hs1 := hroot.2.1
  have HSB : Hid (s < P 100000) := by
    have h3 : s ≤ val d n := by
      rcases Int.lt_or_eq_of_le hs0 with q | q
      · have : 1 * s ≤ s * s := mul_le_r (by omega) hs0
        omega
      · rw [← q]; exact val_nonneg h2.1
    exact Int.lt_of_le_of_lt h3 (Int.lt_of_lt_of_le HA.out (P_le (by decide)))
  go_wp2_with fail
  refine (product_num h1.num h1.num HSB.out HSB.out).mono ?_
  rintro e w2 ⟨v2, rfl, h3⟩
  go_wp2_with fail
  refine (difference_num (hx'.keeps (bel_trans h1.below h3.below)) h3.num HA5.out hs1).mono ?_
  rintro e w3 ⟨v3, rfl, h4⟩
  have b13 := bel_trans h3.below h4.below
  go_wp2
  go_ret3
  refine ⟨_, _, rfl, s, hroot, h1.stays b13, h4.from (bel_trans h1.below h3.below), ?_⟩
  intro c hc hc2
  obtain ⟨t1, d1, hO1, _⟩ := h1
  obtain ⟨t4, d4, hO4, _⟩ := h4
  have e1 := (World.ownsRow.lt hO1 c hc).2
  have e2 := own_ge hO4 c hc2
  have := h3.below.size
  omega
end Go.Proofs.YtcmcaladmodahaaGreatDoor

/-
  Package round: scaled, valueOf, by their contracts.
-/
namespace Go.Proofs.YtcmcaladmodahaaGreatDoor
open Go Go.RowKit Go.Proofs.YtcmcaladmodahaaGreatDoor.M
set_option linter.unusedSimpArgs false
set_option linter.unusedVariables false

theorem low_mod {V l : Int} (h : LowA V l) (h0 : 0 < V) (k : Nat) : decide (l < (k : Int)) = decide (V % 2 ^ k ≠ 0) := by
  obtain ⟨j, rfl, q, hq⟩ := lowA_pos h h0
  by_cases hjk : j < k
  · rw [decide_eq_true (by omega)]
    refine (decide_eq_true ?_).symm
    intro hz
    obtain ⟨d, hd⟩ : ∃ d, k = j + 1 + d := ⟨k - j - 1, by omega⟩
    have h1 : (2 : Int) ^ k ∣ V := Int.dvd_of_emod_eq_zero hz
    obtain ⟨c, hc⟩ := h1
    rw [hq, hd, Int.pow_add, Int.pow_succ] at hc
    have hp := two_pos j
    have e : (2 : Int) ^ j * (2 * q + 1) = 2 ^ j * (2 * (2 ^ d * c)) := by
      rw [Int.mul_comm, hc]
      simp only [Int.mul_assoc]
    have := Int.eq_of_mul_eq_mul_left (by omega) e
    omega
  · rw [decide_eq_false (by omega)]
    refine (decide_eq_false ?_).symm
    intro hz
    apply hz
    obtain ⟨d, hd⟩ : ∃ d, j = k + d := ⟨j - k, by omega⟩
    rw [hq, hd, Int.pow_add, Int.mul_comm, Int.mul_assoc]
    exact Int.mul_emod_right _ _
set_option maxRecDepth 100000 in
set_option maxHeartbeats 1000000 in
theorem scaled_low (ao : Option Addr) (n ca : Nat) (a : Nat → Int) (k : Nat) (w : World) (ha : Row w ao n ca a) (na : Nrm a n) (hn : n ≤ 5000) (hk0 : 0 < k) (hk : k ≤ 1000000) (h0 : 0 < val a n) (hT : Tab w) :
    Calls Tryz.prog 37 #[.slice ao n ca, .int .i64 (-(k : Int))] w fun e w' => ∃ v, e = .returned (.tuple #[v, .bool (decide (val a n % 2 ^ k ≠ 0))]) ∧ Ans w w' (val a n / 2 ^ k) v := by
  have CL : Hid (∀ W, Below w.heap.size w W → _) := fun W hb => lower_any ao n ca k a W (ha.keeps hb) na.1 (by omega) (by omega)
  have CW : Hid (∀ W, Below w.heap.size w W → _) := fun W hb => lowest_any ao n ca a W (ha.keeps hb) na.1 (by omega) (hT.keeps hb)
  have HM : Hid (∀ l, LowA (val a n) l → decide (l < (k : Int)) = decide (val a n % 2 ^ k ≠ 0)) := fun l h => low_mod h h0 k
  generalize decide (val a n % 2 ^ k ≠ 0) = R at HM ⊢
  generalize val a n / 2 ^ k = Q at CL ⊢
  have w1 : IntKind.i64.wrap (k : Int) = (k : Int) := by rw [wrap_i64_eq]; omega
  go_enter Tryz.func37, Tryz.ntmps37
  go_wp2_with fail
  refine (CL.out _ (bel_refl _)).mono ?_
  rintro _ w2 ⟨v, rfl, hA⟩
  have hb2 := hA.below
  have HA : Hid (Ans w w2 Q v) := hA
  obtain ⟨so, sn, sc, rfl⟩ := hA.num.shape
  clear hA CL
  go_wp2_with fail
  refine (CW.out _ hb2).mono ?_
  rintro _ w3 ⟨l, rfl, hl, rfl⟩
  have hr := HM.out l hl
  go_wp2
  all_goals refine bodyPost_ret (v := .tuple #[.slice so sn sc, .bool R]) (by simp [results, Tryz.results37, go_sem]) rfl ⟨_, rfl, HA.out⟩
set_option maxRecDepth 100000 in
set_option maxHeartbeats 1000000 in
theorem scaled_zero (ao : Option Addr) (n ca : Nat) (a : Nat → Int) (w : World) (ha : Row w ao n ca a) (na : Nrm a n) (hn : n ≤ 5000) :
    Calls Tryz.prog 37 #[.slice ao n ca, .int .i64 0] w fun e w' => ∃ v, e = .returned (.tuple #[v, .bool false]) ∧ Ans w w' (val a n) v := by
  have CR : Hid (Calls Tryz.prog 67 #[.slice ao n ca, .int .i64 0] w fun e w' => ∃ v, e = .returned v ∧ Ans w w' (val a n) v) := by
    have h := raise_any ao n ca 0 a w ha na.1 (by omega) (by omega)
    rw [Int.pow_zero, Int.mul_one] at h
    exact h
  go_enter Tryz.func37, Tryz.ntmps37
  go_wp2_with fail
  refine CR.out.mono ?_
  rintro _ w2 ⟨v, rfl, hA⟩
  have HA : Hid (Ans w w2 (val a n) v) := hA
  obtain ⟨so, sn, sc, rfl⟩ := hA.num.shape
  clear hA CR
  go_wp2
  all_goals refine bodyPost_ret (v := .tuple #[.slice so sn sc, .bool false]) (by simp [results, Tryz.results37, go_sem]) rfl ⟨_, rfl, HA.out⟩
theorem keep3R {W w' : World} {b g o0 o1 o2 : Nat} {x y z : Value} (h : W.cell? ⟨b, o0, none⟩ = some x ∧ W.cell? ⟨b, o1, none⟩ = some y ∧ W.cell? ⟨b, o2, none⟩ = some z) (hw : Wr g W w') (hg : b ≠ g) :
    w'.cell? ⟨b, o0, none⟩ = some x ∧ w'.cell? ⟨b, o1, none⟩ = some y ∧ w'.cell? ⟨b, o2, none⟩ = some z :=
  ⟨(hw.cell (World.block_lt_of_cell? W _ h.1) hg).trans h.1, (hw.cell (World.block_lt_of_cell? W _ h.2.1) hg).trans h.2.1, (hw.cell (World.block_lt_of_cell? W _ h.2.2) hg).trans h.2.2⟩
theorem wr5 (W : World) (g : Nat) (a b c d e : Value) : Wr g W (((((W.setCell ⟨g, 0, none⟩ a).setCell ⟨g, 1, none⟩ b).setCell ⟨g, 2, none⟩ c).setCell ⟨g, 3, none⟩ d).setCell ⟨g, 4, none⟩ e) := (((((Wr.refl g W).setCell 0 a).setCell 1 b).setCell 2 c).setCell 3 d).setCell 4 e
/-- What is cut off a whole number of more than 62 bits. -/
def vK (M : Int) : Nat := blen M - 62
theorem vK_small {M : Int} (h : 0 ≤ M) : 0 ≤ M / 2 ^ vK M ∧ M / 2 ^ vK M < 4611686018427387904 := by
  have hp := two_pos (vK M)
  refine ⟨Int.ediv_nonneg h (by omega), ?_⟩
  have h1 := blen_lt M
  have h2 : (2 : Int) ^ blen M ≤ 2 ^ (62 + vK M) := two_le (by unfold vK; omega)
  have e : (2 : Int) ^ (62 + vK M) = 4611686018427387904 * 2 ^ vK M := by rw [Int.pow_add]; rfl
  exact Int.ediv_lt_of_lt_mul hp (by omega)
theorem blen_nrm {a : Nat → Int} {n : Nat} (na : Nrm a n) : blen (val a n) ≤ 30 * n := by
  cases n with
  | zero => show blen 0 ≤ _; rw [blen_zero]; omega
  | succ m =>
    rw [blen_val na]
    have h : blen (a m) ≤ 30 := blen_le (by show a m < 1073741824; exact (na.1 m (by omega)).2)
    omega
set_option maxRecDepth 100000 in
set_option maxHeartbeats 2000000 in
theorem valueOf_any (ng : Bool) (ao : Option Addr) (n ca : Nat) (a : Nat → Int) (e : Int) (w : World) (ha : Row w ao n ca a) (na : Nrm a n) (hn : n ≤ 5000) (he : -1100000 ≤ e ∧ e ≤ 1100000) (hT : Tab w) :
    Calls Tryz.prog 101 #[.agg #[.bool ng, .slice ao n ca, .int .i64 e]] w fun r w' => r = .returned (valV ng (val a n / 2 ^ vK (val a n)).toNat (e + vK (val a n)) (decide (val a n % 2 ^ vK (val a n) ≠ 0)) false) ∧ Below w.heap.size w w' := by
  have hv0 := val_nonneg na.1
  have hbl : blen (val a n) ≤ 150000 := by have := blen_nrm na; omega
  have CB : Hid (∀ W, Below w.heap.size w W → _) := fun W hb => bitLength_any ao n ca a W (ha.keeps hb) na (by omega)
  obtain ⟨k, hk⟩ : ∃ k, vK (val a n) = k := ⟨_, rfl⟩
  have hsm := vK_small hv0
  rw [hk] at hsm ⊢
  have CS : Hid (∀ W, Below w.heap.size w W → Calls Tryz.prog 37 #[.slice ao n ca, .int .i64 (-(k : Int))] W fun e w' => ∃ v, e = .returned (.tuple #[v, .bool (decide (val a n % 2 ^ k ≠ 0))]) ∧ Ans W w' (val a n / 2 ^ k) v) := fun W hb => by
    by_cases h0 : k = 0
    · subst h0
      have h := scaled_zero ao n ca a W (ha.keeps hb) na hn
      simpa using h
    · have hp : 0 < val a n := by
        rcases Int.lt_or_eq_of_le hv0 with h | h
        · exact h
        · exfalso; rw [← h] at hk; apply h0; rw [← hk]; decide
      exact scaled_low ao n ca a k W (ha.keeps hb) na hn (by omega) (by unfold vK at hk; omega) hp (hT.keeps hb)
  have hbk : min (62 - (blen (val a n) : Int)) 0 = -(k : Int) := by unfold vK at hk; omega
  obtain ⟨B, hB⟩ : ∃ B : Int, (blen (val a n) : Int) = B := ⟨_, rfl⟩
  have hB0 : 0 ≤ B ∧ B ≤ 150000 := by omega
  rw [hB] at CB hbk
  have hk2 : k ≤ 150000 := by unfold vK at hk; omega
  generalize decide (val a n % 2 ^ k ≠ 0) = R at CS ⊢
  obtain ⟨Q, hQ⟩ : ∃ Q : Nat, val a n / 2 ^ k = (Q : Int) := Int.eq_ofNat_of_zero_le hsm.1
  rw [hQ] at CS hsm ⊢
  rw [Int.toNat_natCast]
  have CM : Hid (∀ (W' : World) so sn sc, Num W' (.slice so sn sc) (Q : Int) → Calls Tryz.prog 39 #[.slice so sn sc] W' fun e w' => e = .returned (.int .i64 (Q : Int)) ∧ w' = W') := fun W' so sn sc hA => by
    obtain ⟨ao', n', ca', d', hs, hR, hN, hV, hl⟩ := hA.parts (k := 3) (by rw [show P 3 = 1237940039285380274899124224 by decide]; omega)
    simp only [Value.slice.injEq] at hs
    obtain ⟨rfl, rfl, rfl⟩ := hs
    rw [← hV]
    exact small_any _ _ _ _ _ hR hN.1 hl (by omega)
  have w1 : IntKind.i64.wrap (62 - B) = 62 - B := by rw [wrap_i64_eq]; omega
  have w2 : IntKind.i64.wrap (e + k) = e + k := by rw [wrap_i64_eq]; omega
  have w3 : IntKind.u64.wrap (Q : Int) = (Q : Int) := by rw [IntKind.wrap_u64]; omega
  have hmin : ∀ (ts : Array TypeId) (t : TypeId) (x y : Int) (w : World), (Builtin.min_ ts t #[.int .i64 x, .int .i64 y]).run Tryz.prog w = .ok (.int .i64 (min x y)) w := fun ts t x y w => by rw [run_min_int2]; congr 2; omega
  have q0 := heap_a2 w (.cells #[.bool ng, .slice ao n ca, .int .i64 e] 24) (.cells #[.bool false, .int .u64 0, .int .i64 0, .bool false, .bool false] 43)
  have q1 := heap_b2 w (.cells #[.bool ng, .slice ao n ca, .int .i64 e] 24) (.cells #[.bool false, .int .u64 0, .int .i64 0, .bool false, .bool false] 43)
  have hb1 := bel_alloc2 w (.cells #[.bool ng, .slice ao n ca, .int .i64 e] 24) (.cells #[.bool false, .int .u64 0, .int .i64 0, .bool false, .bool false] 43)
  clear hQ hk hB hbl hv0 hsm hT
  unfold valV
  go_enter Tryz.func101, Tryz.ntmps101
  go_wp2_with fail
  generalize (w.alloc (.cells #[.bool ng, .slice ao n ca, .int .i64 e] 24)).alloc (.cells #[.bool false, .int .u64 0, .int .i64 0, .bool false, .bool false] 43) = wx at q0 q1 hb1 ⊢
  refine (CB.out _ hb1).mono ?_
  rintro _ _ ⟨rfl, rfl⟩
  have k1 := blkC q0 1 rfl
  go_wp2_with fail
  refine (CS.out _ hb1).mono ?_
  rintro _ w4 ⟨v, rfl, hA⟩
  have hb4 := hA.below
  obtain ⟨so, sn, sc, rfl⟩ := hA.num.shape
  have CM1 : Hid (Calls Tryz.prog 39 #[.slice so sn sc] w4.drew fun e w' => e = .returned (.int .i64 (Q : Int)) ∧ w' = w4.drew) := CM.out w4.drew so sn sc (hA.num.keeps (bel_refl w4).drew)
  have hbw := bel_trans hb1 hb4
  have p0 := (hb4.block _ (Array.getElem?_eq_some_iff.1 q0).1).trans q0
  have p1 := (hb4.block _ (Array.getElem?_eq_some_iff.1 q1).1).trans q1
  clear CB CS k1 hA CM
  have c0 := blkC p0 0 rfl
  have c2 := blkC p0 2 rfl
  have x0 := blkC p1 0 rfl
  have x1 := blkC p1 1 rfl
  have x2 := blkC p1 2 rfl
  have x3 := blkC p1 3 rfl
  have x4 := blkC p1 4 rfl
  have z0 := blkF p1 0
  have z1 := blkF p1 1
  have z2 := blkF p1 2
  have z3 := blkF p1 3
  have z4 := blkF p1 4
  go_wp2_with fail
  have c1 := blkC p0 1 rfl
  go_region_with (go_at_call 39; refine CM1.out.mono ?_; rintro _ _ ⟨rfl, rfl⟩)
  all_goals go_wp2
  all_goals refine bodyPost_ret (v := .agg #[.bool ng, .int .u64 Q, .int .i64 (e + k), .bool R, .bool false]) (by simp [results, Tryz.results101, go_sem, x0, x1, x2, x3, x4]) rfl ⟨rfl, ?_⟩
  all_goals exact ((wr5 w4 (w.heap.size + 1) _ _ _ _ _).below hbw hbw.size (Nat.le_succ _)).drew
end Go.Proofs.YtcmcaladmodahaaGreatDoor

/-
  Package round: itself, rounded, To, by their contracts.
-/
namespace Go.Proofs.YtcmcaladmodahaaGreatDoor
open Go Go.RowKit Go.Proofs.YtcmcaladmodahaaGreatDoor.M
set_option linter.unusedSimpArgs false
set_option linter.unusedVariables false

set_option maxRecDepth 100000 in
set_option maxHeartbeats 1000000 in
theorem rounded_ok (way : Int) (hw : 0 ≤ way ∧ way ≤ 3) (F G : Nat) (lo : Option Addr) (ln lc : Nat) (r : Nat → NumR) (w : World) (hl : Nums w lo ln lc r) (ok : ∀ i, i < ln → okR (r i) = true) (ng : Bool) (mag : Nat) (exp : Int) (cut sd : Bool) (b : Int) (o : Bool)
    (hEF : ∀ (cap : Array Value) (w : World), (callFunc F cap).run Tryz.prog w = .ok (.enter F cap) w) (hEG : ∀ (cap : Array Value) (w : World), (callFunc G cap).run Tryz.prog w = .ok (.enter G cap) w)
    (hG : ∀ W, Below w.heap.size w W → Calls Tryz.prog G #[.slice lo ln lc] W fun e w' => e = .returned (.tuple #[valV ng mag exp cut sd, .int .i64 0]) ∧ Below W.heap.size W w')
    (hF : ∀ W, Below w.heap.size w W → Calls Tryz.prog F #[valV ng mag exp cut sd, wayV way] W fun e w' => e = .returned (.tuple #[.int .i64 b, .bool o]) ∧ Below W.heap.size W w') :
    Calls Tryz.prog 14 #[.int .i64 way, .func (.func F) #[] #[], .func (.func G) #[] #[], .slice lo ln lc] w fun e w' => e = .returned (.tuple #[.int .i64 b, .bool o, .int .i64 0]) ∧ Below w.heap.size w w' := by
  have hst : ∀ (p : Addr) (F : Nat) (m : Mode) (w : World), (store p (.func (.func F) #[] #[]) m).run Tryz.prog w = stored Tryz.prog w p (.func (.func F) #[] #[]) m := fun p F m w => run_store _ w p _ m rfl
  have hle := hl.le
  have hma := hl.max
  unfold valV wayV at *
  have CW := wayOf_any way w
  rw [if_pos hw, decide_eq_true hw] at CW
  unfold wayV at CW
  generalize wayF way = K at *
  go_enter Tryz.func14, Tryz.ntmps14
  go_wp2_with fail
  refine CW.mono ?_
  rintro _ w1 ⟨rfl, hb1⟩
  have q1 := heap_alloc_new w1 (.cells #[.nilFunc] 60)
  have y0 := blkC q1 0 rfl
  have y1 := blkF q1 0
  go_wp2_with fail
  have q2 := heap_alloc_new w1 (.cells #[.func (.func K) #[] #[]] 60)
  have hb2 := bel_trans hb1 (bel_alloc w1 (.cells #[.func (.func K) #[] #[]] 60))
  generalize w1.alloc (.cells #[.func (.func K) #[] #[]] 60) = w2 at q2 hb2 ⊢
  clear q1 y0 y1 CW
  go_loopw [28] (fun iv wr => ∃ k : Nat, iv = .int .i64 k ∧ k ≤ ln ∧ Hid (wr.heap[w1.heap.size]? = some (.cells #[.func (.func K) #[] #[]] 60 (0, 0))) ∧ Below w.heap.size w wr) (fun iv _ => ln - (intOf iv).toNat)
  case atStart => exact ⟨0, rfl, Nat.zero_le _, q2, hb2⟩
  case round =>
    clear q2 hb2
    obtain ⟨k, rfl, hk, HQ, hbw⟩ := hrel
    by_cases hlt : k < ln
    · obtain ⟨ba, oa, rfl, hba, hca⟩ := hl.spot (by omega)
      obtain ⟨c0, c1, c2, hR⟩ := (hca k hlt).keeps hbw hba
      have hok := ok k hlt
      have CV := fun W (hb : Below wr.heap.size wr W) => dvalid_any (r k).ng (r k).ao (r k).n (r k).cap (r k).d (r k).e W (hR.keeps hb)
      unfold okR at hok
      rw [hok] at CV
      clear hok hR hca
      generalize r k = x at c0 c1 c2 CV
      obtain ⟨x_g, x_o, x_n, x_c, x_d, x_e⟩ := x
      simp only at c0 c1 c2 CV
      have hb3 := bel_alloc wr (.cells #[.bool x_g, .slice x_o x_n x_c, .int .i64 x_e] 24)
      have HQ3 : Hid ((wr.alloc (.cells #[.bool x_g, .slice x_o x_n x_c, .int .i64 x_e] 24)).heap[w1.heap.size]? = some (.cells #[.func (.func K) #[] #[]] 60 (0, 0))) := (hb3.block _ (Array.getElem?_eq_some_iff.1 HQ.out).1).trans HQ.out
      go_wp2_with fail
      refine (CV _ hb3).mono ?_
      rintro _ w4 ⟨rfl, hb4⟩
      have HQ4 : Hid (w4.heap[w1.heap.size]? = some (.cells #[.func (.func K) #[] #[]] 60 (0, 0))) := (hb4.block _ (Array.getElem?_eq_some_iff.1 HQ3.out).1).trans HQ3.out
      have hbw4 := hbw.trans ((bel_trans hb3 hb4).mono hbw.size)
      clear CV HQ3 hb3 hb4 c0 c1 c2
      go_wp2
      go_roundw
      case rel => exact ⟨k + 1, by go_num, by omega, HQ4.out, hbw4⟩
      case measure => simp [intOf]; omega
    · obtain rfl : k = ln := by omega
      go_wp2_with fail
      refine (hG _ hbw).mono ?_
      rintro _ w4 ⟨rfl, hb4⟩
      have p4 := (hb4.block _ (Array.getElem?_eq_some_iff.1 HQ.out).1).trans HQ.out
      have hbw4 := hbw.trans (hb4.mono hbw.size)
      have hb5 := bel_alloc w4 (.cells #[.bool ng, .int .u64 mag, .int .i64 exp, .bool cut, .bool sd] 43)
      have kw := cell_keeps (blkC p4 0 rfl) hb5
      have hbw5 := hbw4.trans (hb5.mono hbw4.size)
      clear hG hb4
      go_wp2_with fail
      refine (hF _ hbw5).mono ?_
      rintro _ w6 ⟨rfl, hb6⟩
      go_wp2
      all_goals refine bodyPost_ret (v := .tuple #[.int .i64 b, .bool o, .int .i64 0]) (by simp [results, Tryz.results14, go_sem]) rfl ⟨rfl, hbw5.trans (hb6.mono hbw5.size)⟩
end Go.Proofs.YtcmcaladmodahaaGreatDoor

/-
  Package round: quotient, Quot, by their contracts.
-/
namespace Go.Proofs.YtcmcaladmodahaaGreatDoor
open Go Go.RowKit Go.Proofs.YtcmcaladmodahaaGreatDoor.M
set_option linter.unusedSimpArgs false
set_option linter.unusedVariables false

set_option maxRecDepth 100000 in
set_option maxHeartbeats 1000000 in
theorem scaled_high (ao : Option Addr) (n ca : Nat) (a : Nat → Int) (k : Nat) (w : World) (ha : Row w ao n ca a) (na : Nrm a n) (hn : n ≤ 5000) (hk : k ≤ 1000000) :
    Calls Tryz.prog 37 #[.slice ao n ca, .int .i64 (k : Int)] w fun e w' => ∃ v, e = .returned (.tuple #[v, .bool false]) ∧ Ans w w' (val a n * 2 ^ k) v := by
  have CR : Hid (Calls Tryz.prog 67 #[.slice ao n ca, .int .i64 (k : Int)] w fun e w' => ∃ v, e = .returned v ∧ Ans w w' (val a n * 2 ^ k) v) := raise_any ao n ca k a w ha na.1 (by omega) hk
  generalize val a n * 2 ^ k = Q at CR ⊢
  go_enter Tryz.func37, Tryz.ntmps37
  go_wp2_with fail
  refine CR.out.mono ?_
  rintro _ w2 ⟨v, rfl, hA⟩
  have HA : Hid (Ans w w2 Q v) := hA
  obtain ⟨so, sn, sc, rfl⟩ := hA.num.shape
  clear hA CR
  go_wp2
  all_goals refine bodyPost_ret (v := .tuple #[.slice so sn sc, .bool false]) (by simp [results, Tryz.results37, go_sem]) rfl ⟨_, rfl, HA.out⟩
/-- A number times 2^k, as far as it is whole. -/
def scV (A k : Int) : Int := if 0 ≤ k then A * 2 ^ k.toNat else A / 2 ^ (-k).toNat
def scC (A k : Int) : Bool := if 0 ≤ k then false else decide (A % 2 ^ (-k).toNat ≠ 0)
theorem scaled_any (ao : Option Addr) (n ca : Nat) (a : Nat → Int) (k : Int) (w : World) (ha : Row w ao n ca a) (na : Nrm a n) (hn : n ≤ 5000) (hk : -1000000 ≤ k ∧ k ≤ 1000000) (h0 : k < 0 → 0 < val a n) (hT : Tab w) :
    Calls Tryz.prog 37 #[.slice ao n ca, .int .i64 k] w fun e w' => ∃ v, e = .returned (.tuple #[v, .bool (scC (val a n) k)]) ∧ Ans w w' (scV (val a n) k) v := by
  unfold scV scC
  by_cases h : 0 ≤ k
  · rw [if_pos h, if_pos h]
    have := scaled_high ao n ca a k.toNat w ha na hn (by omega)
    rwa [Int.toNat_of_nonneg h] at this
  · rw [if_neg h, if_neg h]
    have := scaled_low ao n ca a (-k).toNat w ha na hn (by omega) (by omega) (h0 (by omega)) hT
    rwa [Int.toNat_of_nonneg (by omega), Int.neg_neg] at this
theorem num_len0 {w : World} {so : Option Addr} {sn sc : Nat} {M : Int} (h : Num w (.slice so sn sc) M) : decide (M ≠ 0) = decide ((0 : Int) < (sn : Int)) := by
  obtain ⟨ao, n, ca, d, hs, hR, hN, hV⟩ := h
  simp only [Value.slice.injEq] at hs
  obtain ⟨rfl, rfl, rfl⟩ := hs
  by_cases h0 : sn = 0
  · subst h0
    rw [← hV]
    rfl
  · have := val_pos hN (by omega)
    rw [decide_eq_true (by omega), decide_eq_true (by omega)]
/-- The bits that a quotient's dividend is brought to. -/
def qK (A B : Int) : Int := 62 + (blen B : Int) - (blen A : Int)
theorem qK_small {A B : Int} (hA : 0 ≤ A) (hB : 0 < B) : 0 ≤ scV A (qK A B) ∧ scV A (qK A B) < B * 9223372036854775808 ∧ 0 ≤ scV A (qK A B) / B ∧ scV A (qK A B) / B < 9223372036854775808 := by
  have b1 := blen_lt A
  have b2 := blen_pos hB
  have hs : 0 ≤ scV A (qK A B) ∧ scV A (qK A B) < 2 ^ (62 + blen B) := by
    unfold scV qK
    by_cases h : 0 ≤ 62 + (blen B : Int) - (blen A : Int)
    · rw [if_pos h]
      have hp := two_pos (62 + (blen B : Int) - (blen A : Int)).toNat
      refine ⟨Int.mul_nonneg hA (by omega), ?_⟩
      have e : (2 : Int) ^ (62 + blen B) = 2 ^ blen A * 2 ^ (62 + (blen B : Int) - (blen A : Int)).toNat := by rw [← Int.pow_add]; congr 1; omega
      rw [e]
      exact Int.mul_lt_mul_of_pos_right b1 hp
    · rw [if_neg h]
      have hp := two_pos (-(62 + (blen B : Int) - (blen A : Int))).toNat
      refine ⟨Int.ediv_nonneg hA (by omega), ?_⟩
      apply Int.ediv_lt_of_lt_mul hp
      rw [← Int.pow_add]
      rw [show 62 + blen B + (-(62 + (blen B : Int) - (blen A : Int))).toNat = blen A by omega]
      exact b1
  have e2 : (2 : Int) ^ (62 + blen B) = 2 ^ (blen B - 1) * 9223372036854775808 := by
    rw [show (9223372036854775808 : Int) = 2 ^ 63 by decide, ← Int.pow_add]; congr 1; omega
  have h3 : (2 : Int) ^ (blen B - 1) * 9223372036854775808 ≤ B * 9223372036854775808 := Int.mul_le_mul_of_nonneg_right b2.2 (by decide)
  refine ⟨hs.1, by omega, Int.ediv_nonneg hs.1 (by omega), ?_⟩
  apply Int.ediv_lt_of_lt_mul hB
  rw [Int.mul_comm]
  omega
theorem cells4_set {a b g o : Nat} {v : Value} {x0 x1 x2 x3 : Value} {W : World} (ha : a ≠ g) (hb : b ≠ g) (h : W.cell? ⟨a, 0, none⟩ = some x0 ∧ W.cell? ⟨a, 2, none⟩ = some x1 ∧ W.cell? ⟨b, 0, none⟩ = some x2 ∧ W.cell? ⟨b, 2, none⟩ = some x3) :
    (W.setCell ⟨g, o, none⟩ v).cell? ⟨a, 0, none⟩ = some x0 ∧ (W.setCell ⟨g, o, none⟩ v).cell? ⟨a, 2, none⟩ = some x1 ∧ (W.setCell ⟨g, o, none⟩ v).cell? ⟨b, 0, none⟩ = some x2 ∧ (W.setCell ⟨g, o, none⟩ v).cell? ⟨b, 2, none⟩ = some x3 := by
  have hw : Wr g W (W.setCell ⟨g, o, none⟩ v) := (Wr.refl g W).setCell o v
  obtain ⟨a0, a1, a2, a3⟩ := h
  exact ⟨(hw.cell (World.block_lt_of_cell? W _ a0) ha).trans a0, (hw.cell (World.block_lt_of_cell? W _ a1) ha).trans a1, (hw.cell (World.block_lt_of_cell? W _ a2) hb).trans a2, (hw.cell (World.block_lt_of_cell? W _ a3) hb).trans a3⟩
theorem cells4_drew {a b : Nat} {x0 x1 x2 x3 : Value} {W : World} (h : W.cell? ⟨a, 0, none⟩ = some x0 ∧ W.cell? ⟨a, 2, none⟩ = some x1 ∧ W.cell? ⟨b, 0, none⟩ = some x2 ∧ W.cell? ⟨b, 2, none⟩ = some x3) :
    W.drew.cell? ⟨a, 0, none⟩ = some x0 ∧ W.drew.cell? ⟨a, 2, none⟩ = some x1 ∧ W.drew.cell? ⟨b, 0, none⟩ = some x2 ∧ W.drew.cell? ⟨b, 2, none⟩ = some x3 := h
theorem cells6_alloc {p B : Nat} {x0 x1 x2 x3 x4 x5 : Value} {W : World} (o : Obj) (h : p < B ∧ B ≤ W.heap.size ∧ W.cell? ⟨p, 0, none⟩ = some x0 ∧ W.cell? ⟨p, 1, none⟩ = some x1 ∧ W.cell? ⟨p, 2, none⟩ = some x2 ∧ W.cell? ⟨p, 3, none⟩ = some x3 ∧ W.cell? ⟨p, 4, none⟩ = some x4 ∧ W.cell? ⟨p, 5, none⟩ = some x5) :
    p < B ∧ B ≤ (W.alloc o).heap.size ∧ (W.alloc o).cell? ⟨p, 0, none⟩ = some x0 ∧ (W.alloc o).cell? ⟨p, 1, none⟩ = some x1 ∧ (W.alloc o).cell? ⟨p, 2, none⟩ = some x2 ∧ (W.alloc o).cell? ⟨p, 3, none⟩ = some x3 ∧ (W.alloc o).cell? ⟨p, 4, none⟩ = some x4 ∧ (W.alloc o).cell? ⟨p, 5, none⟩ = some x5 := by
  have hb := bel_alloc W o
  obtain ⟨h1, h2, a0, a1, a2, a3, a4, a5⟩ := h
  exact ⟨h1, Nat.le_trans h2 hb.size, cell_keeps a0 hb, cell_keeps a1 hb, cell_keeps a2 hb, cell_keeps a3 hb, cell_keeps a4 hb, cell_keeps a5 hb⟩
theorem cells6_set {p B g o : Nat} {v : Value} {x0 x1 x2 x3 x4 x5 : Value} {W : World} (hg : B ≤ g) (h : p < B ∧ B ≤ W.heap.size ∧ W.cell? ⟨p, 0, none⟩ = some x0 ∧ W.cell? ⟨p, 1, none⟩ = some x1 ∧ W.cell? ⟨p, 2, none⟩ = some x2 ∧ W.cell? ⟨p, 3, none⟩ = some x3 ∧ W.cell? ⟨p, 4, none⟩ = some x4 ∧ W.cell? ⟨p, 5, none⟩ = some x5) :
    p < B ∧ B ≤ (W.setCell ⟨g, o, none⟩ v).heap.size ∧ (W.setCell ⟨g, o, none⟩ v).cell? ⟨p, 0, none⟩ = some x0 ∧ (W.setCell ⟨g, o, none⟩ v).cell? ⟨p, 1, none⟩ = some x1 ∧ (W.setCell ⟨g, o, none⟩ v).cell? ⟨p, 2, none⟩ = some x2 ∧ (W.setCell ⟨g, o, none⟩ v).cell? ⟨p, 3, none⟩ = some x3 ∧ (W.setCell ⟨g, o, none⟩ v).cell? ⟨p, 4, none⟩ = some x4 ∧ (W.setCell ⟨g, o, none⟩ v).cell? ⟨p, 5, none⟩ = some x5 := by
  have hw : Wr g W (W.setCell ⟨g, o, none⟩ v) := (Wr.refl g W).setCell o v
  obtain ⟨h1, h2, a0, a1, a2, a3, a4, a5⟩ := h
  have hp : p < W.heap.size := by omega
  have hne : p ≠ g := by omega
  exact ⟨h1, Nat.le_trans h2 hw.size, (hw.cell hp hne).trans a0, (hw.cell hp hne).trans a1, (hw.cell hp hne).trans a2, (hw.cell hp hne).trans a3, (hw.cell hp hne).trans a4, (hw.cell hp hne).trans a5⟩
end Go.Proofs.YtcmcaladmodahaaGreatDoor
