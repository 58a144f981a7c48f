/-
  Parts of the proof, one behind another.
-/
import Derived.Test.YtheiinclgfgneaaDoorPart5
import Derived.Test.YtheiinclgfgneaaDoorPart3
import Derived.Test.YtheiinclgfgneaaDoorPart4
import Derived.Deep.AppendLies
import Derived.Deep.RegionHeld3
import Derived.Deep.RegionLaw
/-
  The document's own answers (plumbref2): From, Bits, Bit, Shl, Shr, by contracts over the same values.
-/
namespace Go.Proofs.YtheiinclgfgneaaDoor
open Go Go.RowKit Go.Proofs.YtheiinclgfgneaaDoor.M
set_option linter.unusedSimpArgs false
set_option linter.unusedVariables false

theorem blen_half {x : Int} (h : 0 < x) : blen x = blen (x / 2) + 1 := by
  obtain ⟨h1, h2⟩ := blen_pos h
  have h3 := blen_lt x
  obtain ⟨k, hk⟩ : ∃ k, blen x = k + 1 := ⟨blen x - 1, by omega⟩
  rw [hk] at h2 h3 ⊢
  rw [Nat.add_sub_cancel] at h2
  rw [Int.pow_succ] at h3
  cases k with
  | zero =>
    have : x = 1 := by simp at h3 h2; omega
    subst this; decide
  | succ j =>
    rw [Int.pow_succ] at h2
    have e1 : (2 : Int) ^ j ≤ x / 2 := by omega
    have e2 : x / 2 < 2 ^ (j + 1) := by omega
    rw [blen_of e1 e2]
set_option maxHeartbeats 400000 in
theorem rfrom_any (V : Int) (w : World) (h0 : 0 ≤ V) (h1 : V < 9223372036854775808) :
    Calls Tryd.prog 53 #[.int .i64 V] w fun e w' => ∃ v, e = .returned v ∧ Ans w w' V v := by
  have HM : Hid (V < 9223372036854775808) := h1
  clear h1
  go_enter Tryd.func53, Tryd.ntmps53
  go_wp2
  go_loopw [0, 3] (fun i v wr => ∃ (x : Int) (k : Nat) (r : Nat → Int), i = .int .i64 x ∧ 0 ≤ x ∧ k ≤ 3 ∧ Out w.heap.size wr v k r ∧ Dig r k ∧ Hid (x * P k ≤ V) ∧ Hid (x = 0 → Top r k) ∧ Hid (val r k + x * P k = V) ∧ Below w.heap.size w wr) (fun i _ _ => (intOf i).toNat)
  case atStart => exact ⟨V, 0, fun _ => 0, rfl, h0, by omega, Out.nil _ _ _, fun i hi => by omega, by show _ ≤ _; show V * 1 ≤ V; omega, fun _ => .inl rfl, by show _ = _; show 0 + V * 1 = V; omega, bel_refl _⟩
  case round =>
    obtain ⟨x, k, r, rfl, hx, hk3, hO, hD, HB, HT, HV, hbw⟩ := hrel
    by_cases hp : 0 < x
    · have hk2 : k ≤ 2 := by
        by_cases e : k = 3
        · subst e
          have a := HB.out
          have b := HM.out
          have c : P 3 = 1073741824 * 1073741824 * 1073741824 := by decide
          have d : 1 * P 3 ≤ x * P 3 := Int.mul_le_mul_of_nonneg_right (by omega) (Int.le_of_lt (P_pos 3))
          omega
        · omega
      have hx2 : x ≤ 9223372036854775807 := by
        have a := HB.out
        have b := HM.out
        have c : x * 1 ≤ x * P k := Int.mul_le_mul_of_nonneg_left (by have := P_pos k; omega) (by omega)
        omega
      go_wp2_with (at_builtin; refine wpList_app rfl _ _ rfl w.heap.size _ k r rfl (hO.stays (bel_alloc _ _)) _ 1 1 (fun _ => x % 1073741824) rfl (row1 _ _ rfl) (by omega) (by have := hbw.size; simp; omega) ?_; intro v' w1 hO1 hg1)
      have hb1 : Below w.heap.size w w1 := (hbw.alloc hbw.size _).grown hg1 (by have := hbw.size; simp; omega) (own_ge hO)
      have hs := sum_step (c := 0) (x := x) (show val r k + 0 * P k = val r k by omega)
      rw [Int.zero_add] at hs
      go_roundw
      case rel => exact ⟨x / 1073741824, k + 1, upd r k (x % 1073741824), rfl, by omega, by omega, hO1.congr (cat_upd r k _), dig_upd2 hD (mod_dig _), by
          show _ ≤ _
          have a := HB.out
          rw [P_succ, show x / 1073741824 * (P k * 1073741824) = (x / 1073741824 * 1073741824) * P k by grind]
          have b : (x / 1073741824 * 1073741824) * P k ≤ x * P k := Int.mul_le_mul_of_nonneg_right (by omega) (Int.le_of_lt (P_pos k))
          omega, fun e => .inr (by rw [Nat.add_sub_cancel, upd_same]; omega), by show _ = _; rw [hs]; exact HV.out, hb1⟩
      case measure => simp [intOf]; omega
    · obtain rfl : x = 0 := by omega
      go_wp2
      go_ret
      exact ⟨_, rfl, k, r, hO, ⟨hD, HT.out (by first | rfl | trivial)⟩, by have := HV.out; omega, hbw⟩
set_option maxHeartbeats 400000 in
theorem rbits_any (ao : Option Addr) (n cap : Nat) (d : Nat → Int) (w : World) (h : Row w ao n cap d) (hd : Nrm d n) (hn : n ≤ 1000000) :
    Calls Tryd.prog 86 #[.slice ao n cap] w fun e w' => e = .returned (.int .i64 (blen (val d n))) ∧ w' = w := by
  have hl := h.le
  have hm := h.max
  by_cases h0 : n = 0
  · subst h0
    go_enter Tryd.func86, Tryd.ntmps86
    go_wp2
    go_ret
    exact ⟨rfl, rfl⟩
  · obtain ⟨k, rfl⟩ : ∃ k, n = k + 1 := ⟨n - 1, by omega⟩
    obtain ⟨b, off, rfl, hb, hc⟩ := h.spot (by omega)
    have c := hc k (by omega)
    have dk := hd.1 k (by omega)
    have HV : Hid (blen (val d (k + 1)) = 30 * k + blen (d k)) := blen_val hd
    have hbl : blen (d k) ≤ 30 := blen_le (by show d k < 1073741824; exact dk.2)
    go_enter Tryd.func86, Tryd.ntmps86
    go_wp2
    go_loop [3, 4] (fun s v => ∃ (x : Int) (t : Nat), s = .int .i64 t ∧ v = .int .i64 x ∧ 0 ≤ x ∧ x < 1073741824 ∧ t ≤ 30 * k + 30 ∧ Hid (t + blen x = 30 * k + blen (d k))) (fun _ v => (intOf v).toNat)
    case atStart => exact ⟨d k, 30 * k, by go_num, rfl, dk.1, dk.2, by omega, rfl⟩
    case round =>
      obtain ⟨x, t, rfl, rfl, hx0, hx1, ht, HT⟩ := hrel
      by_cases hp : 0 < x
      · have ht2 : t + 1 ≤ 30 * k + 30 := by have := HT.out; have := blen_half hp; omega
        go_wp2
        go_round
        case rel => exact ⟨x / 2, t + 1, by go_num, rfl, by omega, by omega, ht2, by show _ = _; have := HT.out; have := blen_half hp; omega⟩
        case measure => simp [intOf]; omega
      · obtain rfl : x = 0 := by omega
        go_wp2
        go_ret
        exact ⟨ret_int (by have := HT.out; rw [blen_zero] at this; rw [HV.out]; omega), rfl⟩
theorem rbit_any (ao : Option Addr) (n cap : Nat) (d : Nat → Int) (w : World) (h : Row w ao n cap d) (hd : Nrm d n) (hn : n ≤ 100000) (i : Nat) (hi : i ≤ 4000000) :
    Calls Tryd.prog 87 #[.slice ao n cap, .int .i64 i] w fun e w' => e = .returned (.bool (bitB (val d n) i)) ∧ w' = w := by
  have hl := h.le
  have hm := h.max
  obtain ⟨q, p, hq, hp⟩ : ∃ q p : Nat, i = 30 * q + p ∧ p < 30 := ⟨i / 30, i % 30, by omega, by omega⟩
  have e1 : (i : Int) / 30 = q := by omega
  have e2 : (i : Int) % 30 = p := by omega
  by_cases hqn : q < n
  · have HV : Hid (bitB (val d n) i = (d q / 2 ^ p % 2 == 1)) := by unfold bitB; show _ = _; rw [hq, bit_val hd.1 hqn hp]
    clear hq
    obtain ⟨b, off, rfl, hb, hc⟩ := h.spot (by omega)
    have c := hc q hqn
    have dq := hd.1 q hqn
    have hd0 : 0 ≤ d q / 2 ^ p := Int.ediv_nonneg dq.1 (Int.le_of_lt (two_pos p))
    go_enter Tryd.func87, Tryd.ntmps87
    go_wp2
    go_ret
    exact ⟨ret_bool HV.out.symm, rfl⟩
  · have HV : Hid (bitB (val d n) i = false) := bit_high (val_nonneg hd.1) (by
      refine Nat.le_trans (blen_le (k := 30 * n) (by rw [← P_two]; exact val_lt hd.1)) (by omega))
    clear hq
    go_enter Tryd.func87, Tryd.ntmps87
    go_wp2
    go_ret
    exact ⟨ret_bool HV.out.symm, rfl⟩
end Go.Proofs.YtheiinclgfgneaaDoor

/-
  Package nat: small, combine, heads (what Lehmer's way is made of), by contracts.
-/
namespace Go.Proofs.YtheiinclgfgneaaDoor
open Go Go.RowKit Go.Proofs.YtheiinclgfgneaaDoor.M
set_option linter.unusedSimpArgs false
set_option linter.unusedVariables false

theorem val_mono {d : Nat → Int} {n m : Nat} (h : Dig d n) (hm : m ≤ n) : val d m ≤ val d n := by
  have e := val_split d m (n - m)
  rw [show m + (n - m) = n by omega] at e
  have a := val_nonneg (show Dig (fun i => d (m + i)) (n - m) from fun i hi => h (m + i) (by omega))
  have := Int.mul_nonneg (Int.le_of_lt (P_pos m)) a
  omega
theorem mul_bnd {x y : Int} (hx : -1073741824 < x ∧ x < 1073741824) (hy : 0 ≤ y ∧ y < 1073741824) : -1152921504606846976 ≤ x * y ∧ x * y ≤ 1152921504606846976 := by
  have h1 : x * y ≤ 1073741824 * y := Int.mul_le_mul_of_nonneg_right (by omega) hy.1
  have h2 : -1073741824 * y ≤ x * y := Int.mul_le_mul_of_nonneg_right (by omega) hy.1
  constructor <;> omega
end Go.Proofs.YtheiinclgfgneaaDoor

/-
  Package nat's calls that take one list and a number: Int, Bit at every number; what they answer on no number and on a negative one.
-/
namespace Go.Proofs.YtheiinclgfgneaaDoor
open Go Go.RowKit Go.Proofs.YtheiinclgfgneaaDoor.M
set_option linter.unusedSimpArgs false
set_option linter.unusedVariables false

/-- A bit, at every int. -/
def bitI (A n : Int) : Bool := if n < 0 then false else bitB A n.toNat
theorem bitI_neg {A n : Int} (h : n < 0) : bitI A n = false := by simp [bitI, h]
theorem bitI_nat (A : Int) (i : Nat) : bitI A i = bitB A i := by simp [bitI]
theorem bitI_big {A n : Int} (h0 : 0 ≤ A) (h : (blen A : Int) ≤ n) : bitI A n = false := by
  unfold bitI
  split
  · rfl
  · exact bit_high h0 (by omega)
theorem blen60 {A : Int} (hA : A < P 2000) : blen A ≤ 60000 := blen_le (by rw [← P2000_two]; exact hA)
set_option maxRecDepth 100000 in
theorem rbit_all {w : World} {x : Value} {A : Int} (hx : Num w x A) (hA : A < P 2000) (n : Int) (hn : rng n) :
    Calls Tryd.prog 87 #[x, .int .i64 n] w fun e w' => e = .returned (.bool (bitI A n)) ∧ w' = w := by
  by_cases h0 : n < 0
  · obtain ⟨ao, t, ca, d, rfl, hR, h2, rfl⟩ := hx
    have HV : Hid (bitI (val d t) n = false) := bitI_neg h0
    clear hA
    go_enter Tryd.func87, Tryd.ntmps87
    go_wp2
    go_ret
    exact ⟨ret_bool HV.out.symm, rfl⟩
  · by_cases h1 : n ≤ 1000000
    · obtain ⟨i, rfl⟩ : ∃ i : Nat, n = i := ⟨n.toNat, by omega⟩
      rw [bitI_nat]
      obtain ⟨ao, t, ca, rfl⟩ := hx.shape
      have ht := hx.len hA
      obtain ⟨ao', t', ca', d, e, hR, h2, rfl⟩ := hx
      simp only [Value.slice.injEq] at e
      obtain ⟨rfl, rfl, rfl⟩ := e
      exact rbit_any _ _ _ _ _ hR h2 (by omega) i (by omega)
    · have A0 := hx.nonneg
      have hb := blen60 hA
      obtain ⟨ao, t, ca, rfl⟩ := hx.shape
      have ht := hx.len hA
      obtain ⟨ao', t', ca', d, e, hR, h2, rfl⟩ := hx
      simp only [Value.slice.injEq] at e
      obtain ⟨rfl, rfl, rfl⟩ := e
      have HV : Hid (bitI (val d t) n = false) := bitI_big A0 (by omega)
      have hq : (t : Int) ≤ n / 30 := by omega
      have hwr : wrap64 (n.tdiv 30) = n / 30 := by
        unfold rng at hn
        rw [Int.tdiv_eq_ediv_of_nonneg (by omega)]
        exact IntWalk.wrap64_in _ ⟨by omega, by omega⟩
      have hl := hR.le
      have hm := hR.max
      clear hA
      go_enter Tryd.func87, Tryd.ntmps87
      go_wp2
      go_ret
      exact ⟨ret_bool HV.out.symm, rfl⟩
/-- The int of a number, and whether it is one. -/
def intV (A : Int) : Int := if blen A ≤ 63 then A else 0
end Go.Proofs.YtheiinclgfgneaaDoor

/-
  Package dyadic: Of, Of32, Float, by contracts.
-/
namespace Go.Proofs.YtheiinclgfgneaaDoor
open Go Go.RowKit Go.Proofs.YtheiinclgfgneaaDoor.M
set_option linter.unusedSimpArgs false
set_option linter.unusedVariables false

/-- The cells of binary64's layout. -/
structure Lay64 (w : World) : Prop where
  a0 : w.cell? ⟨1, 0, none⟩ = some (.int .i64 52)
  a1 : w.cell? ⟨1, 1, none⟩ = some (.int .i64 2047)
  a2 : w.cell? ⟨1, 2, none⟩ = some (.int .i64 (-1074))
theorem Lay64.keeps {w w' : World} (h : Lay64 w) (hb : Below w.heap.size w w') : Lay64 w' := ⟨cell_keeps h.a0 hb, cell_keeps h.a1 hb, cell_keeps h.a2 hb⟩
theorem bitsPartsA (b : Int) (w : World) (L : Lay64 w) :
    Calls Tryd.prog 42 #[.int .i64 b] w fun e w' => e = .returned (.tuple #[.bool (pneg b), .int .i64 (pmag b), .int .i64 (pexp b), .bool (pok b)]) ∧ Below w.heap.size w w' := by
  obtain ⟨a0, a1, a2⟩ := L
  by_cases h : pok b = true
  all_goals
    go_enter Tryd.func42, Tryd.ntmps42
    go_wp2_with (go_at_call 60; refine (parts64 _ _).mono ?_; rintro e w1 ⟨rfl, hg⟩)
    refine bodyPost_ret (v := .tuple #[.bool (pneg b), .int .i64 (pmag b), .int .i64 (pexp b), .bool (pok b)]) (by simp [results, Tryd.results42, go_sem, pneg, h]) rfl ⟨rfl, hg.be⟩
theorem pmag_in {b : Int} (hp : pok b = true) : 0 ≤ pmag b ∧ pmag b < 9007199254740992 ∧ -1074 ≤ pexp b ∧ pexp b ≤ 971 := by
  have hf := fld_le b
  have hr := frc_le b
  have h1 : fld b ≠ 2047 := by simpa [pok] using hp
  unfold pmag pexp
  rw [if_neg h1, if_neg h1]
  split <;> omega
theorem pmag32_in {b : Int} (hp : pok32 b = true) : 0 ≤ pmag32 b ∧ pmag32 b < 16777216 ∧ -149 ≤ pexp32 b ∧ pexp32 b ≤ 104 := by
  have hf := fld32_le b
  have hr := frc32_le b
  have h1 : fld32 b ≠ 255 := by
    intro h
    simp [pok32, h] at hp
  unfold pmag32 pexp32
  rw [if_pos hp, if_pos hp]
  split <;> omega
theorem P2000_big2 : 9223372036854775808 < P 2000 := by
  have := P_le (show 3 ≤ 2000 by omega)
  have e : P 3 = 1237940039285380274899124224 := rfl
  omega
/-- A finite float's worth has a valid form. -/
theorem dok_small {ng : Bool} {M e : Int} (h0 : 0 ≤ M) (h1 : M < 9223372036854775808) (e0 : -1074 ≤ e) (e1 : e ≤ 971) : Dok (sg ng M * pw e) := by
  by_cases hz : M = 0
  · rw [hz, sg_zero, Int.zero_mul]; exact dok_zero
  · obtain ⟨l, hl⟩ := isLow_ex (show 0 < M by omega)
    have hy := Dy.of ng hl (show 0 < M by omega) (show -4194304 ≤ e by omega)
    obtain ⟨c1, c2, c3⟩ := isLow_odd hl (show 0 < M by omega)
    have hp := two_pos l
    have hl63 : l < 63 := by
      have h3 : (1 : Int) * 2 ^ l ≤ M / 2 ^ l * 2 ^ l := Int.mul_le_mul_of_nonneg_right (by omega) (by omega)
      rw [c3] at h3
      refine two_lt_iff ?_
      rw [show (2 : Int) ^ 63 = 9223372036854775808 by decide]
      omega
    refine hy.ok.2 ⟨?_, by omega, by omega⟩
    have : M / 2 ^ l ≤ M := Int.ediv_le_self _ h0
    have := P2000_big2
    omega
end Go.Proofs.YtheiinclgfgneaaDoor

/-
  Package round: way.beyond, value.binary64, by their contracts.
-/
namespace Go.Proofs.YtheiinclgfgneaaDoor
open Go Go.RowKit Go.Proofs.YtheiinclgfgneaaDoor.M
set_option linter.unusedSimpArgs false
set_option linter.unusedVariables false

/-- The rung of what is too great. -/
def bRung (way : Int) (ng : Bool) : Int := if rUp way ng true 3 then 9218868437227405312 else 9218868437227405311
/-- A pattern of a sign and a rung. -/
def patS (ng : Bool) (r : Int) : Int := if ng then r - 9223372036854775808 else r
theorem or_inf : bits BinOp.or IntKind.i64 9218868437227405312 (-9223372036854775808) = -4503599627370496 := by decide +kernel
theorem or_most : bits BinOp.or IntKind.i64 9218868437227405311 (-9223372036854775808) = -4503599627370497 := by decide +kernel
theorem Env.keeps {w w' : World} (h : Env w) (hb : Below w.heap.size w w') : Env w' :=
  ⟨⟨cell_keeps h.lays.a0 hb, cell_keeps h.lays.a1 hb, cell_keeps h.lays.a2 hb, trivial, trivial, trivial⟩, fun j hj => cell_keeps (h.tab j hj) hb⟩
/-- What a value is rounded to. -/
def r64 (way : Int) (ng sd : Bool) (mag : Nat) (exp : Int) (cut : Bool) : Int × Bool :=
  let E := rE 53 (-1074) mag exp
  let u := rU mag (E - exp)
  let left := rL mag cut (E - exp)
  let U := u + (if rUp way ng (decide (u % 2 = 1)) left then 1 else 0)
  let neg := ng && (decide (0 < U) || sd)
  if jk 52 2047 (-1074) U E then (jp neg U E, decide (left ≠ 0)) else (patS neg (bRung way neg), true)
end Go.Proofs.YtheiinclgfgneaaDoor

/-
  Plain mathematics: what binary64 answers, by rungs. No Go text in sight.
-/
namespace Go.Proofs.YtheiinclgfgneaaDoor
open Go Go.Proofs.YtheiinclgfgneaaDoor.M
set_option linter.unusedSimpArgs false
set_option linter.unusedVariables false

/-- The value of a rung, in the scale. -/
def vS (r : Nat) : Int := (V Ieee.double r : Int) * pw (-1074)
theorem vS_lt {r s : Nat} (h : r < s) : vS r < vS s := Int.mul_lt_mul_of_pos_right (by have := V_lt Ieee.double h; omega) (pw_pos _)
/-- A size among the rungs: at r0 or above it, and how far to the next one. -/
structure Rung (A : Int) (r0 : Nat) (left : Int) : Prop where
  lo : vS r0 ≤ A
  hi : A < vS (r0 + 1)
  l0 : left = 0 ↔ A = vS r0
  l1 : left = 1 ↔ vS r0 < A ∧ 2 * A < vS r0 + vS (r0 + 1)
  l2 : left = 2 ↔ 2 * A = vS r0 + vS (r0 + 1)
  l3 : left = 3 ↔ vS r0 + vS (r0 + 1) < 2 * A
/-- The rung that it is rounded to. -/
def rTo (way : Int) (ng : Bool) (r0 : Nat) (left : Int) : Int := if (r0 : Int) < 9218868437227405312 then (r0 : Int) + (if rUp way ng (decide (r0 % 2 = 1)) left then 1 else 0) else bRung way ng
theorem rUp_left {way : Int} {ng odd : Bool} (h : rUp way ng odd 0 = true) : False := by
  unfold rUp at h
  split at h
  · simp at h
  · split at h
    · simp at h
    · split at h <;> simp at h
theorem rUp_more {way : Int} {ng odd : Bool} {left : Int} (h : rUp way ng odd left = true) : rUp way ng true 3 = true := by
  unfold rUp at *
  split at h
  · rename_i h1; rw [if_pos h1]; rfl
  · rename_i h1
    rw [if_neg h1]
    split at h
    · rename_i h2; rw [if_pos h2]; simp at h; simp [h.2]
    · rename_i h2
      rw [if_neg h2]
      split at h
      · rename_i h3; rw [if_pos h3]; simp at h; simp [h.2]
      · cases h
theorem left_rung {A : Int} {u a r0 : Nat} {left : Int} (h : M.Left A u (2 ^ a * pw (-1074)) left) (h1 : V Ieee.double r0 = u * 2 ^ a) (h2 : V Ieee.double (r0 + 1) = (u + 1) * 2 ^ a) : Rung A r0 left := by
  obtain ⟨lo, hi, l0, l1, l2, l3⟩ := h
  have e1 : vS r0 = (u : Int) * (2 ^ a * pw (-1074)) := by
    unfold vS
    rw [h1]
    push_cast
    rw [Int.mul_assoc]
  have e2 : vS (r0 + 1) = (u : Int) * (2 ^ a * pw (-1074)) + 2 ^ a * pw (-1074) := by
    unfold vS
    rw [h2]
    push_cast
    rw [Int.add_mul, Int.add_mul, Int.one_mul, Int.mul_assoc]
  generalize (2 : Int) ^ a * pw (-1074) = q at *
  generalize (u : Int) * q = U at *
  exact ⟨by omega, by omega, by rw [e1]; exact l0, by rw [e1, e2, l1]; constructor <;> intro h <;> omega, by rw [e1, e2, l2]; constructor <;> intro h <;> omega, by rw [e1, e2, l3]; constructor <;> intro h <;> omega⟩
theorem r64_spec {way : Int} {ng sd : Bool} {A : Int} {mag : Nat} {exp : Int} {cut : Bool} (hA : Held A mag exp cut) (hm : mag < 2 ^ 64) (h0 : mag ≠ 0) (he : -4194304 ≤ exp) (hc : cut = true → 2 ^ 60 ≤ mag) :
    ∃ (r0 : Nat) (left : Int), Rung A r0 left ∧ r64 way ng sd mag exp cut = (patS (ng && (decide (0 < rTo way ng r0 left) || sd)) (rTo way ng r0 left), decide (left ≠ 0) || decide (9218868437227405312 ≤ (r0 : Int))) := by
  have e64 : (2 : Nat) ^ 64 = 18446744073709551616 := by decide
  obtain ⟨b1, b2, b3, b4⟩ := M.bitLen_spec mag hm h0
  have hbits := rU_bits (size := 53) (low := -1074) (exp := exp) (by decide) hm h0
  have hE1 : -1074 ≤ rE 53 (-1074) mag exp := by unfold rE; omega
  have hcs : cut = true → 0 < rE 53 (-1074) mag exp - exp := fun h => by
    have h1 := hc h
    have h2 : 60 < Lib.bitLen mag := by
      have := (Nat.pow_lt_pow_iff_right (by decide : 1 < 2)).1 (Nat.lt_of_le_of_lt h1 b2)
      exact this
    unfold rE
    omega
  have hL := left_of hA hcs (by omega) he
  obtain ⟨E, hE⟩ : ∃ E, rE 53 (-1074) mag exp = E := ⟨_, rfl⟩
  have HR : r64 way ng sd mag exp cut = (let E := rE 53 (-1074) mag exp
    let u := rU mag (E - exp)
    let left := rL mag cut (E - exp)
    let U := u + (if rUp way ng (decide (u % 2 = 1)) left then 1 else 0)
    let neg := ng && (decide (0 < U) || sd)
    if jk 52 2047 (-1074) U E then (jp neg U E, decide (left ≠ 0)) else (patS neg (bRung way neg), true)) := rfl
  simp only at HR
  rw [hE] at hbits hE1 hL HR
  obtain ⟨u, hu⟩ : ∃ u, rU mag (E - exp) = u := ⟨_, rfl⟩
  obtain ⟨left, hl⟩ : ∃ l, rL mag cut (E - exp) = l := ⟨_, rfl⟩
  rw [hu] at hbits hL HR
  rw [hl] at hL HR
  obtain ⟨a, ha⟩ : ∃ a, (E - -1074).toNat = a := ⟨_, rfl⟩
  have e53 : (2 : Nat) ^ (53 : Int).toNat = 9007199254740992 := by decide
  have e52 : (2 : Nat) ^ ((53 : Int).toNat - 1) = 4503599627370496 := by decide
  rw [e53, e52] at hbits
  have eB : Ieee.double.binade = 4503599627370496 := by decide
  have hV := V_rung Ieee.double a u (by rw [eB]; omega) (fun h => by rw [eB]; exact hbits.2 (by omega))
  rw [eB] at hV
  have hpw : pw E = 2 ^ a * pw (-1074) := by rw [pw_sub (e := E) (low := -1074) (by decide) hE1, ha]
  rw [hpw] at hL
  refine ⟨a * 4503599627370496 + u, left, left_rung hL hV.1 hV.2, ?_⟩
  rw [HR]
  have hodd : decide ((a * 4503599627370496 + u) % 2 = 1) = decide (u % 2 = 1) := by congr 1; apply propext; omega
  unfold rTo
  rw [hodd]
  obtain ⟨R, hR⟩ : ∃ R, rUp way ng (decide (u % 2 = 1)) left = R := ⟨_, rfl⟩
  rw [hR]
  obtain ⟨U, hU⟩ : ∃ U, u + (if R = true then 1 else 0) = U := ⟨_, rfl⟩
  rw [hU]
  have hR1 : R = true → left ≠ 0 := fun h hz => by rw [hz, h] at hR; exact rUp_left hR
  have hR2 : R = true → rUp way ng true 3 = true := fun h => rUp_more (hR.trans h)
  have hUle : U ≤ 9007199254740992 := by rw [← hU]; split <;> omega
  have hcast : ((a * 4503599627370496 + u : Nat) : Int) + (if R = true then 1 else 0) = ((a * 4503599627370496 + U : Nat) : Int) := by
    rw [← hU]
    cases R <;> simp only [if_true, if_false, Bool.false_eq_true] <;> omega
  rw [hcast]
  by_cases hU0 : U = 0
  · have hu0 : u = 0 := by rw [← hU] at hU0; omega
    have ha0 : a = 0 := by
      rcases Nat.eq_zero_or_pos a with h | h
      · exact h
      · have := hbits.2 (by omega); omega
    subst hU0 hu0 ha0
    have hj : jk 52 2047 (-1074) ((0 : Nat) : Int) E = true := rfl
    rw [hj]
    rw [if_pos rfl, if_pos (by decide)]
    have hd : decide (9218868437227405312 ≤ ((0 * 4503599627370496 + 0 : Nat) : Int)) = false := by decide
    rw [hd, Bool.or_false]
    cases ng <;> cases sd <;> rfl
  · have hjr := join_rung Ieee.double 52 (by decide) dB 2047 (-1074) (by decide) U E (by omega) (by rw [show (2 : Nat) ^ (52 + 1) = 9007199254740992 by decide]; exact hUle) hE1 (fun h => by rw [show (2 : Nat) ^ 52 = 4503599627370496 by decide]; have := hbits.2 h; rw [← hU]; omega)
    simp only at hjr
    rw [ha, show (2 : Nat) ^ 52 = 4503599627370496 by decide, show (2047 : Int) * 2 ^ 52 = 9218868437227405312 by decide] at hjr
    obtain ⟨j1, j2⟩ := hjr
    have hpos : decide (0 < U) = true := decide_eq_true (by omega)
    rw [show jk ((52 : Nat) : Int) 2047 (-1074) (U : Int) E = jk 52 2047 (-1074) (U : Int) E from rfl] at j1
    rw [j1, hpos, Bool.true_or, Bool.and_true]
    by_cases hf : ((a * 4503599627370496 + U : Nat) : Int) < 9218868437227405312
    · have huU : u ≤ U := by rw [← hU]; omega
      have hf0 : ((a * 4503599627370496 + u : Nat) : Int) < 9218868437227405312 := by omega
      rw [decide_eq_true hf, if_pos rfl, if_pos hf0, decide_eq_false (p := 9218868437227405312 ≤ ((a * 4503599627370496 + u : Nat) : Int)) (by omega), Bool.or_false]
      have hd : decide (0 < ((a * 4503599627370496 + U : Nat) : Int)) = true := decide_eq_true (by omega)
      rw [hd, Bool.true_or, Bool.and_true]
      congr 1
      have hjk : jk 52 2047 (-1074) (U : Int) E = true := by rw [j1]; exact decide_eq_true hf
      have hjv := j2 hf
      rw [show jv ((52 : Nat) : Int) 2047 (-1074) (U : Int) E = jv 52 2047 (-1074) (U : Int) E from rfl] at hjv
      unfold jp patS
      rw [hjk, hjv, Bool.true_and]
    · rw [decide_eq_false hf, if_neg (by simp)]
      by_cases hf0 : ((a * 4503599627370496 + u : Nat) : Int) < 9218868437227405312
      · have hRt : R = true := by
          cases R
          · exfalso; simp at hU; omega
          · rfl
        have hUe : ((a * 4503599627370496 + U : Nat) : Int) = 9218868437227405312 := by rw [hRt] at hU; simp at hU; omega
        rw [if_pos hf0, hUe, decide_eq_true (hR1 hRt), Bool.true_or]
        congr 1
        have : bRung way ng = 9218868437227405312 := by unfold bRung; rw [hR2 hRt, if_pos rfl]
        rw [this]
        simp
      · rw [if_neg hf0, decide_eq_true (p := 9218868437227405312 ≤ ((a * 4503599627370496 + u : Nat) : Int)) (by omega), Bool.or_true]
        congr 1
        have hd : decide (0 < bRung way ng) = true := by unfold bRung; split <;> decide
        rw [hd, Bool.true_or, Bool.and_true]
end Go.Proofs.YtheiinclgfgneaaDoor

/-
  Plain mathematics of the document's rounding (plumbref4.Cut): what is kept, the half, the rest; the rung that it tells. No Go text in sight.
-/
namespace Go.Proofs.YtheiinclgfgneaaDoor
open Go Go.Proofs.YtheiinclgfgneaaDoor.M
set_option linter.unusedSimpArgs false
set_option linter.unusedVariables false

/-- The half: the bit below the last one that is kept. -/
def cH (M : Nat) (low : Int) : Bool := decide (0 < low) && bitB M (low - 1).toNat
/-- The rest below it. -/
def cR (M : Nat) (more : Bool) (low : Int) : Bool := more || (decide (1 < low) && decide (M % 2 ^ (low - 1).toNat ≠ 0))
theorem cut_left {M : Nat} {more : Bool} {low : Int} (hc : more = true → 0 < low) : rL M more low = if cH M low then (if cR M more low then 3 else 2) else (if cR M more low then 1 else 0) := by
  by_cases h : low ≤ 0
  · have hm : more = false := by
      cases more
      · rfl
      · have := hc rfl; omega
    unfold rL cH cR
    rw [if_pos h, decide_eq_false (show ¬ 0 < low by omega), decide_eq_false (show ¬ 1 < low by omega), hm]
    rfl
  · obtain ⟨s, rfl⟩ : ∃ s : Nat, low = (s : Int) + 1 := ⟨(low - 1).toNat, by omega⟩
    have e1 : ((s : Int) + 1 - 1).toNat = s := by omega
    have e2 : ((s : Int) + 1).toNat = s + 1 := by omega
    unfold rL cH cR
    rw [if_neg h, e1, e2, decide_eq_true (show (0 : Int) < (s : Int) + 1 by omega), Bool.true_and]
    have hb : bitB (M : Int) s = decide (M / 2 ^ s % 2 = 1) := by
      unfold bitB
      have : (M : Int) / 2 ^ s % 2 = ((M / 2 ^ s % 2 : Nat) : Int) := by simp
      rw [this]
      rcases Nat.mod_two_eq_zero_or_one (M / 2 ^ s) with q | q <;> rw [q] <;> rfl
    rw [hb]
    have hs : M % 2 ^ (s + 1) = M / 2 ^ s % 2 * 2 ^ s + M % 2 ^ s := by
      rw [Nat.pow_succ, Nat.mod_mul]
      rw [Nat.mul_comm, Nat.add_comm]
    have hr : (decide ((1 : Int) < (s : Int) + 1) && decide (M % 2 ^ s ≠ 0)) = decide (M % 2 ^ s ≠ 0) := by
      cases s with
      | zero => simp [Nat.mod_one]
      | succ k => rw [decide_eq_true (show (1 : Int) < ((k + 1 : Nat) : Int) + 1 by omega), Bool.true_and]
    rw [hr, hs, Nat.pow_succ]
    have hlt := Nat.mod_lt M (Nat.two_pow_pos s)
    generalize M % 2 ^ s = t at *
    generalize 2 ^ s = q at *
    rcases Nat.mod_two_eq_zero_or_one (M / q) with p | p
    · rw [p]
      cases more
      · by_cases t0 : t = 0
        · simp [t0]
        · simp [t0]
          omega
      · simp
        omega
    · rw [p]
      cases more
      · by_cases t0 : t = 0
        · subst t0
          simp
          omega
        · simp [t0]
          omega
      · simp
        omega
/-- The rest, by the lowest bit. -/
theorem rest_low {M : Nat} {l : Int} {s : Nat} (h : LowA M l) (h0 : M ≠ 0) : (0 ≤ l ∧ l < s) ↔ M % 2 ^ s ≠ 0 := by
  rcases h with ⟨h, _⟩ | ⟨k, rfl, m, hm⟩
  · omega
  · have hm0 : 0 ≤ m := by
      rcases Int.lt_or_le m 0 with q | q
      · have h2 := two_pos k
        have : (2 * m + 1) * 2 ^ k < 0 := Int.mul_neg_of_neg_of_pos (by omega) h2
        omega
      · exact q
    obtain ⟨c, rfl⟩ := Int.eq_ofNat_of_zero_le hm0
    have hM : M = (2 * c + 1) * 2 ^ k := by
      have : ((M : Nat) : Int) = (((2 * c + 1) * 2 ^ k : Nat) : Int) := by rw [hm]; push_cast; rfl
      exact Int.ofNat.inj this
    constructor
    · rintro ⟨_, hk⟩ hz
      obtain ⟨j, rfl⟩ : ∃ j, s = k + (j + 1) := ⟨s - k - 1, by omega⟩
      have hd : 2 ^ (k + (j + 1)) ∣ (2 * c + 1) * 2 ^ k := by rw [← hM]; exact Nat.dvd_of_mod_eq_zero hz
      rw [Nat.pow_add, Nat.mul_comm (2 * c + 1)] at hd
      have hd2 := Nat.dvd_of_mul_dvd_mul_left (Nat.two_pow_pos k) hd
      obtain ⟨x, hx⟩ := hd2
      rw [Nat.pow_succ, Nat.mul_assoc, Nat.mul_left_comm] at hx
      omega
    · intro hz
      refine ⟨by omega, ?_⟩
      rcases Int.lt_or_le (k : Int) s with q | q
      · exact q
      · exfalso
        apply hz
        obtain ⟨j, rfl⟩ : ∃ j, k = s + j := ⟨k - s, by omega⟩
        rw [hM, Nat.pow_add, Nat.mul_left_comm]
        exact Nat.mul_mod_right _ _
/-- The exponent of the last bit that is kept. -/
def cE (sz lowE : Int) (M : Nat) (exp : Int) : Int := max ((blen M : Int) + exp - sz) lowE
theorem blen_two {M : Nat} (h0 : M ≠ 0) : 1 ≤ blen M ∧ 2 ^ (blen M - 1) ≤ M ∧ M < 2 ^ blen M := by
  obtain ⟨h1, h2⟩ := blen_pos (V := (M : Int)) (by omega)
  have h3 := blen_lt (M : Int)
  refine ⟨h1, ?_, ?_⟩
  · have : ((2 ^ (blen M - 1) : Nat) : Int) ≤ (M : Int) := by simpa using h2
    exact Int.ofNat_le.1 this
  · have : (M : Int) < ((2 ^ blen M : Nat) : Int) := by simpa using h3
    exact Int.ofNat_lt.1 this
theorem cU_bits {sz lowE : Int} {M : Nat} {exp : Int} (hs : 0 < sz) (h0 : M ≠ 0) : rU M (cE sz lowE M exp - exp) < 2 ^ sz.toNat ∧ (lowE < cE sz lowE M exp → 2 ^ (sz.toNat - 1) ≤ rU M (cE sz lowE M exp - exp)) := by
  obtain ⟨b0, b1, b2⟩ := blen_two h0
  obtain ⟨n, hn⟩ : ∃ n, blen M = n := ⟨_, rfl⟩
  obtain ⟨z, rfl⟩ : ∃ z : Nat, sz = z := ⟨sz.toNat, by omega⟩
  unfold cE rU
  rw [hn] at b0 b1 b2 ⊢
  rw [Int.toNat_natCast]
  obtain ⟨e, he⟩ : ∃ e, max ((n : Int) + exp - (z : Int)) lowE = e := ⟨_, rfl⟩
  have he1 : (n : Int) + exp - z ≤ e := by omega
  have he2 : lowE < e → e = n + exp - z := by omega
  rw [he]
  by_cases hse : e - exp ≤ 0
  · rw [if_pos hse]
    obtain ⟨k, hk⟩ : ∃ k, (-(e - exp)).toNat = k := ⟨_, rfl⟩
    rw [hk]
    refine ⟨?_, fun hl => ?_⟩
    · calc M * 2 ^ k < 2 ^ n * 2 ^ k := Nat.mul_lt_mul_of_pos_right b2 (Nat.two_pow_pos k)
        _ = 2 ^ (n + k) := by rw [Nat.pow_add]
        _ ≤ 2 ^ z := Nat.pow_le_pow_right (by decide) (by omega)
    · have := he2 hl
      calc 2 ^ (z - 1) ≤ 2 ^ (n - 1 + k) := Nat.pow_le_pow_right (by decide) (by omega)
        _ = 2 ^ (n - 1) * 2 ^ k := by rw [Nat.pow_add]
        _ ≤ M * 2 ^ k := Nat.mul_le_mul_right _ b1
  · rw [if_neg hse]
    obtain ⟨k, hk⟩ : ∃ k, (e - exp).toNat = k := ⟨_, rfl⟩
    rw [hk]
    refine ⟨?_, fun hl => ?_⟩
    · rw [Nat.div_lt_iff_lt_mul (Nat.two_pow_pos k), ← Nat.pow_add]
      exact Nat.lt_of_lt_of_le b2 (Nat.pow_le_pow_right (by decide) (by omega))
    · have := he2 hl
      rw [Nat.le_div_iff_mul_le (Nat.two_pow_pos k), ← Nat.pow_add]
      exact Nat.le_trans (Nat.pow_le_pow_right (by decide) (by omega)) b1
/-- The units that are told, raised or not. -/
def cU (sz lowE way : Int) (ng : Bool) (M : Nat) (exp : Int) (more : Bool) : Nat :=
  rU M (cE sz lowE M exp - exp) + (if rUp way ng (decide (rU M (cE sz lowE M exp - exp) % 2 = 1)) (rL M more (cE sz lowE M exp - exp)) then 1 else 0)
/-- Is it too great? -/
def cO (sz lowE high way : Int) (ng : Bool) (M : Nat) (exp : Int) (more : Bool) : Bool :=
  decide (2 ^ (sz.toNat - 1) ≤ cU sz lowE way ng M exp more) && decide (high < (blen (cU sz lowE way ng M exp more) : Int) + cE sz lowE M exp)
/-- The sign's worth in a pattern. -/
def cS (sgn : Int) (ng : Bool) : Int := if ng then sgn else 0
theorem cut_spec {way : Int} {ng : Bool} {A : Int} {M : Nat} {exp : Int} {more : Bool} (hA : Held A M exp more) (h0 : M ≠ 0) (he : -4194304 ≤ exp) (hc : more = true → 2 ^ 60 ≤ M) :
    ∃ (r0 : Nat) (left : Int), Rung A r0 left ∧ (if cO 53 (-1074) 1024 way ng M exp more then cS (-9223372036854775808) ng + (if rUp way ng true 3 then 9218868437227405312 else 9218868437227405311) else cS (-9223372036854775808) ng + jp false (cU 53 (-1074) way ng M exp more) (cE 53 (-1074) M exp)) = patS ng (rTo way ng r0 left) ∧
      (cO 53 (-1074) 1024 way ng M exp more || (decide (rL M more (cE 53 (-1074) M exp - exp) ≠ 0))) = (decide (left ≠ 0) || decide (9218868437227405312 ≤ (r0 : Int))) := by
  obtain ⟨b0, b1, b2⟩ := blen_two h0
  have hbits := cU_bits (sz := 53) (lowE := -1074) (exp := exp) (by decide) h0
  have hE1 : -1074 ≤ cE 53 (-1074) M exp := by unfold cE; omega
  have hcs : more = true → 0 < cE 53 (-1074) M exp - exp := fun h => by
    have h1 := hc h
    have h2 : 60 < blen M := by
      have := (Nat.pow_lt_pow_iff_right (by decide : 1 < 2)).1 (Nat.lt_of_le_of_lt h1 b2)
      exact this
    unfold cE
    omega
  have hL := left_of hA hcs (by omega) he
  unfold cO cU
  obtain ⟨E, hE⟩ : ∃ E, cE 53 (-1074) M exp = E := ⟨_, rfl⟩
  rw [hE] at hbits hE1 hL ⊢
  obtain ⟨u, hu⟩ : ∃ u, rU M (E - exp) = u := ⟨_, rfl⟩
  obtain ⟨left, hl⟩ : ∃ l, rL M more (E - exp) = l := ⟨_, rfl⟩
  rw [hu] at hbits hL ⊢
  rw [hl] at hL ⊢
  obtain ⟨a, ha⟩ : ∃ a, (E - -1074).toNat = a := ⟨_, rfl⟩
  have e53 : (2 : Nat) ^ (53 : Int).toNat = 9007199254740992 := by decide
  have e52 : (2 : Nat) ^ ((53 : Int).toNat - 1) = 4503599627370496 := by decide
  rw [e53, e52] at hbits
  rw [e52]
  have eB : Ieee.double.binade = 4503599627370496 := by decide
  have hV := V_rung Ieee.double a u (by rw [eB]; omega) (fun h => by rw [eB]; exact hbits.2 (by omega))
  rw [eB] at hV
  have hpw : pw E = 2 ^ a * pw (-1074) := by rw [pw_sub (e := E) (low := -1074) (by decide) hE1, ha]
  rw [hpw] at hL
  refine ⟨a * 4503599627370496 + u, left, left_rung hL hV.1 hV.2, ?_⟩
  have hodd : decide ((a * 4503599627370496 + u) % 2 = 1) = decide (u % 2 = 1) := by congr 1; apply propext; omega
  unfold rTo
  rw [hodd]
  obtain ⟨R, hR⟩ : ∃ R, rUp way ng (decide (u % 2 = 1)) left = R := ⟨_, rfl⟩
  rw [hR]
  obtain ⟨U, hU⟩ : ∃ U, u + (if R = true then 1 else 0) = U := ⟨_, rfl⟩
  rw [hU]
  have hR1 : R = true → left ≠ 0 := fun h hz => by rw [hz, h] at hR; exact rUp_left hR
  have hR2 : R = true → rUp way ng true 3 = true := fun h => rUp_more (hR.trans h)
  have hUle : U ≤ 9007199254740992 := by rw [← hU]; split <;> omega
  have hcast : ((a * 4503599627370496 + u : Nat) : Int) + (if R = true then 1 else 0) = ((a * 4503599627370496 + U : Nat) : Int) := by
    rw [← hU]
    cases R <;> simp only [if_true, if_false, Bool.false_eq_true] <;> omega
  rw [hcast]
  have huU : u ≤ U := by rw [← hU]; omega
  have hO : (decide (4503599627370496 ≤ U) && decide (1024 < (blen (U : Int) : Int) + E)) = decide (9218868437227405312 ≤ ((a * 4503599627370496 + U : Nat) : Int)) := by
    have hsub : U < 4503599627370496 → a = 0 := fun h => by
      rcases Nat.eq_zero_or_pos a with q | q
      · exact q
      · have := hbits.2 (by omega); omega
    have hEa : E = (a : Int) - 1074 := by omega
    by_cases c1 : 4503599627370496 ≤ U
    · rw [decide_eq_true c1, Bool.true_and]
      by_cases c2 : U = 9007199254740992
      · have : blen (U : Int) = 54 := blen_of (k := 53) (by rw [show (2 : Int) ^ 53 = 9007199254740992 from rfl]; omega) (by rw [show (2 : Int) ^ (53 + 1) = 18014398509481984 from rfl]; omega)
        rw [this]
        congr 1
        apply propext
        omega
      · have : blen (U : Int) = 53 := blen_of (k := 52) (by rw [show (2 : Int) ^ 52 = 4503599627370496 from rfl]; omega) (by rw [show (2 : Int) ^ (52 + 1) = 9007199254740992 from rfl]; omega)
        rw [this]
        congr 1
        apply propext
        omega
    · rw [decide_eq_false c1, Bool.false_and]
      have := hsub (by omega)
      symm
      rw [decide_eq_false]
      omega
  rw [hO]
  by_cases hf : ((a * 4503599627370496 + U : Nat) : Int) < 9218868437227405312
  · have hf0 : ((a * 4503599627370496 + u : Nat) : Int) < 9218868437227405312 := by omega
    rw [decide_eq_false (show ¬ 9218868437227405312 ≤ ((a * 4503599627370496 + U : Nat) : Int) by omega), if_neg (by decide), if_pos hf0, decide_eq_false (p := 9218868437227405312 ≤ ((a * 4503599627370496 + u : Nat) : Int)) (by omega), Bool.or_false, Bool.false_or]
    refine ⟨?_, rfl⟩
    have hjp : jp false (U : Int) E = ((a * 4503599627370496 + U : Nat) : Int) := by
      by_cases hU0 : U = 0
      · have hu0 : u = 0 := by omega
        have ha0 : a = 0 := by
          rcases Nat.eq_zero_or_pos a with h | h
          · exact h
          · have := hbits.2 (by omega); omega
        subst hU0 ha0
        rfl
      · have hjr := join_rung Ieee.double 52 (by decide) dB 2047 (-1074) (by decide) U E (by omega) (by rw [show (2 : Nat) ^ (52 + 1) = 9007199254740992 by decide]; exact hUle) hE1 (fun h => by rw [show (2 : Nat) ^ 52 = 4503599627370496 by decide]; have := hbits.2 h; omega)
        simp only at hjr
        rw [ha, show (2 : Nat) ^ 52 = 4503599627370496 by decide, show (2047 : Int) * 2 ^ 52 = 9218868437227405312 by decide] at hjr
        obtain ⟨j1, j2⟩ := hjr
        rw [show jk ((52 : Nat) : Int) 2047 (-1074) (U : Int) E = jk 52 2047 (-1074) (U : Int) E from rfl, decide_eq_true hf] at j1
        have hjv := j2 hf
        rw [show jv ((52 : Nat) : Int) 2047 (-1074) (U : Int) E = jv 52 2047 (-1074) (U : Int) E from rfl] at hjv
        unfold jp
        rw [j1, hjv]
        rfl
    rw [hjp]
    unfold cS patS
    cases ng <;> simp <;> omega
  · rw [decide_eq_true (show 9218868437227405312 ≤ ((a * 4503599627370496 + U : Nat) : Int) by omega), if_pos rfl, Bool.true_or]
    by_cases hf0 : ((a * 4503599627370496 + u : Nat) : Int) < 9218868437227405312
    · have hRt : R = true := by
        cases R
        · exfalso; simp at hU; omega
        · rfl
      have hUe : ((a * 4503599627370496 + U : Nat) : Int) = 9218868437227405312 := by rw [hRt] at hU; simp at hU; omega
      rw [if_pos hf0, hUe, decide_eq_true (hR1 hRt), Bool.true_or, hR2 hRt, if_pos rfl]
      refine ⟨?_, rfl⟩
      unfold cS patS
      cases ng <;> simp
    · rw [if_neg hf0, decide_eq_true (p := 9218868437227405312 ≤ ((a * 4503599627370496 + u : Nat) : Int)) (by omega), Bool.or_true]
      refine ⟨?_, rfl⟩
      unfold cS patS bRung
      cases ng <;> simp <;> split <;> omega
end Go.Proofs.YtheiinclgfgneaaDoor

/-
  The document's own answers (plumbref2): Shl, Shr, by contracts over the same values.
-/
namespace Go.Proofs.YtheiinclgfgneaaDoor
open Go Go.RowKit Go.Proofs.YtheiinclgfgneaaDoor.M
set_option linter.unusedSimpArgs false
set_option linter.unusedVariables false

set_option maxHeartbeats 1000000 in
theorem rshl_qp (ao : Option Addr) (n ca q p : Nat) (a : Nat → Int) (w : World) (ha : Row w ao n ca a) (da : Dig a n) (hn : n ≤ 100000) (hq : q ≤ 100000) (hp : p < 30) (k : Int) (hk : k = 30 * q + p) :
    Calls Tryd.prog 47 #[.slice ao n ca, .int .i64 k] w fun e w' => ∃ v, e = .returned v ∧ Ans w w' (P q * (2 ^ p * val a n)) v := by
  have hla := ha.le
  have hma := ha.max
  have e1 : k / 30 = q := by omega
  have e2 : k % 30 = p := by omega
  have hk0 : 0 ≤ k := by omega
  clear hk
  have hu := two_pos p
  have hu2 : (2 : Int) ^ p ≤ 2 ^ 29 := two_le (by omega)
  by_cases hn0 : n = 0
  · subst hn0
    have H0 : Hid (P q * (2 ^ p * val a 0) = 0) := by show _ = _; simp [val]
    go_enter Tryd.func47, Tryd.ntmps47
    go_wp2
    go_ret
    exact ⟨_, rfl, by rw [H0.out]; exact Ans.nil (bel_refl _)⟩
  · have en : ((n : Int) == 0) = false := by simp; omega
    go_enter Tryd.func47, Tryd.ntmps47
    go_wp2_with (at_make; refine wpList_mk rfl _ _ rfl _ _ q rfl rfl (by omega) (by omega) (by omega) ?_; intro w1 hB1 hb1)
    rw [e2]
    go_loopw [5, 7, 8] (fun l c i wr => ∃ (k : Nat) (c' : Int) (r : Nat → Int), k ≤ n ∧ i = .int .i64 k ∧ c = .int .i64 c' ∧ 0 ≤ c' ∧ c' < 2 ^ p ∧ Out w.heap.size wr l (q + k) r ∧ Dig r (q + k) ∧ Hid (∀ i, i < q → r i = 0) ∧ Hid (val (fun i => r (q + i)) k + c' * P k = 2 ^ p * val a k) ∧ Below w.heap.size w wr) (fun _ _ i _ => n - (intOf i).toNat)
    case atStart => exact ⟨0, 0, fun _ => 0, Nat.zero_le _, rfl, rfl, by omega, hu, hB1.out (Nat.le_refl _) (Nat.le_refl _) (by omega), zero_dig _, fun _ _ => rfl, by show _ = _; show (0 : Int) + 0 * 1 = 2 ^ p * 0; omega, hb1⟩
    case round =>
      obtain ⟨k, c, r, hk, rfl, rfl, hc0, hc1, hO, hD, HZ, HV, hbw⟩ := hrel
      by_cases hlt : k < n
      · obtain ⟨ba, fa, rfl, hba, hca⟩ := ha.spot (by omega)
        have c1 := (hbw.cell (p := ⟨ba, fa + k, none⟩) hba).trans (hca k hlt)
        have dk := da k hlt
        obtain ⟨s0, s1, s2⟩ := shl_dig dk (show p ≤ 30 by omega)
        have hc2 : (a k * 2 ^ p + c) / 1073741824 < 2 ^ p := by omega
        go_wp2_with (at_builtin; refine wpList_app rfl _ _ rfl w.heap.size _ (q + k) r rfl (hO.stays (bel_alloc _ _)) _ 1 1 (fun _ => (a k * 2 ^ p + c) % 1073741824) rfl (row1 _ _ rfl) (by omega) (by have := hbw.size; simp; omega) ?_; intro v' w1 hO1 hg1)
        have hb1 : Below w.heap.size w w1 := (hbw.alloc hbw.size _).grown hg1 (by have := hbw.size; simp; omega) (own_ge hO)
        have hs := sum_step (x := a k * 2 ^ p) HV.out
        rw [Int.add_comm c] at hs
        go_roundw
        case rel => exact ⟨k + 1, (a k * 2 ^ p + c) / 1073741824, upd r (q + k) ((a k * 2 ^ p + c) % 1073741824), by omega, by go_num, rfl, by omega, hc2, hO1.congr (cat_upd r (q + k) _), dig_upd2 hD (mod_dig _), fun i hi => by rw [upd_other r _ (by omega)]; exact HZ.out i hi, by show _ = _; rw [upd_shift, hs, val_succ]; grind, hb1⟩
        case measure => simp [intOf]; omega
      · obtain rfl : k = n := by omega
        go_wp2_with (at_builtin; refine wpList_app rfl _ _ rfl w.heap.size _ (q + k) r rfl (hO.stays (bel_alloc _ _)) _ 1 1 (fun _ => c) rfl (row1 _ _ rfl) (by omega) (by have := hbw.size; simp; omega) ?_; intro v' w1 hO1 hg1)
        have hb1 : Below w.heap.size w w1 := (hbw.alloc hbw.size _).grown hg1 (by have := hbw.size; simp; omega) (own_ge hO)
        have D2 : Dig (upd r (q + k) c) (q + k + 1) := dig_upd2 hD ⟨hc0, by omega⟩
        refine (rtrim_ans (hO1.congr (cat_upd r (q + k) c)) D2 hb1).mono ?_
        rintro e w3 ⟨v', rfl, hA, rfl⟩
        go_wp2
        go_ret
        refine ⟨_, rfl, ?_⟩
        rw [Nat.add_assoc, val_shift0 _ _ _ (fun i hi => by rw [upd_other r _ (by omega)]; exact HZ.out i hi), upd_shift, val_succ, upd_same, val_upd_ge _ _ (Nat.le_refl _), HV.out] at hA
        exact hA
theorem rshl_any (ao : Option Addr) (n ca k : Nat) (a : Nat → Int) (w : World) (ha : Row w ao n ca a) (da : Dig a n) (hn : n ≤ 100000) (hk : k ≤ 2000000) :
    Calls Tryd.prog 47 #[.slice ao n ca, .int .i64 k] w fun e w' => ∃ v, e = .returned v ∧ Ans w w' (val a n * 2 ^ k) v := by
  refine (rshl_qp ao n ca (k / 30) (k % 30) a w ha da hn (by omega) (by omega) k (by omega)).mono ?_
  rintro e w' ⟨v, he, h⟩
  refine ⟨v, he, ?_⟩
  rw [two_split k]
  rwa [show val a n * (P (k / 30) * 2 ^ (k % 30)) = P (k / 30) * (2 ^ (k % 30) * val a n) by grind]

set_option maxRecDepth 100000 in
set_option maxHeartbeats 1000000 in
theorem rshr_qp (ao : Option Addr) (n ca q p : Nat) (a : Nat → Int) (w : World) (ha : Row w ao n ca a) (da : Dig a n) (hn : n ≤ 100000) (hp : p < 30) (k : Int) (hk : k = 30 * q + p) (hkm : k ≤ 4000000) :
    Calls Tryd.prog 67 #[.slice ao n ca, .int .i64 k] w fun e w' => ∃ v, e = .returned v ∧ Ans w w' (val a n / P q / 2 ^ p) v := by
  have hla := ha.le
  have hma := ha.max
  have e1 : k / 30 = q := by omega
  have e2 : k % 30 = p := by omega
  have hk0 : 0 ≤ k := by omega
  have hq1 : q ≤ 200000 := by omega
  clear hk
  have hu := two_pos p
  have hu2 : (2 : Int) ^ p ≤ 2 ^ 29 := two_le (by omega)
  have huv : (2 : Int) ^ p * 2 ^ (30 - p) = 1073741824 := by rw [← Int.pow_add, show p + (30 - p) = 30 by omega]; rfl
  have HU : Hid ((2 : Int) ^ p * 2 ^ (30 - p) = 1073741824) := huv
  have hdv : (1073741824 : Int) / 2 ^ p = 2 ^ (30 - p) := by rw [← huv]; exact Int.mul_ediv_cancel_left _ (by omega)
  have hz : ((2 : Int) ^ p == 0) = false := by simp; omega
  clear huv
  by_cases hqn : n ≤ q
  · have H0 : Hid (val a n / P q / 2 ^ p = 0) := by
      show _ = _
      rw [Int.ediv_eq_zero_of_lt (val_nonneg da) (by have := val_lt da; have := P_le hqn; omega)]; exact Int.zero_ediv _
    go_enter Tryd.func67, Tryd.ntmps67
    go_wp2
    go_ret
    exact ⟨_, rfl, by rw [H0.out]; exact Ans.nil (bel_refl _)⟩
  · obtain ⟨ba, fa, rfl, hba, hca⟩ := ha.spot (by omega)
    obtain ⟨N, hN⟩ : ∃ N, n = q + N := ⟨n - q, by omega⟩
    have HN : Hid (n = q + N) := hN
    have hn1 : q + N ≤ n := by omega
    have hn2 : n ≤ q + N := by omega
    have hN0 : 0 < N := by omega
    clear hN
    go_enter Tryd.func67, Tryd.ntmps67
    go_wp2
    rw [e1, e2]
    go_loopw [5, 7] (fun l i wr => ∃ (k : Nat) (r : Nat → Int), k ≤ N ∧ i = .int .i64 ((q : Int) + k) ∧ Out w.heap.size wr l k r ∧ Hid (∀ i, i < k → r i = low (fun j => ext a n (q + j)) (2 ^ p) (2 ^ (30 - p)) i) ∧ Below w.heap.size w wr) (fun _ i _ => n - (intOf i).toNat)
    case atStart => exact ⟨0, fun _ => 0, Nat.zero_le _, by simp, Out.nil _ _ _, fun i hi => by omega, bel_refl _⟩
    case round =>
      obtain ⟨k, r, hk, rfl, hO, HV, hbw⟩ := hrel
      by_cases hlt : k < N
      · have c1 := (hbw.cell (p := ⟨ba, fa + (q + k), none⟩) hba).trans (hca (q + k) (by omega))
        have dx := da (q + k) (by omega)
        by_cases hl2 : q + k + 1 < n
        · have dy := da (q + k + 1) (by omega)
          obtain ⟨s0, s1, s2, s3, s4⟩ := shr_part dx dy hp
          have s5 : 0 ≤ a (q + k + 1) % 2 ^ p * 2 ^ (30 - p) := Int.mul_nonneg s3 (Int.le_of_lt (two_pos _))
          have s6 : (2 : Int) ^ (30 - p) ≤ 2 ^ 30 := two_le (by omega)
          have c2 := (hbw.cell (p := ⟨ba, fa + (q + k + 1), none⟩) hba).trans (hca (q + k + 1) (by omega))
          clear s2
          go_wp2
          go_quiet (fail)
          go_wp2_with (at_builtin; refine wpList_app rfl _ _ rfl w.heap.size _ k r rfl ((hO.stays (bDrewN (bel_refl _) _)).stays (bel_alloc _ _)) _ 1 1 (fun _ => (a (q + k) / 2 ^ p + a (q + k + 1) % 2 ^ p * 2 ^ (30 - p))) rfl (row1 _ _ rfl) (by omega) (by have := hbw.size; simp [World.drewN]; omega) ?_; intro v' w1 hO1 hg1)
          have hb1 : Below w.heap.size w w1 := ((bDrewN hbw _).alloc hbw.size _).grown hg1 (by have := hbw.size; simp [World.drewN]; omega) (own_ge hO)
          go_roundw
          case rel => exact ⟨k + 1, upd r k (a (q + k) / 2 ^ p + a (q + k + 1) % 2 ^ p * 2 ^ (30 - p)), by omega, by go_num, hO1.congr (cat_upd r k _), fun i hi => by
              by_cases e : i = k
              · rw [e, upd_same]
                show _ = ext a n (q + k) / 2 ^ p + ext a n (q + (k + 1)) % 2 ^ p * 2 ^ (30 - p)
                rw [ext_lt a (by omega), ext_lt a (by omega), Nat.add_assoc]
              · rw [upd_other _ _ e]; exact HV.out i (by omega), hb1⟩
          case measure => simp [intOf]; omega
        · obtain ⟨s0, s1, _, _, _⟩ := shr_part dx dx hp
          have s6 : (2 : Int) ^ (30 - p) ≤ 2 ^ 30 := two_le (by omega)
          go_wp2_with (at_builtin; refine wpList_app rfl _ _ rfl w.heap.size _ k r rfl (hO.stays (bel_alloc _ _)) _ 1 1 (fun _ => (a (q + k) / 2 ^ p)) rfl (row1 _ _ rfl) (by omega) (by have := hbw.size; simp; omega) ?_; intro v' w1 hO1 hg1)
          have hb1 : Below w.heap.size w w1 := (hbw.alloc hbw.size _).grown hg1 (by have := hbw.size; simp; omega) (own_ge hO)
          go_roundw
          case rel => exact ⟨k + 1, upd r k (a (q + k) / 2 ^ p), by omega, by go_num, hO1.congr (cat_upd r k _), fun i hi => by
              by_cases e : i = k
              · rw [e, upd_same, low_last (s := fun j => ext a n (q + j)) (ext_ge a (by omega)), ext_lt a (by omega)]
              · rw [upd_other r _ e]; exact HV.out i (by omega), hb1⟩
          case measure => simp [intOf]; omega
      · obtain rfl : k = N := by omega
        have DS : Dig (fun j => ext a n (q + j)) (k + 1) := fun i hi => ext_dig da (q + k + 1) (q + i) (by omega)
        have D2 : Dig r k := (low_dig hu HU.out DS).congr fun i hi => (HV.out i hi).symm
        have HD2 : Hid (Dig r k) := D2
        clear D2 DS
        go_wp2_with fail
        refine (rtrim_ans hO HD2.out hbw).mono ?_
        rintro e w3 ⟨v', rfl, hA, rfl⟩
        go_wp2
        go_ret
        refine ⟨_, rfl, ?_⟩
        rw [val_congr HV.out, low_eq (s := fun j => ext a n (q + j)) hu HU.out (ext_ge a (by omega))] at hA
        have e3 := val_drop a (show q ≤ n by omega) da
        rw [← e3, show n - q = k by omega]
        rw [show val (fun j => ext a n (q + j)) k = val (fun i => a (q + i)) k from val_congr fun i hi => ext_lt a (by omega)] at hA
        exact hA
theorem rshr_any (ao : Option Addr) (n ca k : Nat) (a : Nat → Int) (w : World) (ha : Row w ao n ca a) (da : Dig a n) (hn : n ≤ 100000) (hk : k ≤ 4000000) :
    Calls Tryd.prog 67 #[.slice ao n ca, .int .i64 k] w fun e w' => ∃ v, e = .returned v ∧ Ans w w' (val a n / 2 ^ k) v := by
  refine (rshr_qp ao n ca (k / 30) (k % 30) a w ha da hn (by omega) k (by omega) (by omega)).mono ?_
  rintro e w' ⟨v, he, h⟩
  refine ⟨v, he, ?_⟩
  rw [two_split k, ← Int.ediv_ediv_of_nonneg (Int.le_of_lt (P_pos _))]
  exact h
end Go.Proofs.YtheiinclgfgneaaDoor

/-
  plumblaw2's Keep: lists of answers that are kept, in memory: what it is (Kp), Add, by its contract.
-/
namespace Go.Proofs.YtheiinclgfgneaaDoor
open Go Go.RowKit Go.Proofs.YtheiinclgfgneaaDoor.M
set_option linter.unusedSimpArgs false
set_option linter.unusedVariables false

/-- One put in another's place. -/
def updV {α : Type} (v : Nat → α) (i : Nat) (x : α) : Nat → α := fun j => if j = i then x else v j
theorem updV_same {α : Type} (v : Nat → α) (i : Nat) (x : α) : updV v i x i = x := by simp [updV]
theorem updV_other {α : Type} (v : Nat → α) {i j : Nat} (x : α) (h : j ≠ i) : updV v i x j = v j := by simp [updV, h]
/-- The first m of v. -/
def valsV (v : Nat → Value) (m : Nat) : List Value := (List.range m).map v
theorem valsV_length (v : Nat → Value) (m : Nat) : (valsV v m).length = m := by simp [valsV]
theorem valsV_get (v : Nat → Value) {m i : Nat} (h : i < m) : (valsV v m)[i]? = some (v i) := by simp [valsV, h]
theorem valsV_snoc (v : Nat → Value) (m : Nat) (x : Value) : valsV v m ++ [x] = valsV (updV v m x) (m + 1) := by
  apply List.ext_getElem?
  intro i
  by_cases h : i < m
  · rw [List.getElem?_append_left (by rw [valsV_length]; exact h), valsV_get v h, valsV_get _ (by omega), updV_other v x (by omega)]
  · by_cases e : i = m
    · subst e; rw [List.getElem?_append_right (by rw [valsV_length]; omega), valsV_length, valsV_get _ (by omega), updV_same]; simp
    · rw [List.getElem?_eq_none (by simp [valsV_length]; omega), List.getElem?_eq_none (by rw [valsV_length]; omega)]
/-- A list of slices that is the call's own. -/
def OutV (B : Nat) (w : World) (x : Value) (m : Nat) (v : Nat → Value) : Prop := w.ownsRow B 38 1 x m (valsV v m)
theorem OutV.shape {B : Nat} {w : World} {x : Value} {m : Nat} {v : Nat → Value} (h : OutV B w x m v) : ∃ xo xc, x = .slice xo m xc ∧ m ≤ xc ∧ xc ≤ 9223372036854775807 ∧ (0 < m → ∃ g, xo = some ⟨g, 0, none⟩) := by
  rcases h.2 with ⟨rfl, rfl⟩ | ⟨g, cap, cur, rfl, hb, hg, hn, hm, _⟩
  · exact ⟨none, 0, rfl, Nat.le_refl _, by decide, fun h => by omega⟩
  · exact ⟨_, cap, rfl, hn, by unfold maxLen at hm; exact hm, fun _ => ⟨g, rfl⟩⟩
theorem OutV.of_block {B : Nat} {w w' : World} {x : Value} {m : Nat} {v : Nat → Value} (h : OutV B w x m v) (hb : ∀ g, x.ownBlock = some g → w'.heap[g]? = w.heap[g]?) : OutV B w' x m v := by
  refine ⟨h.1, ?_⟩
  rcases h.2 with hn | ⟨g, cap, cur, rfl, hbb, hg, rest⟩
  · exact .inl hn
  · exact .inr ⟨g, cap, cur, rfl, hbb, (hb g rfl).trans hg, rest⟩
theorem Out.of_block {B : Nat} {w w' : World} {x : Value} {n : Nat} {d : Nat → Int} (h : Out B w x n d) (hb : ∀ g, x.ownBlock = some g → w'.heap[g]? = w.heap[g]?) : Out B w' x n d := by
  refine ⟨h.1, ?_⟩
  rcases h.2 with hn | ⟨g, cap, cur, rfl, hbb, hg, rest⟩
  · exact .inl hn
  · exact .inr ⟨g, cap, cur, rfl, hbb, (hb g rfl).trans hg, rest⟩
theorem Out.typed {B : Nat} {w : World} {x : Value} {n : Nat} {d : Nat → Int} (h : Out B w x n d) {g : Nat} (hg : x.ownBlock = some g) : ∃ cur z, w.heap[g]? = some (.cells cur 3 z) := by
  rcases h.2 with ⟨rfl, _⟩ | ⟨g', cap, cur, rfl, hbb, hg', rest⟩
  · simp [Value.ownBlock] at hg
  · simp only [Value.ownBlock, Option.some.injEq] at hg; subst hg; exact ⟨cur, _, hg'⟩
theorem OutV.typed {B : Nat} {w : World} {x : Value} {n : Nat} {v : Nat → Value} (h : OutV B w x n v) {g : Nat} (hg : x.ownBlock = some g) : ∃ cur z, w.heap[g]? = some (.cells cur 38 z) := by
  rcases h.2 with ⟨rfl, _⟩ | ⟨g', cap, cur, rfl, hbb, hg', rest⟩
  · simp [Value.ownBlock] at hg
  · simp only [Value.ownBlock, Option.some.injEq] at hg; subst hg; exact ⟨cur, _, hg'⟩
theorem OutV.ge {B : Nat} {w : World} {x : Value} {n : Nat} {v : Nat → Value} (h : OutV B w x n v) {g : Nat} (hg : x.ownBlock = some g) : B ≤ g ∧ g < w.heap.size := by
  rcases h.2 with ⟨rfl, _⟩ | ⟨g', cap, cur, rfl, hbb, hg', rest⟩
  · simp [Value.ownBlock] at hg
  · simp only [Value.ownBlock, Option.some.injEq] at hg; subst hg; exact ⟨hbb, (Array.getElem?_eq_some_iff.1 hg').1⟩
theorem Out.ge {B : Nat} {w : World} {x : Value} {n : Nat} {v : Nat → Int} (h : Out B w x n v) {g : Nat} (hg : x.ownBlock = some g) : B ≤ g ∧ g < w.heap.size := by
  rcases h.2 with ⟨rfl, _⟩ | ⟨g', cap, cur, rfl, hbb, hg', rest⟩
  · simp [Value.ownBlock] at hg
  · simp only [Value.ownBlock, Option.some.injEq] at hg; subst hg; exact ⟨hbb, (Array.getElem?_eq_some_iff.1 hg').1⟩
theorem info_slice : (Tryd.prog.info? 38).map (fun i => (i.zero, i.size, i.bytes)) = some (some (.slice none 0 0), 1, 24) := by kernel_rfl
theorem cell_one (w : World) (x : Value) (t : TypeId) {g : Nat} (hg : g = w.heap.size) : (w.alloc (.cells #[x] t)).cell? ⟨g, 0, none⟩ = some x := by
  subst hg
  rw [cell_of_row _ _ 0 _ _ _ (heap_alloc_new w _)]; rfl
theorem grown_out {B : Nat} {w w' : World} {row : Option Nat} {x : Value} {m : Nat} {v : Nat → Value} (h : OutV B w x m v) (hg : w.grownBy w' row) (hne : ∀ g, x.ownBlock = some g → row ≠ some g) : OutV B w' x m v :=
  h.of_block fun g hgx => hg.block g (h.ge hgx).2 fun e => hne g hgx e.symm
theorem OutV.alloc {B : Nat} {w : World} {x : Value} {m : Nat} {v : Nat → Value} (h : OutV B w x m v) (o : Obj) : OutV B (w.alloc o) x m v := h.of_block fun g hg => Below.heap_alloc _ _ _ (h.ge hg).2
/-- 'append' of ints, as it runs, and where the new slice lies. -/
theorem run_app {w : World} (ty : TypeId) (B : Nat) (v : Value) (n : Nat) (d : Nat → Int) (hO : Out B w v n d) (bo : Option Addr) (m cb : Nat) (e : Nat → Int) (hR : Row w bo m cb e) (hlen : n + m ≤ 1000000) (hB : B ≤ w.heap.size) :
    ∃ v' w', (Builtin.append_ #[38, 38] ty #[v, .slice bo m cb]).run Tryd.prog w = .ok v' w' ∧ Out B w' v' (n + m) (cat d n e) ∧ w.grownBy w' v.ownBlock ∧ (v'.ownBlock = v.ownBlock ∨ v'.ownBlock = some w.heap.size) := by
  obtain ⟨i0, hi, hz0, hz1, hz2⟩ := info_parts info_int
  cases bo with
  | none =>
    have hc := hR.nl rfl
    have hl := hR.le
    subst hc
    obtain rfl : m = 0 := by omega
    have hr := run_append_owned_none (P := Tryd.prog) w B 38 ty 3 i0 1 Tryd.underlying38 hi v n (vals d n) hO
    exact ⟨v, w, hr, hO.congr fun i hi => by simp [cat]; omega, ⟨rfl, rfl, rfl, Nat.le_refl _, fun _ _ _ => rfl⟩, .inl rfl⟩
  | some ad =>
    obtain ⟨v', w', hr, h2, h3, _, h5⟩ := run_append_own_at (P := Tryd.prog) w B 38 ty 3 i0 (.int .i64 0) 1 8 Tryd.underlying38 hi hz0 hz1 hz2 rfl (by decide) v n (vals d n) hO ad m cb (vals e m) (by rw [vals_length]; omega)
      (fun j u hu => by
        have hj : j < m := by have := (List.getElem?_eq_some_iff.1 hu).1; rwa [vals_length] at this
        obtain ⟨b, off, hb, _, hc⟩ := hR.spot (by omega)
        obtain rfl := Option.some.inj hb
        rw [vals_get e hj] at hu
        rw [add_none, hc j hj]; exact hu) (vals_one e m) (by unfold maxLen; omega) (by omega) hB
    rw [vals_cat] at h2
    exact ⟨v', w', hr, h2, h3, h5⟩
theorem wp_app {w : World} {o : Oper} {a : Act} {K : Act → World → Prop} {Q : Exit → Act → World → Prop} (s x : Operand) (ho : o.op = .call { callee := .builtin .append, args := #[s, x], argTypes := #[38, 38] })
    (B : Nat) (v : Value) (n : Nat) (d : Nat → Int) (hs : a.eval s = v) (hO : Out B w v n d) (bo : Option Addr) (m cb : Nat) (e : Nat → Int) (hx : a.eval x = .slice bo m cb) (hR : Row w bo m cb e) (hlen : n + m ≤ 1000000) (hB : B ≤ w.heap.size)
    (h : ∀ v' w', Out B w' v' (n + m) (cat d n e) → w.grownBy w' v.ownBlock → (v'.ownBlock = v.ownBlock ∨ v'.ownBlock = some w.heap.size) → K (a.put o.dst v') w') : o.wp Tryd.prog a w K Q := by
  obtain ⟨v', w', hr, h2, h3, h4⟩ := run_app o.type B v n d hO bo m cb e hR hlen hB
  unfold Oper.wp execOp
  simp only [ho, resolve, invoke, builtin, Sem.run_bind, Sem.run_pure, Result.andThen_ok, List.map_toArray, List.map_cons, List.map_nil, hs, hx, hr]
  exact h v' w' h2 h3 h4
theorem step_app {w : World} {ops : Array Oper} {o : Oper} {a : Act} {K : Act → World → Prop} {Q : Exit → Act → World → Prop} {E : Prop} (hgd : o.guard = none) (s x : Operand) (ho : o.op = .call { callee := .builtin .append, args := #[s, x], argTypes := #[38, 38] })
    (B : Nat) (v : Value) (n : Nat) (d : Nat → Int) (hs : a.eval s = v) (hO : Out B w v n d) (bo : Option Addr) (m cb : Nat) (e : Nat → Int) (hx : a.eval x = .slice bo m cb) (hR : Row w bo m cb e) (hlen : n + m ≤ 1000000) (hB : B ≤ w.heap.size)
    (h : ∀ v' w', Out B w' v' (n + m) (cat d n e) → w.grownBy w' v.ownBlock → (v'.ownBlock = v.ownBlock ∨ v'.ownBlock = some w.heap.size) → K (a.put o.dst v') w') : if Region.wanted o (yielded ops a.tmps) = true then Oper.wp Tryd.prog o a w K Q else E := by
  rw [if_pos (show Region.wanted o (yielded ops a.tmps) = true by simp [Region.wanted, hgd])]
  exact wp_app s x ho B v n d hs hO bo m cb e hx hR hlen hB h
end Go.Proofs.YtheiinclgfgneaaDoor
