/-
  Parts of the proof, one behind another.
-/
import Derived.Test.YtheiinclgfgneaaDoorPart23
import Derived.Test.YtheiinclgfgneaaDoorPart22
/-
  Package eft: the steps on floats, by their contracts: what they tell is told by patterns.
-/
namespace Go.Proofs.YtheiinclgfgneaaDoor
open Go Go.RowKit Go.Proofs.YtheiinclgfgneaaDoor.M Ieee
set_option linter.unusedSimpArgs false
set_option linter.unusedVariables false

/-- The patterns of TwoSum's, FastTwoSum's, Split's, TwoProd's second answers. -/
def sV (p q : Int) : Int := fsum (fsum p q) (neg p)
def sL (p q : Int) : Int := fsum (fsum p (neg (fsum (fsum p q) (neg (sV p q))))) (fsum q (neg (sV p q)))
def fL (p q : Int) : Int := fsum q (neg (fsum (fsum p q) (neg p)))
def cC (p : Int) : Int := fprod 4728779608772575232 p
def spH (p : Int) : Int := fsum (cC p) (neg (fsum (cC p) (neg p)))
def spL (p : Int) : Int := fsum p (neg (spH p))
def pT1 (a b : Int) : Int := fsum (fprod a b) (neg (fprod (spH a) (spH b)))
def pT2 (a b : Int) : Int := fsum (pT1 a b) (neg (fprod (spL a) (spH b)))
def pT3 (a b : Int) : Int := fsum (pT2 a b) (neg (fprod (spH a) (spL b)))
def prL (a b : Int) : Int := fsum (fprod (spL a) (spL b)) (neg (pT3 a b))
theorem stay_b {w w' : World} (h : w' = w ∨ w' = w.drew) : Below w.heap.size w w' := by
  rcases h with rfl | rfl
  · exact bel_refl _
  · exact (bel_refl _).drew
theorem cv64 (x : Nat) (w : World) : (convert 32 32 (.float .f64 x)).run Tryd.prog w = .ok (.float .f64 x) w := run_convert_float_float w _ _ _ _ _ _ (by rw [Tryd.underlying32]; rfl) Tryd.underlying32 rfl
set_option maxRecDepth 100000 in
set_option maxHeartbeats 1000000 in
theorem esum_any {p q : Int} {x y : Nat} (hx : FW p x) (hy : FW q y) (w : World) :
    Calls Tryd.prog 21 #[.float .f64 x, .float .f64 y] w fun e w' => ∃ z u, e = .returned (.tuple #[.float .f64 z, .float .f64 u]) ∧ FW (fsum p q) z ∧ FW (sL p q) u ∧ Below w.heap.size w w' := by
  obtain ⟨z1, w1, e1, f1, d1⟩ := run_fsum (P := Tryd.prog) 32 hx hy w
  obtain ⟨z2, w2, e2, f2, d2⟩ := run_fdiff (P := Tryd.prog) 32 f1 hx w1
  obtain ⟨z3, w3, e3, f3, d3⟩ := run_fdiff (P := Tryd.prog) 32 f1 f2 w2
  obtain ⟨z4, w4, e4, f4, d4⟩ := run_fdiff (P := Tryd.prog) 32 hx f3 w3
  obtain ⟨z5, w5, e5, f5, d5⟩ := run_fdiff (P := Tryd.prog) 32 hy f2 w4
  obtain ⟨z6, w6, e6, f6, d6⟩ := run_fsum (P := Tryd.prog) 32 f4 f5 w5
  have hb : Hid (Below w.heap.size w w6) := bel_trans (bel_trans (bel_trans (bel_trans (bel_trans (stay_b d1) (stay_b d2)) (stay_b d3)) (stay_b d4)) (stay_b d5)) (stay_b d6)
  have H1 : Hid (FW (fsum p q) z1) := f1
  have H6 : Hid (FW (sL p q) z6) := f6
  clear d1 d2 d3 d4 d5 d6 f1 f2 f3 f4 f5 f6 hx hy
  go_enter Tryd.func21, Tryd.ntmps21
  go_wp2
  refine bodyPost_ret (v := .tuple #[.float .f64 z1, .float .f64 z6]) (by simp [results, Tryd.results21, go_sem]) rfl ⟨z1, z6, rfl, H1.out, H6.out, hb.out⟩
set_option maxRecDepth 100000 in
set_option maxHeartbeats 1000000 in
theorem efast_any {p q : Int} {x y : Nat} (hx : FW p x) (hy : FW q y) (w : World) :
    Calls Tryd.prog 33 #[.float .f64 x, .float .f64 y] w fun e w' => ∃ z u, e = .returned (.tuple #[.float .f64 z, .float .f64 u]) ∧ FW (fsum p q) z ∧ FW (fL p q) u ∧ Below w.heap.size w w' := by
  obtain ⟨z1, w1, e1, f1, d1⟩ := run_fsum (P := Tryd.prog) 32 hx hy w
  obtain ⟨z2, w2, e2, f2, d2⟩ := run_fdiff (P := Tryd.prog) 32 f1 hx w1
  obtain ⟨z3, w3, e3, f3, d3⟩ := run_fdiff (P := Tryd.prog) 32 hy f2 w2
  have hb : Hid (Below w.heap.size w w3) := bel_trans (bel_trans (stay_b d1) (stay_b d2)) (stay_b d3)
  have H1 : Hid (FW (fsum p q) z1) := f1
  have H6 : Hid (FW (fL p q) z3) := f3
  clear d1 d2 d3 f1 f2 f3 hx hy
  go_enter Tryd.func33, Tryd.ntmps33
  go_wp2
  refine bodyPost_ret (v := .tuple #[.float .f64 z1, .float .f64 z3]) (by simp [results, Tryd.results33, go_sem]) rfl ⟨z1, z3, rfl, H1.out, H6.out, hb.out⟩
theorem spl_rng : rng 4728779608772575232 := by unfold rng; decide
theorem fw_split : FW 4728779608772575232 4728779608772575232 := .inl ⟨by decide, spl_rng, by decide⟩
set_option maxRecDepth 100000 in
set_option maxHeartbeats 1000000 in
theorem esplit_any {p : Int} {x : Nat} (hx : FW p x) (w : World) :
    Calls Tryd.prog 37 #[.float .f64 x] w fun e w' => ∃ z u, e = .returned (.tuple #[.float .f64 z, .float .f64 u]) ∧ FW (spH p) z ∧ FW (spL p) u ∧ Below w.heap.size w w' := by
  obtain ⟨z1, w1, e1, f1, d1⟩ := run_fprod (P := Tryd.prog) 32 fw_split hx w
  obtain ⟨z2, w2, e2, f2, d2⟩ := run_fdiff (P := Tryd.prog) 32 f1 hx w1
  obtain ⟨z3, w3, e3, f3, d3⟩ := run_fdiff (P := Tryd.prog) 32 f1 f2 w2
  obtain ⟨z4, w4, e4, f4, d4⟩ := run_fdiff (P := Tryd.prog) 32 hx f3 w3
  have hcv := cv64
  have hb : Hid (Below w.heap.size w w4) := bel_trans (bel_trans (bel_trans (stay_b d1) (stay_b d2)) (stay_b d3)) (stay_b d4)
  have H1 : Hid (FW (spH p) z3) := f3
  have H6 : Hid (FW (spL p) z4) := f4
  clear d1 d2 d3 d4 f1 f2 f3 f4 hx
  go_enter Tryd.func37, Tryd.ntmps37
  go_wp2
  refine bodyPost_ret (v := .tuple #[.float .f64 z3, .float .f64 z4]) (by simp [results, Tryd.results37, go_sem]) rfl ⟨z3, z4, rfl, H1.out, H6.out, hb.out⟩
set_option maxRecDepth 100000 in
set_option maxHeartbeats 2000000 in
theorem eprod_any {p q : Int} {x y : Nat} (hx : FW p x) (hy : FW q y) (w : World) :
    Calls Tryd.prog 23 #[.float .f64 x, .float .f64 y] w fun e w' => ∃ z u, e = .returned (.tuple #[.float .f64 z, .float .f64 u]) ∧ FW (fprod p q) z ∧ FW (prL p q) u ∧ Below w.heap.size w w' := by
  obtain ⟨z1, w1, e1, f1, d1⟩ := run_fprod (P := Tryd.prog) 32 hx hy w
  have hcv := cv64
  have Hx : Hid (FW p x) := hx
  have Hy : Hid (FW q y) := hy
  have F1 : Hid (FW (fprod p q) z1) := f1
  have B1 : Hid (Below w.heap.size w w1) := stay_b d1
  clear hx hy f1 d1
  go_enter Tryd.func23, Tryd.ntmps23
  go_wp2_with fail
  refine (esplit_any Hx.out _).mono ?_
  rintro _ w2 ⟨P, Q, rfl, gP, gQ, b2⟩
  have GP : Hid (FW (spH p) P) := gP
  have GQ : Hid (FW (spL p) Q) := gQ
  have B2 : Hid (Below w.heap.size w w2) := bel_trans B1.out b2
  clear gP gQ b2 B1 e1
  go_wp2_with fail
  refine (esplit_any Hy.out _).mono ?_
  rintro _ w3 ⟨R, S, rfl, gR, gS, b3⟩
  have hb3 := bel_trans B2.out b3
  obtain ⟨z2, w4, e2, f2, d2⟩ := run_fprod (P := Tryd.prog) 32 GQ.out gS w3
  obtain ⟨z3, w5, e3, f3, d3⟩ := run_fprod (P := Tryd.prog) 32 GP.out gR w4
  obtain ⟨z4, w6, e4, f4, d4⟩ := run_fdiff (P := Tryd.prog) 32 F1.out f3 w5
  obtain ⟨z5, w7, e5, f5, d5⟩ := run_fprod (P := Tryd.prog) 32 GQ.out gR w6
  obtain ⟨z6, w8, e6, f6, d6⟩ := run_fdiff (P := Tryd.prog) 32 f4 f5 w7
  obtain ⟨z7, w9, e7, f7, d7⟩ := run_fprod (P := Tryd.prog) 32 GP.out gS w8
  obtain ⟨z8, wa, e8, f8, d8⟩ := run_fdiff (P := Tryd.prog) 32 f6 f7 w9
  obtain ⟨z9, wb, e9, f9, d9⟩ := run_fdiff (P := Tryd.prog) 32 f2 f8 wa
  have hb : Hid (Below w.heap.size w wb) := bel_trans (bel_trans (bel_trans (bel_trans (bel_trans (bel_trans (bel_trans (bel_trans hb3 (stay_b d2)) (stay_b d3)) (stay_b d4)) (stay_b d5)) (stay_b d6)) (stay_b d7)) (stay_b d8)) (stay_b d9)
  have H9 : Hid (FW (prL p q) z9) := f9
  clear d2 d3 d4 d5 d6 d7 d8 d9 f2 f3 f4 f5 f6 f7 f8 f9 gR gS b3 hb3 B2 Hx Hy GP GQ
  go_wp2
  refine bodyPost_ret (v := .tuple #[.float .f64 z1, .float .f64 z9]) (by simp [results, Tryd.results23, go_sem]) rfl ⟨z1, z9, rfl, F1.out, H9.out, hb.out⟩
end Go.Proofs.YtheiinclgfgneaaDoor

/-
  Mathematics of whole numbers: a float's whole units, ints as floats, the order of floats in the model.
-/
namespace Go.Proofs.YtheiinclgfgneaaDoor.M
open Go Ieee
set_option linter.unusedSimpArgs false
set_option linter.unusedVariables false

theorem left_u {A q : Int} {u v : Nat} {l k : Int} (h : Left A u q l) (g : Left A v q k) : ¬ u < v := fun c => by
  have h1 := h.hi
  have h2 := g.lo
  have hq : 0 < q := by have := h.lo; omega
  have h3 : ((u : Int) + 1) * q ≤ (v : Int) * q := Int.mul_le_mul_of_nonneg_right (by omega) (by omega)
  rw [Int.add_mul, Int.one_mul] at h3
  omega
theorem Left.unique {A q : Int} {u v : Nat} {l k : Int} (h : Left A u q l) (g : Left A v q k) : u = v ∧ l = k := by
  have e : u = v := by
    have h1 := left_u h g
    have h2 := left_u g h
    omega
  subst e
  refine ⟨rfl, ?_⟩
  have lo := h.lo
  have hi := h.hi
  obtain ⟨T, hT⟩ : ∃ T, (u : Int) * q = T := ⟨_, rfl⟩
  rw [hT] at lo hi
  have a0 := h.l0
  have a1 := h.l1
  have a2 := h.l2
  have a3 := h.l3
  have b0 := g.l0
  have b1 := g.l1
  have b2 := g.l2
  have b3 := g.l3
  rw [hT] at a0 a1 a2 a3 b0 b1 b2 b3
  by_cases c0 : A = T
  · rw [a0.2 c0, b0.2 c0]
  · by_cases c1 : 2 * A < 2 * T + q
    · rw [a1.2 ⟨by omega, c1⟩, b1.2 ⟨by omega, c1⟩]
    · by_cases c2 : 2 * A = 2 * T + q
      · rw [a2.2 c2, b2.2 c2]
      · rw [a3.2 (by omega), b3.2 (by omega)]
theorem left_kinds {A q : Int} {u : Nat} {l : Int} (h : Left A u q l) : l = 0 ∨ l = 1 ∨ l = 2 ∨ l = 3 := by
  have lo := h.lo
  have a0 := h.l0
  have a1 := h.l1
  have a2 := h.l2
  have a3 := h.l3
  generalize (u : Int) * q = T at *
  by_cases c0 : A = T
  · exact .inl (a0.2 c0)
  · by_cases c1 : 2 * A < 2 * T + q
    · exact .inr (.inl (a1.2 ⟨by omega, c1⟩))
    · by_cases c2 : 2 * A = 2 * T + q
      · exact .inr (.inr (.inl (a2.2 c2)))
      · exact .inr (.inr (.inr (a3.2 (by omega))))
/-- What is whole has nothing left. -/
theorem left_whole {q : Int} (k : Nat) (hq : 0 < q) : Left ((k : Int) * q) k q 0 := by
  refine ⟨by omega, by omega, by simp, ?_, ?_, ?_⟩ <;> constructor <;> intro h <;> omega
/-- The units, raised or not. -/
def upU (way : Int) (ng : Bool) (u : Nat) (left : Int) : Nat := u + (if rUp way ng (decide (u % 2 = 1)) left then 1 else 0)
/-- Is there an int? -/
def tiB (ng : Bool) (U : Nat) : Bool := if ng then decide (U ≤ 9223372036854775808) else decide (U < 9223372036854775808)
def tiN (ng : Bool) (U : Nat) : Int := if tiB ng U then sg ng (U : Int) else 0
theorem tiB_big {ng : Bool} {U : Nat} (h : 9223372036854775808 < U) : tiB ng U = false := by
  unfold tiB
  cases ng <;> simp <;> omega
theorem rU_big {mag : Nat} {exp : Int} (h0 : mag ≠ 0) (hm : mag < 9007199254740992) (h : 64 < exp + (Lib.bitLen mag : Int)) : 18446744073709551616 ≤ rU mag (0 - exp) := by
  obtain ⟨b1, b2, b3, b4⟩ := M.bitLen_spec mag (Nat.lt_trans hm (by decide)) h0
  have hb : Lib.bitLen mag ≤ 53 := by
    have e : (2 : Nat) ^ 53 = 9007199254740992 := by decide
    have := (Nat.pow_lt_pow_iff_right (by decide : 1 < 2)).1 (Nat.lt_of_le_of_lt b1 (show mag < 2 ^ 53 by omega))
    omega
  unfold rU
  rw [if_pos (by omega)]
  have e64 : (2 : Nat) ^ 64 = 18446744073709551616 := by decide
  have h1 : 2 ^ (Lib.bitLen mag - 1) * 2 ^ (-(0 - exp)).toNat ≤ mag * 2 ^ (-(0 - exp)).toNat := Nat.mul_le_mul_right _ b1
  rw [← Nat.pow_add] at h1
  have h2 : 2 ^ 64 ≤ 2 ^ (Lib.bitLen mag - 1 + (-(0 - exp)).toNat) := Nat.pow_le_pow_right (by decide) (by omega)
  omega
theorem rU_fit {mag : Nat} {exp : Int} (hm : mag < 9007199254740992) (h : exp + (Lib.bitLen mag : Int) ≤ 64) : rU mag (0 - exp) < 18446744073709551615 := by
  unfold rU
  by_cases h0 : mag = 0
  · subst h0; split <;> simp
  obtain ⟨b1, b2, b3, b4⟩ := M.bitLen_spec mag (Nat.lt_trans hm (by decide)) h0
  have e64 : (2 : Nat) ^ 64 = 18446744073709551616 := by decide
  by_cases hs : 0 - exp ≤ 0
  · rw [if_pos hs]
    by_cases hz : exp = 0
    · subst hz; simp; omega
    · obtain ⟨k, hk⟩ : ∃ k, (-(0 - exp)).toNat = k + 1 := ⟨exp.toNat - 1, by omega⟩
      rw [hk]
      have h1 : mag * 2 ^ (k + 1) < 2 ^ Lib.bitLen mag * 2 ^ (k + 1) := Nat.mul_lt_mul_of_pos_right b2 (Nat.two_pow_pos _)
      rw [← Nat.pow_add] at h1
      have h2 : 2 ^ (Lib.bitLen mag + (k + 1)) ≤ 2 ^ 64 := Nat.pow_le_pow_right (by decide) (by omega)
      have h3 : mag * 2 ^ (k + 1) = 2 * (mag * 2 ^ k) := by rw [Nat.pow_succ, Nat.mul_comm (2 ^ k) 2, ← Nat.mul_assoc, Nat.mul_comm mag 2, Nat.mul_assoc]
      omega
  · rw [if_neg hs]
    have := Nat.div_le_self mag (2 ^ (0 - exp).toNat)
    omega
theorem cmp_mul {a b q : Int} (hq : 0 < q) : compare (a * q) (b * q) = compare a b := by
  have h1 : a * q < b * q ↔ a < b := ⟨fun h => Int.lt_of_mul_lt_mul_right h (by omega), fun h => Int.mul_lt_mul_of_pos_right h hq⟩
  have h2 : a * q = b * q ↔ a = b := ⟨fun h => Int.eq_of_mul_eq_mul_right (by omega) h, fun h => by rw [h]⟩
  show compareOfLessAndEq (a * q) (b * q) = compareOfLessAndEq a b
  unfold compareOfLessAndEq
  simp only [h1, h2]
theorem cmp_le {a b : Int} : (some (compare a b) == some Ordering.lt || some (compare a b) == some Ordering.eq) = decide (a ≤ b) := by
  show (some (compareOfLessAndEq a b) == some Ordering.lt || some (compareOfLessAndEq a b) == some Ordering.eq) = _
  unfold compareOfLessAndEq
  by_cases h1 : a < b
  · rw [if_pos h1, decide_eq_true (by omega)]; rfl
  · rw [if_neg h1]
    by_cases h2 : a = b
    · rw [if_pos h2, decide_eq_true (by omega)]; rfl
    · rw [if_neg h2, decide_eq_false (by omega)]; rfl
theorem cmp_ge {a b : Int} : (some (compare a b) == some Ordering.gt || some (compare a b) == some Ordering.eq) = decide (b ≤ a) := by
  show (some (compareOfLessAndEq a b) == some Ordering.gt || some (compareOfLessAndEq a b) == some Ordering.eq) = _
  unfold compareOfLessAndEq
  by_cases h1 : a < b
  · rw [if_pos h1, decide_eq_false (by omega)]; rfl
  · rw [if_neg h1]
    by_cases h2 : a = b
    · rw [if_pos h2, decide_eq_true (by omega)]; rfl
    · rw [if_neg h2, decide_eq_true (by omega)]; rfl
theorem cmp_eq {a b : Int} : (some (compare a b) == some Ordering.eq) = decide (a = b) := by
  show (some (compareOfLessAndEq a b) == some Ordering.eq) = _
  unfold compareOfLessAndEq
  by_cases h1 : a < b
  · rw [if_pos h1, decide_eq_false (by omega)]; rfl
  · rw [if_neg h1]
    by_cases h2 : a = b
    · rw [if_pos h2, decide_eq_true (by omega)]; rfl
    · rw [if_neg h2, decide_eq_false (by omega)]; rfl
end Go.Proofs.YtheiinclgfgneaaDoor.M
namespace Go.Proofs.YtheiinclgfgneaaDoor
open Go Go.RowKit Go.Proofs.YtheiinclgfgneaaDoor.M Ieee
set_option linter.unusedSimpArgs false
set_option linter.unusedVariables false
theorem order_wd {p q : Int} (hp : rng p) (hq : rng q) (pp : pok p = true) (pq : pok q = true) : Ieee.double.order (wd p) (wd q) = some (compare (patV p) (patV q)) := by
  obtain ⟨m, u, r1, v1⟩ := read_wd hp pp
  obtain ⟨n, v, r2, v2⟩ := read_wd hq pq
  unfold Ieee.Format.order
  rw [r1, r2]
  show some (compare (signed (decide (p < 0)) m (-1074 + (u : Int) - min (-1074 + (u : Int)) (-1074 + (v : Int))).toNat) (signed (decide (q < 0)) n (-1074 + (v : Int) - min (-1074 + (u : Int)) (-1074 + (v : Int))).toNat)) = _
  have hb : -4194304 ≤ min (-1074 + (u : Int)) (-1074 + (v : Int)) := by omega
  have s1 := signed_pw (decide (p < 0)) m (-1074 + (u : Int) - min (-1074 + (u : Int)) (-1074 + (v : Int))).toNat (i := -1074 + (u : Int)) (base := min (-1074 + (u : Int)) (-1074 + (v : Int))) (by omega) hb
  have s2 := signed_pw (decide (q < 0)) n (-1074 + (v : Int) - min (-1074 + (u : Int)) (-1074 + (v : Int))).toNat (i := -1074 + (v : Int)) (base := min (-1074 + (u : Int)) (-1074 + (v : Int))) (by omega) hb
  rw [v1, v2, ← s1, ← s2, cmp_mul (pw_pos _)]
/-- An int that is a float, as Go's floats. -/
theorem int_wd {n : Int} {r : Nat} (h : (n.natAbs : Int) * pw 0 = vS r) (hr : (r : Int) < 9218868437227405312) : FloatKind.f64.nearest n = wd (patS (decide (n < 0)) r) := by
  by_cases h0 : n = 0
  · subst h0
    have hz : vS r = vS 0 := by rw [← h, vS_zero]; simp
    have : r = 0 := by
      rcases Nat.eq_zero_or_pos r with h1 | h1
      · exact h1
      · have := vS_lt h1; omega
    subst this
    rfl
  · have hn : n.natAbs ≠ 0 := by omega
    obtain ⟨r0, left, hR, e⟩ := nearest_rung (decide (n < 0)) hn (place := 0) (by decide)
    have hR2 : Rung (vS r) r 0 := by
      have h1 := vS_lt (show r < r + 1 by omega)
      refine ⟨by omega, by omega, by simp, ?_, ?_, ?_⟩ <;> constructor <;> intro h <;> omega
    rw [h] at hR
    obtain ⟨e1, e2⟩ := hR.unique hR2
    subst e1 e2
    have e3 : rTo 0 (decide (n < 0)) r0 0 = (r0 : Int) := by
      unfold rTo
      rw [if_pos hr, if_neg (fun c => rUp_left c)]
      omega
    rw [e3] at e
    rw [← wd_word (by omega) (by omega), ← e]
    rfl
theorem k_mulS (m k : Nat) (q : Int) : ((m * 2 ^ k : Nat) : Int) * q = (m : Int) * (2 ^ k * q) := by
  rw [Int.natCast_mul, Int.mul_assoc]
  congr 2
theorem small_rung {m : Nat} (h : m < 9007199254740992) : ∃ r : Nat, (m : Int) * pw 0 = vS r ∧ (r : Int) < 9218868437227405312 := by
  by_cases h0 : m = 0
  · exact ⟨0, by rw [h0, vS_zero]; simp, by decide⟩
  obtain ⟨b1, b2, b3, b4⟩ := M.bitLen_spec m (Nat.lt_trans h (by decide)) h0
  have e53 : (2 : Nat) ^ 53 = 9007199254740992 := by decide
  have e52 : (2 : Nat) ^ 52 = 4503599627370496 := by decide
  have hb : Lib.bitLen m ≤ 53 := by
    have := (Nat.pow_lt_pow_iff_right (by decide : 1 < 2)).1 (Nat.lt_of_le_of_lt b1 (show m < 2 ^ 53 by omega))
    omega
  obtain ⟨L, hL⟩ : ∃ L, Lib.bitLen m = L := ⟨_, rfl⟩
  rw [hL] at b1 b2 b3 hb
  obtain ⟨d, hd⟩ : ∃ d, 53 = L + d := ⟨53 - L, by omega⟩
  have n1 : 4503599627370496 ≤ m * 2 ^ d := by
    have := Nat.mul_le_mul_right (2 ^ d) b1
    rw [← Nat.pow_add, show L - 1 + d = 52 by omega, e52] at this
    exact this
  have n2 : m * 2 ^ d < 9007199254740992 := by
    have := Nat.mul_lt_mul_of_pos_right b2 (Nat.two_pow_pos d)
    rw [← Nat.pow_add, ← hd, e53] at this
    exact this
  have hV := V_parts Ieee.double (1074 - d) (m * 2 ^ d) (.inr ⟨by rw [dBin]; exact n1, by rw [dBin]; omega⟩)
  rw [dBin] at hV
  have e : m * 2 ^ d * 2 ^ (1074 - d) = m * 2 ^ 1074 := by
    rw [Nat.mul_assoc, ← Nat.pow_add, show d + (1074 - d) = 1074 by omega]
  rw [e] at hV
  refine ⟨(1074 - d) * 4503599627370496 + m * 2 ^ d, ?_, by omega⟩
  unfold vS
  rw [hV]
  have hp : pw 0 = 2 ^ (0 - (-1074) : Int).toNat * pw (-1074) := pw_sub (by decide) (by decide)
  rw [hp, show (0 - (-1074) : Int).toNat = 1074 by decide]
  exact (k_mulS _ _ _).symm
end Go.Proofs.YtheiinclgfgneaaDoor

/-
  Package eft: told, TwoSum, TwoDiff, Split, math.Abs, by their contracts.
-/
namespace Go.Proofs.YtheiinclgfgneaaDoor
open Go Go.RowKit Go.Proofs.YtheiinclgfgneaaDoor.M Ieee
set_option linter.unusedSimpArgs false
set_option linter.unusedVariables false

theorem FW.rng {p : Int} {x : Nat} (h : FW p x) : M.rng p := by
  rcases h with ⟨_, h, _⟩ | ⟨rfl, _⟩
  · exact h
  · exact nan_rng
theorem neg_sign {p : Int} (hp : M.rng p) (h4 : ¬ cls p = 4) : decide (M.neg p < 0) = !decide (p < 0) ∧ rg (M.neg p) = rg p ∧ ¬ cls (M.neg p) = 4 := by
  have h0 : 0 ≤ rg p ∧ rg p < 9223372036854775808 := by unfold rg; unfold M.rng at hp; split <;> omega
  have e : rg (M.neg p) = rg p ∧ decide (M.neg p < 0) = !decide (p < 0) := by
    unfold M.neg rg
    rw [if_neg h4]
    unfold M.rng at hp
    by_cases c : p < 0
    · rw [if_pos c, decide_eq_true c, if_neg (by omega)]
      exact ⟨by rw [if_pos c], decide_eq_false (by omega)⟩
    · rw [if_neg c, decide_eq_false c, if_pos (by omega)]
      exact ⟨by rw [if_neg c]; omega, decide_eq_true (by omega)⟩
  refine ⟨e.2, e.1, fun c => ?_⟩
  have := (cls_rg (neg_rng hp)).1.1 c
  rw [e.1] at this
  exact h4 ((cls_rg hp).1.2 this)
theorem self_pat {p : Int} (hp : M.rng p) : fsum p (M.neg p) = if pok p then 0 else 9221120237041090561 := by
  by_cases c4 : cls p = 4
  · have : pok p = false := by
      cases h : pok p
      · rfl
      · exact absurd c4 (fin_cls hp h).1
    rw [this]
    unfold fsum
    rw [if_pos (.inl c4)]
    rfl
  · obtain ⟨s1, s2, s3⟩ := neg_sign hp c4
    cases h : pok p
    · have hi : rg p = 9218868437227405312 := by
        by_cases c : rg p = 9218868437227405312
        · exact c
        · rw [pok_of hp c4 c] at h; cases h
      unfold fsum
      rw [if_neg (fun c => c.elim c4 s3), if_pos hi, if_pos ⟨by rw [s2]; exact hi, by rw [s1]; cases decide (p < 0) <;> decide⟩]
      rfl
    · obtain ⟨n1, n2, n3⟩ := neg_facts hp h
      unfold fsum
      rw [if_neg (fun c => c.elim c4 s3), if_neg (fin_cls hp h).2, if_neg (by rw [s2]; exact (fin_cls hp h).2), patV_iV hp h, patV_iV n1 n2, n3, if_pos (by rw [← Int.add_mul, Int.add_right_neg, Int.zero_mul]), s1]
      cases decide (p < 0) <;> rfl
theorem order_zero : Ieee.double.order 0 0 = some .eq := by decide +kernel
theorem self_order {p : Int} {z : Nat} (hp : M.rng p) (hz : FW (fsum p (M.neg p)) z) : (Ieee.double.order z 0 == some Ordering.eq) = pok p := by
  rw [self_pat hp] at hz
  cases h : pok p
  · rw [h] at hz
    obtain ⟨s, t, e⟩ := hz.read_nan nan_canon
    unfold Ieee.Format.order
    rw [e]
    rfl
  · rw [h] at hz
    obtain ⟨_, e, _⟩ := hz.of (by decide)
    have : z = 0 := by rw [e]; decide
    rw [this, order_zero]
    rfl
set_option maxRecDepth 100000 in
set_option maxHeartbeats 1000000 in
theorem etold_any {p q : Int} {x y : Nat} (hx : FW p x) (hy : FW q y) (w : World) :
    Calls Tryd.prog 20 #[.float .f64 x, .float .f64 y] w fun e w' => e = .returned (.tuple #[.int .i64 p, .int .i64 q, .bool (pok q)]) ∧ Below w.heap.size w w' := by
  have C1 := fun W => of_FW hx W
  have C2 := fun W => of_FW hy W
  obtain ⟨z1, w1, e1, f1, d1⟩ := run_fdiff (P := Tryd.prog) 32 hy hy w
  have B1 : Hid (Below w.heap.size w w1) := stay_b d1
  have HO : (Ieee.double.order z1 0 == some Ordering.eq) = pok q := self_order hy.rng f1
  clear d1 f1 hx hy
  generalize pok q = R at HO ⊢
  go_enter Tryd.func20, Tryd.ntmps20
  go_wp2_with fail
  refine (C1 _).mono ?_
  rintro _ _ ⟨rfl, rfl⟩
  go_wp2_with fail
  refine (C2 _).mono ?_
  rintro _ _ ⟨rfl, rfl⟩
  have HO2 : (FloatKind.f64.format.order z1 0 == some Ordering.eq) = R := HO
  go_wp2
  refine bodyPost_ret (v := .tuple #[.int .i64 p, .int .i64 q, .bool R]) (by simp [results, Tryd.results20, go_sem, HO2]) rfl ⟨rfl, B1.out⟩
set_option maxRecDepth 100000 in
set_option maxHeartbeats 1000000 in
theorem twoSum_any {a b : Int} (ha : M.rng a) (hb : M.rng b) (w : World) :
    Calls Tryd.prog 9 #[.int .i64 a, .int .i64 b] w fun e w' => e = .returned (.tuple #[.int .i64 (fsum (told a) (told b)), .int .i64 (sL (told a) (told b)), .bool (pok (sL (told a) (told b)))]) ∧ Below w.heap.size w w' := by
  have C1 := fun W => bitsFloat a W
  have C2 := fun W => bitsFloat b W
  have FA : Hid (FW (told a) (wd a)) := wd_told ha
  have FB : Hid (FW (told b) (wd b)) := wd_told hb
  generalize told a = p at *
  generalize told b = q at *
  generalize wd a = x at *
  generalize wd b = y at *
  go_enter Tryd.func9, Tryd.ntmps9
  go_wp2_with fail
  refine (C1 _).mono ?_
  rintro _ _ ⟨rfl, rfl⟩
  go_wp2_with fail
  refine (C2 _).mono ?_
  rintro _ _ ⟨rfl, rfl⟩
  go_wp2_with fail
  refine (esum_any FA.out FB.out _).mono ?_
  rintro _ w1 ⟨z, u, rfl, g1, g2, b1⟩
  have G1 : Hid (FW (fsum p q) z) := g1
  have G2 : Hid (FW (sL p q) u) := g2
  clear g1 g2
  go_wp2_with fail
  refine (etold_any G1.out G2.out _).mono ?_
  rintro _ w2 ⟨rfl, b2⟩
  go_wp2
  refine bodyPost_ret (v := .tuple #[.int .i64 (fsum p q), .int .i64 (sL p q), .bool (pok (sL p q))]) (by simp [results, Tryd.results9, go_sem]) rfl ⟨rfl, bel_trans b1 b2⟩
set_option maxRecDepth 100000 in
set_option maxHeartbeats 1000000 in
theorem twoDiff_any {a b : Int} (ha : M.rng a) (hb : M.rng b) (w : World) (L : Lays w) :
    Calls Tryd.prog 12 #[.int .i64 a, .int .i64 b] w fun e w' => e = .returned (.tuple #[.int .i64 (fsum (told a) (told (M.neg b))), .int .i64 (sL (told a) (told (M.neg b))), .bool (pok (sL (told a) (told (M.neg b))))]) ∧ Below w.heap.size w w' := by
  have C1 := bitsNeg b w L hb
  have C2 := fun W => twoSum_any ha (neg_rng hb) W
  generalize M.neg b = c at *
  generalize told a = p at *
  generalize told c = q at *
  go_enter Tryd.func12, Tryd.ntmps12
  go_wp2_with fail
  refine C1.mono ?_
  rintro _ w1 ⟨rfl, g1⟩
  have b1 := g1.be
  clear g1
  go_wp2_with fail
  refine (C2 _).mono ?_
  rintro _ w2 ⟨rfl, b2⟩
  go_wp2
  refine bodyPost_ret (v := .tuple #[.int .i64 (fsum p q), .int .i64 (sL p q), .bool (pok (sL p q))]) (by simp [results, Tryd.results12, go_sem]) rfl ⟨rfl, bel_trans b1 b2⟩
set_option maxRecDepth 100000 in
set_option maxHeartbeats 1000000 in
theorem esplitF_any {a : Int} (ha : M.rng a) (w : World) :
    Calls Tryd.prog 17 #[.int .i64 a] w fun e w' => e = .returned (.tuple #[.int .i64 (spH (told a)), .int .i64 (spL (told a)), .bool (pok (spL (told a)))]) ∧ Below w.heap.size w w' := by
  have C1 := fun W => bitsFloat a W
  have FA : Hid (FW (told a) (wd a)) := wd_told ha
  generalize told a = p at *
  generalize wd a = x at *
  go_enter Tryd.func17, Tryd.ntmps17
  go_wp2_with fail
  refine (C1 _).mono ?_
  rintro _ _ ⟨rfl, rfl⟩
  go_wp2_with fail
  refine (esplit_any FA.out _).mono ?_
  rintro _ w1 ⟨z, u, rfl, g1, g2, b1⟩
  have G1 : Hid (FW (spH p) z) := g1
  have G2 : Hid (FW (spL p) u) := g2
  clear g1 g2
  go_wp2_with fail
  refine (etold_any G1.out G2.out _).mono ?_
  rintro _ w2 ⟨rfl, b2⟩
  go_wp2
  refine bodyPost_ret (v := .tuple #[.int .i64 (spH p), .int .i64 (spL p), .bool (pok (spL p))]) (by simp [results, Tryd.results17, go_sem]) rfl ⟨rfl, bel_trans b1 b2⟩
end Go.Proofs.YtheiinclgfgneaaDoor

/-
  Plain mathematics: what the document's single operations tell to the nearest is what the floats' own do.
-/
namespace Go.Proofs.YtheiinclgfgneaaDoor
open Go Go.RowKit Go.Proofs.YtheiinclgfgneaaDoor.M
set_option linter.unusedSimpArgs false
set_option linter.unusedVariables false

/-- What was looked at is a pattern's. -/
def IsP (p : Int) (pn pa pi : Bool) (V : Int) : Prop := pa = decide (cls p = 4) ∧ (cls p ≠ 4 → pn = decide (p < 0) ∧ pi = decide (cls p = 3) ∧ V = patV p)
theorem IsP.self (p : Int) : IsP p (decide (p < 0)) (decide (cls p = 4)) (decide (cls p = 3)) (patV p) := ⟨rfl, fun _ => ⟨rfl, rfl, rfl⟩⟩
theorem cls3_rg {p : Int} (hp : rng p) : cls p = 3 ↔ rg p = 9218868437227405312 := by
  have h1 := (cls_rg hp).1
  have h2 := pok_rg hp
  constructor
  · intro h
    have : pok p ≠ true := fun q => by have := cls_fin q; omega
    have h3 : ¬ rg p < 9218868437227405312 := fun q => this (h2.2 q)
    have h4 : ¬ 9218868437227405312 < rg p := fun q => by have := h1.2 q; omega
    omega
  · intro h
    have : pok p ≠ true := fun q => by have := h2.1 q; omega
    rcases (cls_not this).1 with q | q
    · exact q
    · have := h1.1 q; omega
theorem inf_patS {p : Int} (h : rg p = 9218868437227405312) : p = patS (decide (p < 0)) 9218868437227405312 := by
  unfold rg at h
  unfold patS
  by_cases h0 : p < 0
  · rw [if_pos h0] at h; rw [decide_eq_true h0, if_pos rfl]; omega
  · rw [if_neg h0] at h; rw [decide_eq_false h0, if_neg (by decide)]; omega
theorem patV_sign {p : Int} (h : patV p ≠ 0) : decide (p < 0) = decide (patV p < 0) := by
  have hp : pok p = true := by
    by_cases q : pok p = true
    · exact q
    · exact absurd (cls_not q).2 h
  have i0 := (pmag_in hp).1
  unfold patV at h ⊢
  unfold pneg at h ⊢
  rw [hp, Bool.true_and] at h ⊢
  have hpw := pw_pos (pexp p)
  have hm : 0 < pmag p := by
    rcases Int.lt_or_eq_of_le i0 with q | q
    · exact q
    · rw [← q] at h
      exfalso
      apply h
      unfold sg
      split <;> simp
  by_cases c : p < 0
  · rw [decide_eq_true c]
    symm
    apply decide_eq_true
    show -(pmag p) * pw (pexp p) < 0
    exact Int.mul_neg_of_neg_of_pos (by omega) hpw
  · rw [decide_eq_false c]
    symm
    apply decide_eq_false
    show ¬ pmag p * pw (pexp p) < 0
    have := Int.mul_pos hm hpw
    omega
theorem near_rdw {S r : Int} (h : S ≠ 0) (hr : RdW 0 (decide (S < 0)) S.natAbs r) : r = nearP S := by
  obtain ⟨A, r0, left, h1, h2, h3⟩ := nearP_rung h
  have hA : A = (S.natAbs : Int) := by
    unfold sg at h1
    split at h1
    · rename_i c
      have := of_decide_eq_true c
      omega
    · rename_i c
      have : ¬ S < 0 := fun q => c (decide_eq_true q)
      omega
  subst hA
  exact hr.unique ⟨r0, left, h2, h3⟩
theorem plr_near {p q : Int} {pn pa pi qn qa qi : Bool} {Vp Vq r : Int} (rp : rng p) (rq : rng q) (hp : IsP p pn pa pi Vp) (hq : IsP q qn qa qi Vq) (h : PlR 0 pn pa pi Vp qn qa qi Vq r) : r = fsum p q := by
  obtain ⟨p1, p2⟩ := hp
  obtain ⟨q1, q2⟩ := hq
  unfold PlR at h
  unfold fsum
  by_cases c4 : cls p = 4 ∨ cls q = 4
  · rw [if_pos c4]
    have hh : (pa || qa) = true := by
      rcases c4 with c | c
      · rw [p1, decide_eq_true c]; rfl
      · rw [q1, decide_eq_true c, Bool.or_true]
    rw [if_pos (by rw [hh]; rfl)] at h
    rw [h]
    unfold plusX
    rw [if_pos (by rw [hh]; rfl)]
  · have cp : cls p ≠ 4 := fun x => c4 (.inl x)
    have cq : cls q ≠ 4 := fun x => c4 (.inr x)
    obtain ⟨e1, e2, e3⟩ := p2 cp
    obtain ⟨f1, f2, f3⟩ := q2 cq
    rw [decide_eq_false cp] at p1
    rw [decide_eq_false cq] at q1
    subst p1 q1 e1 e2 e3 f1 f2 f3
    rw [if_neg c4]
    have i1 := cls3_rg rp
    have i2 := cls3_rg rq
    by_cases ip : rg p = 9218868437227405312
    · rw [if_pos ip]
      rw [decide_eq_true (i1.2 ip)] at h
      simp only [Bool.false_or, Bool.true_or, if_true] at h
      rw [h]
      unfold plusX
      simp only [Bool.false_or, Bool.true_and, if_true]
      by_cases iq : rg q = 9218868437227405312
      · rw [decide_eq_true (i2.2 iq), Bool.true_and]
        by_cases hs : decide (p < 0) = decide (q < 0)
        · have hb : (decide (p < 0) != decide (q < 0)) = false := by rw [hs]; simp
          rw [hb, if_neg (by decide), if_neg (fun x => x.2 hs)]
          exact (inf_patS ip).symm
        · have hb : (decide (p < 0) != decide (q < 0)) = true := by rw [bne_iff_ne]; exact hs
          rw [hb, if_pos rfl, if_pos ⟨iq, hs⟩]
      · rw [decide_eq_false (fun x => iq (i2.1 x)), Bool.false_and, if_neg (by decide), if_neg (fun x => iq x.1)]
        exact (inf_patS ip).symm
    · rw [if_neg ip]
      have n1 : decide (cls p = 3) = false := decide_eq_false (fun x => ip (i1.1 x))
      rw [n1] at h
      by_cases iq : rg q = 9218868437227405312
      · rw [if_pos iq]
        rw [decide_eq_true (i2.2 iq)] at h
        simp only [Bool.false_or, if_true] at h
        rw [h]
        unfold plusX
        simp only [Bool.false_or, Bool.false_and, Bool.false_eq_true, if_false]
        exact (inf_patS iq).symm
      · rw [if_neg iq]
        have n2 : decide (cls q = 3) = false := decide_eq_false (fun x => iq (i2.1 x))
        rw [n2] at h
        simp only [Bool.false_or, Bool.false_eq_true, if_false] at h
        obtain ⟨s0, s1⟩ := h
        by_cases hS : patV p + patV q = 0
        · rw [if_pos hS, s0 hS]
          congr 1
          by_cases hV : patV p = 0 ∧ decide (p < 0) = decide (q < 0)
          · rw [if_pos hV, ← hV.2, Bool.and_self]
          · rw [if_neg hV]
            by_cases v0 : patV p = 0
            · have hs : decide (p < 0) ≠ decide (q < 0) := fun x => hV ⟨v0, x⟩
              cases hx : decide (p < 0) <;> cases hy : decide (q < 0) <;> simp_all
            · have v1 : patV q ≠ 0 := by omega
              rw [patV_sign v0, patV_sign v1]
              by_cases c : patV p < 0
              · rw [decide_eq_true c, decide_eq_false (show ¬ patV q < 0 by omega)]; rfl
              · rw [decide_eq_false c]; rfl
        · rw [if_neg hS]
          exact near_rdw hS (s1 hS)
theorem neg_isP {q : Int} (hq : rng q) : IsP (neg q) (!decide (q < 0)) (decide (cls q = 4)) (decide (cls q = 3)) (-patV q) := by
  by_cases c4 : cls q = 4
  · refine ⟨?_, fun h => ?_⟩
    · have : cls (neg q) = 4 := by unfold neg; rw [if_pos c4]; decide
      rw [decide_eq_true c4, decide_eq_true this]
    · exfalso
      apply h
      unfold neg
      rw [if_pos c4]
      decide
  · obtain ⟨s1, s2, s3⟩ := neg_sign hq c4
    refine ⟨by rw [decide_eq_false c4, decide_eq_false s3], fun _ => ⟨s1.symm, ?_, ?_⟩⟩
    · have h1 := cls3_rg hq
      have h2 := cls3_rg (neg_rng hq)
      rw [s2] at h2
      congr 1
      apply propext
      rw [h1, h2]
    · by_cases hp : pok q = true
      · obtain ⟨n1, n2, n3⟩ := neg_facts hq hp
        rw [patV_iV n1 n2, patV_iV hq hp, n3, Int.neg_mul]
      · have hp2 : pok (neg q) ≠ true := fun x => hp ((pok_rg hq).2 (by have := (pok_rg (neg_rng hq)).1 x; omega))
        rw [(cls_not hp).2, (cls_not hp2).2]
        rfl
/-- A product of two that were looked at. -/
def TiR (pa pi : Bool) (Vp : Int) (qa qi : Bool) (Vq : Int) (na ni : Bool) (V : Int) : Prop :=
  if pa || qa then na = true ∧ ni = false ∧ V = 0
  else if pi || qi then na = ((pi && !qi && decide (Vq = 0)) || (qi && !pi && decide (Vp = 0))) ∧ ni = !na ∧ V = 0
  else na = false ∧ ni = false ∧ V * 2 ^ 4194304 = Vp * Vq
theorem patV_zero {p : Int} (hp : rng p) (h : pok p = true) : patV p = 0 ↔ rg p = 0 := by
  have h0 := (cls_rg hp).2
  have i0 := (pmag_in h).1
  have hpw := pw_pos (pexp p)
  have key : patV p = 0 ↔ pmag p = 0 := by
    unfold patV
    constructor
    · intro q
      rcases Int.mul_eq_zero.1 q with q | q
      · unfold sg at q; split at q <;> omega
      · omega
    · intro q; rw [q]; unfold sg; split <;> simp
  rw [key, ← h0]
  unfold pok at h
  simp at h
  unfold pmag cls
  rw [if_neg h, if_neg h]
  by_cases c : fld p = 0
  · rw [if_pos c, if_pos c]
    by_cases d : frc p = 0
    · rw [if_pos d]; simp [d]
    · rw [if_neg d]; simp [d]
  · rw [if_neg c, if_neg c]
    have : 0 ≤ frc p := by unfold frc; omega
    constructor <;> intro q <;> omega
theorem mul_near {p q : Int} {na ni : Bool} {V r : Int} (rp : rng p) (rq : rng q) (hT : TiR (decide (cls p = 4)) (decide (cls p = 3)) (patV p) (decide (cls q = 4)) (decide (cls q = 3)) (patV q) na ni V) (h : CloseR 0 (decide (p < 0) != decide (q < 0)) na ni V r) : r = fprod p q := by
  unfold TiR at hT
  unfold CloseR at h
  unfold fprod
  by_cases c4 : cls p = 4 ∨ cls q = 4
  · rw [if_pos c4]
    rw [if_pos (by rcases c4 with c | c <;> simp [c])] at hT
    rw [hT.1, if_pos rfl] at h
    exact h
  · have cp : cls p ≠ 4 := fun x => c4 (.inl x)
    have cq : cls q ≠ 4 := fun x => c4 (.inr x)
    rw [if_neg c4]
    rw [if_neg (by simp [cp, cq])] at hT
    have i1 := cls3_rg rp
    have i2 := cls3_rg rq
    by_cases ci : rg p = 9218868437227405312 ∨ rg q = 9218868437227405312
    · rw [if_pos ci]
      rw [if_pos (by rcases ci with c | c <;> simp [i1, i2, c])] at hT
      obtain ⟨t1, t2, t3⟩ := hT
      have hz : ((decide (cls p = 3) && !decide (cls q = 3) && decide (patV q = 0)) || (decide (cls q = 3) && !decide (cls p = 3) && decide (patV p = 0))) = decide (rg p = 0 ∨ rg q = 0) := by
        have zz : ∀ {x : Int}, rng x → cls x ≠ 4 → rg x ≠ 9218868437227405312 → (patV x = 0 ↔ rg x = 0) := fun {x} rx c h => patV_zero rx ((pok_rg rx).2 (by
          have := (cls_rg rx).1
          rcases Int.lt_or_le 9218868437227405312 (rg x) with g | g
          · exact absurd (this.2 g) c
          · omega))
        by_cases a : rg p = 9218868437227405312
        · by_cases b : rg q = 9218868437227405312
          · rw [decide_eq_true (i1.2 a), decide_eq_true (i2.2 b)]
            symm
            rw [Bool.not_true, Bool.and_false, Bool.false_and, Bool.false_and, Bool.or_self]
            apply decide_eq_false
            omega
          · rw [decide_eq_true (i1.2 a), decide_eq_false (fun x => b (i2.1 x)), Bool.not_false, Bool.true_and, Bool.false_and, Bool.false_and, Bool.or_false, Bool.true_and]
            congr 1
            apply propext
            rw [zz rq cq b]
            omega
        · have b : rg q = 9218868437227405312 := ci.resolve_left a
          rw [decide_eq_false (fun x => a (i1.1 x)), decide_eq_true (i2.2 b), Bool.not_false, Bool.true_and, Bool.false_and, Bool.false_and, Bool.false_or, Bool.true_and]
          congr 1
          apply propext
          rw [zz rp cp a]
          omega
      rw [hz] at t1
      by_cases z : rg p = 0 ∨ rg q = 0
      · rw [if_pos z]
        rw [decide_eq_true z] at t1
        rw [t1, if_pos rfl] at h
        exact h
      · rw [if_neg z]
        rw [decide_eq_false z] at t1
        rw [t2, t1, if_neg (by decide), if_pos (by rfl)] at h
        exact h
    · rw [if_neg ci]
      have a : ¬ cls p = 3 := fun x => ci (.inl (i1.1 x))
      have b : ¬ cls q = 3 := fun x => ci (.inr (i2.1 x))
      rw [if_neg (by simp [a, b])] at hT
      obtain ⟨t1, t2, t3⟩ := hT
      rw [t1, t2, if_neg (by decide), if_neg (by decide)] at h
      have hV : V = patV p * patV q / 2 ^ 4194304 := by
        rw [← t3, Int.mul_ediv_cancel _ (Int.ne_of_gt (two_pos _))]
      have hf : fsize p q = sg (xsg p q) V := by unfold fsize; rw [← hV]
      rw [hf]
      have hx : (decide (p < 0) != decide (q < 0)) = xsg p q := rfl
      rw [hx] at h
      clear hx hf
      generalize xsg p q = x at *
      have hsg : sg x (sg x V) = V := by unfold sg; cases x <;> simp
      rw [hsg]
      have h0 : sg x V = 0 ↔ V = 0 := by unfold sg; cases x <;> simp
      by_cases v0 : V = 0
      · rw [if_pos (h0.2 v0)]
        rw [if_pos v0] at h
        exact h
      · rw [if_neg (fun q => v0 (h0.1 q))]
        rw [if_neg v0] at h
        exact near_rdw v0 h
end Go.Proofs.YtheiinclgfgneaaDoor

/-
  The document's single operations to the nearest (plumbref4: Sum, Diff, Prod), by their contracts: what the floats' own do.
-/
namespace Go.Proofs.YtheiinclgfgneaaDoor
open Go Go.RowKit Go.Proofs.YtheiinclgfgneaaDoor.M
set_option linter.unusedSimpArgs false
set_option linter.unusedVariables false

theorem rtimes_pt {w : World} {pn pa pi qn qa qi : Bool} {Vp Vq : Int} {p q : Value} (hp : Pt w pn pa pi Vp p) (hq : Pt w qn qa qi Vq q) (bp : Bd 4000 Vp) (bq : Bd 4000 Vq) :
    Calls Tryd.prog 79 #[p, q] w fun x w' => ∃ v, x = .returned v ∧ Below w.heap.size w w' ∧ ∃ na ni V, Pt w' (pn != qn) na ni V v ∧ TiR pa pi Vp qa qi Vq na ni V ∧ Bd 8000 V := by
  obtain ⟨xg, xo, xn, xc, xe, rfl, hx⟩ := hp
  obtain ⟨yg, yo, yn, yc, ye, rfl, hy⟩ := hq
  have b0 : Bd 8000 0 := ⟨0, by simp, by have := two_pos (2 * 8000); omega, two_pos _⟩
  unfold TiR
  by_cases h : (pa || qa) = true
  · refine (rtimes_nan pn pa pi qn qa qi xg yg xo yo xn xc yn yc xe ye w h).mono ?_
    rintro x w' ⟨v, rfl, hb, hP⟩
    exact ⟨v, rfl, hb, _, _, _, hP, by rw [if_pos h]; exact ⟨rfl, rfl, rfl⟩, b0⟩
  · have h2 : pa = false ∧ qa = false := by cases pa <;> cases qa <;> simp_all
    obtain ⟨rfl, rfl⟩ := h2
    obtain ⟨zx, mx⟩ := num_len hx
    obtain ⟨zy, my⟩ := num_len hy
    by_cases h3 : (pi || qi) = true
    · refine (rtimes_inf pn pi qn qi xg yg xo yo xn xc yn yc xe ye w mx my h3).mono ?_
      rintro x w' ⟨v, rfl, hb, hP⟩
      have e1 : decide (xn = 0) = decide (Vp = 0) := by congr 1; exact propext zx
      have e2 : decide (yn = 0) = decide (Vq = 0) := by congr 1; exact propext zy
      rw [e1, e2] at hP
      exact ⟨v, rfl, hb, _, _, _, hP, by rw [if_neg h, if_pos h3]; exact ⟨rfl, rfl, rfl⟩, b0⟩
    · have h4 : pi = false ∧ qi = false := by cases pi <;> cases qi <;> simp_all
      obtain ⟨rfl, rfl⟩ := h4
      obtain ⟨d, hR, ok, hV⟩ := hx.open2 (bp.ok (by decide))
      obtain ⟨d', hR', ok', hV'⟩ := hy.open2 (bq.ok (by decide))
      have sx := okR_sane ok
      have sy := okR_sane ok'
      have hm := mulV_eq (x := ⟨xg, xo, xn, xc, d, xe⟩) (y := ⟨yg, yo, yn, yc, d', ye⟩) (by have := sx.2.2.1; simp only at this ⊢; omega) (by have := sy.2.2.1; simp only at this ⊢; omega)
      rw [hV, hV'] at hm
      refine (rtimes_fin pn qn ⟨xg, xo, xn, xc, d, xe⟩ ⟨yg, yo, yn, yc, d', ye⟩ w hR hR' sx sy).mono ?_
      rintro x w' ⟨v, rfl, hb, hP⟩
      exact ⟨v, rfl, hb, _, _, _, hP, by rw [if_neg h, if_neg h3]; exact ⟨rfl, rfl, hm⟩, bp.mul bq hm (by decide)⟩
theorem radd64_near (a b : Int) (ha : rng a) (hb : rng b) (w : World) :
    Calls Tryd.prog 63 #[k64V, .int .i64 a, .int .i64 b, .int .i64 0] w fun x w' => x = .returned (.int .i64 (fsum a b)) ∧ Below w.heap.size w w' := by
  refine (radd64_F (R := fun r => r = fsum a b) w (fun W => rlook_any a W ha) (fun W => rlook_any b W hb) (fun W p q hp hq => ?_)).mono ?_
  · refine (rplus_pt 0 (by decide) hp hq ((patV_bd' a).up (show 4000 ≤ 9000 by decide) (by decide)) ((patV_bd' b).up (show 4000 ≤ 9000 by decide) (by decide))).mono ?_
    rintro x w' ⟨r, rfl, hb1, hr⟩
    exact ⟨r, rfl, hb1, plr_near ha hb (IsP.self a) (IsP.self b) hr⟩
  · rintro x w' ⟨r, rfl, hb1, rfl⟩
    exact ⟨rfl, hb1⟩
theorem rsub64_near (a b : Int) (ha : rng a) (hb : rng b) (w : World) :
    Calls Tryd.prog 64 #[k64V, .int .i64 a, .int .i64 b, .int .i64 0] w fun x w' => x = .returned (.int .i64 (fsum a (neg b))) ∧ Below w.heap.size w w' := by
  refine (rsub64_F (R := fun r => r = fsum a (neg b)) w (fun W => rlook_any a W ha) (fun W => rlook_any b W hb) (fun W p q hp hq => ?_)).mono ?_
  · refine (rplus_pt 0 (by decide) hp hq ((patV_bd' a).up (show 4000 ≤ 9000 by decide) (by decide)) ((patV_bd' b).up (show 4000 ≤ 9000 by decide) (by decide)).neg).mono ?_
    rintro x w' ⟨r, rfl, hb1, hr⟩
    exact ⟨r, rfl, hb1, plr_near ha (neg_rng hb) (IsP.self a) (neg_isP hb) hr⟩
  · rintro x w' ⟨r, rfl, hb1, rfl⟩
    exact ⟨rfl, hb1⟩
theorem rmul64_near (a b : Int) (ha : rng a) (hb : rng b) (w : World) :
    Calls Tryd.prog 71 #[k64V, .int .i64 a, .int .i64 b, .int .i64 0] w fun x w' => x = .returned (.int .i64 (fprod a b)) ∧ Below w.heap.size w w' := by
  refine (rmul64_F (R := fun r => r = fprod a b) (fun W v => ∃ na ni V, Pt W (decide (a < 0) != decide (b < 0)) na ni V v ∧ TiR (decide (cls a = 4)) (decide (cls a = 3)) (patV a) (decide (cls b = 4)) (decide (cls b = 3)) (patV b) na ni V ∧ Bd 8000 V) ?_ w (fun W => rlook_any a W ha) (fun W => rlook_any b W hb) (fun W p q hp hq => rtimes_pt hp hq (patV_bd' a) (patV_bd' b)) (fun W v hv => ?_)).mono ?_
  · rintro W W' v ⟨na, ni, V, h1, h2⟩ hb1
    exact ⟨na, ni, V, h1.keeps hb1, h2⟩
  · obtain ⟨na, ni, V, ⟨xg, xo, xn, xc, xe, rfl, hx⟩, h2, h3⟩ := hv
    refine (rclose_any 0 (by decide) _ na ni xg xo xn xc xe V W hx (h3.ok (by decide))).mono ?_
    rintro x w' ⟨r, rfl, hb1, hr⟩
    exact ⟨r, rfl, hb1, mul_near ha hb h2 hr⟩
  · rintro x w' ⟨r, rfl, hb1, rfl⟩
    exact ⟨rfl, hb1⟩
set_option maxRecDepth 100000 in
theorem rk64_any (w : World) : Calls Tryd.prog 62 #[] w fun x w' => x = .returned k64V ∧ Below w.heap.size w w' := by
  unfold k64V
  go_enter Tryd.func62, Tryd.ntmps62
  go_wp2
  refine bodyPost_ret (v := .agg #[.int .i64 53, .int .i64 (-1074), .int .i64 1024, .int .i64 9218868437227405312, .int .i64 (-9223372036854775808)]) (by simp [results, Tryd.results62, go_sem]) rfl ⟨rfl, ?_⟩
  exact bel_alloc _ _
set_option maxRecDepth 100000 in
theorem rSum_any (a b : Int) (ha : rng a) (hb : rng b) (w : World) :
    Calls Tryd.prog 44 #[.int .i64 a, .int .i64 b] w fun x w' => x = .returned (.int .i64 (fsum a b)) ∧ Below w.heap.size w w' := by
  have C1 := fun W => rk64_any W
  have C2 := fun W => radd64_near a b ha hb W
  generalize fsum a b = r at *
  unfold k64V at *
  go_enter Tryd.func44, Tryd.ntmps44
  go_wp2_with fail
  refine (C1 _).mono ?_
  rintro _ w1 ⟨rfl, hb1⟩
  go_wp2_with fail
  refine (C2 _).mono ?_
  rintro _ w2 ⟨rfl, hb2⟩
  go_wp2
  go_ret
  exact ⟨rfl, bel_trans hb1 hb2⟩
set_option maxRecDepth 100000 in
theorem rDiff_any (a b : Int) (ha : rng a) (hb : rng b) (w : World) :
    Calls Tryd.prog 45 #[.int .i64 a, .int .i64 b] w fun x w' => x = .returned (.int .i64 (fsum a (neg b))) ∧ Below w.heap.size w w' := by
  have C1 := fun W => rk64_any W
  have C2 := fun W => rsub64_near a b ha hb W
  generalize fsum a (neg b) = r at *
  unfold k64V at *
  go_enter Tryd.func45, Tryd.ntmps45
  go_wp2_with fail
  refine (C1 _).mono ?_
  rintro _ w1 ⟨rfl, hb1⟩
  go_wp2_with fail
  refine (C2 _).mono ?_
  rintro _ w2 ⟨rfl, hb2⟩
  go_wp2
  go_ret
  exact ⟨rfl, bel_trans hb1 hb2⟩
set_option maxRecDepth 100000 in
theorem rProd_any (a b : Int) (ha : rng a) (hb : rng b) (w : World) :
    Calls Tryd.prog 57 #[.int .i64 a, .int .i64 b] w fun x w' => x = .returned (.int .i64 (fprod a b)) ∧ Below w.heap.size w w' := by
  have C1 := fun W => rk64_any W
  have C2 := fun W => rmul64_near a b ha hb W
  generalize fprod a b = r at *
  unfold k64V at *
  go_enter Tryd.func57, Tryd.ntmps57
  go_wp2_with fail
  refine (C1 _).mono ?_
  rintro _ w1 ⟨rfl, hb1⟩
  go_wp2_with fail
  refine (C2 _).mono ?_
  rintro _ w2 ⟨rfl, hb2⟩
  go_wp2
  go_ret
  exact ⟨rfl, bel_trans hb1 hb2⟩
end Go.Proofs.YtheiinclgfgneaaDoor
