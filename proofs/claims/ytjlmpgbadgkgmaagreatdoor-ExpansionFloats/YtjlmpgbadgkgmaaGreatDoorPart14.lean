/-
  Parts of the proof, one behind another.
-/
import Derived.Test.YtjlmpgbadgkgmaaGreatDoorPart12
import Derived.Test.YtjlmpgbadgkgmaaGreatDoorPart13
import Derived.Test.YtjlmpgbadgkgmaaGreatDoorPart7
import Derived.Test.YtjlmpgbadgkgmaaGreatDoorPart10
import Derived.Test.YtjlmpgbadgkgmaaGreatDoorPart4
import Derived.Test.YtjlmpgbadgkgmaaGreatDoorPart8
import Derived.Test.YtjlmpgbadgkgmaaGreatDoorPart9
import Derived.Test.YtjlmpgbadgkgmaaGreatDoorPart5
import Derived.Test.YtjlmpgbadgkgmaaGreatDoorPart1
/-
  Mathematics of whole numbers: a float's whole units, ints as floats, the order of floats in the model.
-/
namespace Go.Proofs.YtjlmpgbadgkgmaaGreatDoor.M
open Go Ieee
set_option linter.unusedSimpArgs false
set_option linter.unusedVariables false

theorem left_u {A q : Int} {u v : Nat} {l k : Int} (h : Left A u q l) (g : Left A v q k) : ¬ u < v := fun c => by
  have h1 := h.hi
  have h2 := g.lo
  have hq : 0 < q := by have := h.lo; omega
  have h3 : ((u : Int) + 1) * q ≤ (v : Int) * q := Int.mul_le_mul_of_nonneg_right (by omega) (by omega)
  rw [Int.add_mul, Int.one_mul] at h3
  omega
theorem Left.unique {A q : Int} {u v : Nat} {l k : Int} (h : Left A u q l) (g : Left A v q k) : u = v ∧ l = k := by
  have e : u = v := by
    have h1 := left_u h g
    have h2 := left_u g h
    omega
  subst e
  refine ⟨rfl, ?_⟩
  have lo := h.lo
  have hi := h.hi
  obtain ⟨T, hT⟩ : ∃ T, (u : Int) * q = T := ⟨_, rfl⟩
  rw [hT] at lo hi
  have a0 := h.l0
  have a1 := h.l1
  have a2 := h.l2
  have a3 := h.l3
  have b0 := g.l0
  have b1 := g.l1
  have b2 := g.l2
  have b3 := g.l3
  rw [hT] at a0 a1 a2 a3 b0 b1 b2 b3
  by_cases c0 : A = T
  · rw [a0.2 c0, b0.2 c0]
  · by_cases c1 : 2 * A < 2 * T + q
    · rw [a1.2 ⟨by omega, c1⟩, b1.2 ⟨by omega, c1⟩]
    · by_cases c2 : 2 * A = 2 * T + q
      · rw [a2.2 c2, b2.2 c2]
      · rw [a3.2 (by omega), b3.2 (by omega)]
theorem left_kinds {A q : Int} {u : Nat} {l : Int} (h : Left A u q l) : l = 0 ∨ l = 1 ∨ l = 2 ∨ l = 3 := by
  have lo := h.lo
  have a0 := h.l0
  have a1 := h.l1
  have a2 := h.l2
  have a3 := h.l3
  generalize (u : Int) * q = T at *
  by_cases c0 : A = T
  · exact .inl (a0.2 c0)
  · by_cases c1 : 2 * A < 2 * T + q
    · exact .inr (.inl (a1.2 ⟨by omega, c1⟩))
    · by_cases c2 : 2 * A = 2 * T + q
      · exact .inr (.inr (.inl (a2.2 c2)))
      · exact .inr (.inr (.inr (a3.2 (by omega))))
/-- What is whole has nothing left. -/
theorem left_whole {q : Int} (k : Nat) (hq : 0 < q) : Left ((k : Int) * q) k q 0 := by
  refine ⟨by omega, by omega, by simp, ?_, ?_, ?_⟩ <;> constructor <;> intro h <;> omega
/-- The units, raised or not. -/
def upU (way : Int) (ng : Bool) (u : Nat) (left : Int) : Nat := u + (if rUp way ng (decide (u % 2 = 1)) left then 1 else 0)
/-- Is there an int? -/
def tiB (ng : Bool) (U : Nat) : Bool := if ng then decide (U ≤ 9223372036854775808) else decide (U < 9223372036854775808)
def tiN (ng : Bool) (U : Nat) : Int := if tiB ng U then sg ng (U : Int) else 0
theorem tiB_big {ng : Bool} {U : Nat} (h : 9223372036854775808 < U) : tiB ng U = false := by
  unfold tiB
  cases ng <;> simp <;> omega
theorem rU_big {mag : Nat} {exp : Int} (h0 : mag ≠ 0) (hm : mag < 9007199254740992) (h : 64 < exp + (Lib.bitLen mag : Int)) : 18446744073709551616 ≤ rU mag (0 - exp) := by
  obtain ⟨b1, b2, b3, b4⟩ := M.bitLen_spec mag (Nat.lt_trans hm (by decide)) h0
  have hb : Lib.bitLen mag ≤ 53 := by
    have e : (2 : Nat) ^ 53 = 9007199254740992 := by decide
    have := (Nat.pow_lt_pow_iff_right (by decide : 1 < 2)).1 (Nat.lt_of_le_of_lt b1 (show mag < 2 ^ 53 by omega))
    omega
  unfold rU
  rw [if_pos (by omega)]
  have e64 : (2 : Nat) ^ 64 = 18446744073709551616 := by decide
  have h1 : 2 ^ (Lib.bitLen mag - 1) * 2 ^ (-(0 - exp)).toNat ≤ mag * 2 ^ (-(0 - exp)).toNat := Nat.mul_le_mul_right _ b1
  rw [← Nat.pow_add] at h1
  have h2 : 2 ^ 64 ≤ 2 ^ (Lib.bitLen mag - 1 + (-(0 - exp)).toNat) := Nat.pow_le_pow_right (by decide) (by omega)
  omega
theorem rU_fit {mag : Nat} {exp : Int} (hm : mag < 9007199254740992) (h : exp + (Lib.bitLen mag : Int) ≤ 64) : rU mag (0 - exp) < 18446744073709551615 := by
  unfold rU
  by_cases h0 : mag = 0
  · subst h0; split <;> simp
  obtain ⟨b1, b2, b3, b4⟩ := M.bitLen_spec mag (Nat.lt_trans hm (by decide)) h0
  have e64 : (2 : Nat) ^ 64 = 18446744073709551616 := by decide
  by_cases hs : 0 - exp ≤ 0
  · rw [if_pos hs]
    by_cases hz : exp = 0
    · subst hz; simp; omega
    · obtain ⟨k, hk⟩ : ∃ k, (-(0 - exp)).toNat = k + 1 := ⟨exp.toNat - 1, by omega⟩
      rw [hk]
      have h1 : mag * 2 ^ (k + 1) < 2 ^ Lib.bitLen mag * 2 ^ (k + 1) := Nat.mul_lt_mul_of_pos_right b2 (Nat.two_pow_pos _)
      rw [← Nat.pow_add] at h1
      have h2 : 2 ^ (Lib.bitLen mag + (k + 1)) ≤ 2 ^ 64 := Nat.pow_le_pow_right (by decide) (by omega)
      have h3 : mag * 2 ^ (k + 1) = 2 * (mag * 2 ^ k) := by rw [Nat.pow_succ, Nat.mul_comm (2 ^ k) 2, ← Nat.mul_assoc, Nat.mul_comm mag 2, Nat.mul_assoc]
      omega
  · rw [if_neg hs]
    have := Nat.div_le_self mag (2 ^ (0 - exp).toNat)
    omega
theorem cmp_mul {a b q : Int} (hq : 0 < q) : compare (a * q) (b * q) = compare a b := by
  have h1 : a * q < b * q ↔ a < b := ⟨fun h => Int.lt_of_mul_lt_mul_right h (by omega), fun h => Int.mul_lt_mul_of_pos_right h hq⟩
  have h2 : a * q = b * q ↔ a = b := ⟨fun h => Int.eq_of_mul_eq_mul_right (by omega) h, fun h => by rw [h]⟩
  show compareOfLessAndEq (a * q) (b * q) = compareOfLessAndEq a b
  unfold compareOfLessAndEq
  simp only [h1, h2]
theorem cmp_le {a b : Int} : (some (compare a b) == some Ordering.lt || some (compare a b) == some Ordering.eq) = decide (a ≤ b) := by
  show (some (compareOfLessAndEq a b) == some Ordering.lt || some (compareOfLessAndEq a b) == some Ordering.eq) = _
  unfold compareOfLessAndEq
  by_cases h1 : a < b
  · rw [if_pos h1, decide_eq_true (by omega)]; rfl
  · rw [if_neg h1]
    by_cases h2 : a = b
    · rw [if_pos h2, decide_eq_true (by omega)]; rfl
    · rw [if_neg h2, decide_eq_false (by omega)]; rfl
theorem cmp_ge {a b : Int} : (some (compare a b) == some Ordering.gt || some (compare a b) == some Ordering.eq) = decide (b ≤ a) := by
  show (some (compareOfLessAndEq a b) == some Ordering.gt || some (compareOfLessAndEq a b) == some Ordering.eq) = _
  unfold compareOfLessAndEq
  by_cases h1 : a < b
  · rw [if_pos h1, decide_eq_false (by omega)]; rfl
  · rw [if_neg h1]
    by_cases h2 : a = b
    · rw [if_pos h2, decide_eq_true (by omega)]; rfl
    · rw [if_neg h2, decide_eq_true (by omega)]; rfl
theorem cmp_eq {a b : Int} : (some (compare a b) == some Ordering.eq) = decide (a = b) := by
  show (some (compareOfLessAndEq a b) == some Ordering.eq) = _
  unfold compareOfLessAndEq
  by_cases h1 : a < b
  · rw [if_pos h1, decide_eq_false (by omega)]; rfl
  · rw [if_neg h1]
    by_cases h2 : a = b
    · rw [if_pos h2, decide_eq_true (by omega)]; rfl
    · rw [if_neg h2, decide_eq_false (by omega)]; rfl
end Go.Proofs.YtjlmpgbadgkgmaaGreatDoor.M
namespace Go.Proofs.YtjlmpgbadgkgmaaGreatDoor
open Go Go.RowKit Go.Proofs.YtjlmpgbadgkgmaaGreatDoor.M Ieee
set_option linter.unusedSimpArgs false
set_option linter.unusedVariables false
theorem order_wd {p q : Int} (hp : rng p) (hq : rng q) (pp : pok p = true) (pq : pok q = true) : Ieee.double.order (wd p) (wd q) = some (compare (patV p) (patV q)) := by
  obtain ⟨m, u, r1, v1⟩ := read_wd hp pp
  obtain ⟨n, v, r2, v2⟩ := read_wd hq pq
  unfold Ieee.Format.order
  rw [r1, r2]
  show some (compare (signed (decide (p < 0)) m (-1074 + (u : Int) - min (-1074 + (u : Int)) (-1074 + (v : Int))).toNat) (signed (decide (q < 0)) n (-1074 + (v : Int) - min (-1074 + (u : Int)) (-1074 + (v : Int))).toNat)) = _
  have hb : -4194304 ≤ min (-1074 + (u : Int)) (-1074 + (v : Int)) := by omega
  have s1 := signed_pw (decide (p < 0)) m (-1074 + (u : Int) - min (-1074 + (u : Int)) (-1074 + (v : Int))).toNat (i := -1074 + (u : Int)) (base := min (-1074 + (u : Int)) (-1074 + (v : Int))) (by omega) hb
  have s2 := signed_pw (decide (q < 0)) n (-1074 + (v : Int) - min (-1074 + (u : Int)) (-1074 + (v : Int))).toNat (i := -1074 + (v : Int)) (base := min (-1074 + (u : Int)) (-1074 + (v : Int))) (by omega) hb
  rw [v1, v2, ← s1, ← s2, cmp_mul (pw_pos _)]
/-- An int that is a float, as Go's floats. -/
theorem int_wd {n : Int} {r : Nat} (h : (n.natAbs : Int) * pw 0 = vS r) (hr : (r : Int) < 9218868437227405312) : FloatKind.f64.nearest n = wd (patS (decide (n < 0)) r) := by
  by_cases h0 : n = 0
  · subst h0
    have hz : vS r = vS 0 := by rw [← h, vS_zero]; simp
    have : r = 0 := by
      rcases Nat.eq_zero_or_pos r with h1 | h1
      · exact h1
      · have := vS_lt h1; omega
    subst this
    rfl
  · have hn : n.natAbs ≠ 0 := by omega
    obtain ⟨r0, left, hR, e⟩ := nearest_rung (decide (n < 0)) hn (place := 0) (by decide)
    have hR2 : Rung (vS r) r 0 := by
      have h1 := vS_lt (show r < r + 1 by omega)
      refine ⟨by omega, by omega, by simp, ?_, ?_, ?_⟩ <;> constructor <;> intro h <;> omega
    rw [h] at hR
    obtain ⟨e1, e2⟩ := hR.unique hR2
    subst e1 e2
    have e3 : rTo 0 (decide (n < 0)) r0 0 = (r0 : Int) := by
      unfold rTo
      rw [if_pos hr, if_neg (fun c => rUp_left c)]
      omega
    rw [e3] at e
    rw [← wd_word (by omega) (by omega), ← e]
    rfl
theorem k_mulS (m k : Nat) (q : Int) : ((m * 2 ^ k : Nat) : Int) * q = (m : Int) * (2 ^ k * q) := by
  rw [Int.natCast_mul, Int.mul_assoc]
  congr 2
theorem small_rung {m : Nat} (h : m < 9007199254740992) : ∃ r : Nat, (m : Int) * pw 0 = vS r ∧ (r : Int) < 9218868437227405312 := by
  by_cases h0 : m = 0
  · exact ⟨0, by rw [h0, vS_zero]; simp, by decide⟩
  obtain ⟨b1, b2, b3, b4⟩ := M.bitLen_spec m (Nat.lt_trans h (by decide)) h0
  have e53 : (2 : Nat) ^ 53 = 9007199254740992 := by decide
  have e52 : (2 : Nat) ^ 52 = 4503599627370496 := by decide
  have hb : Lib.bitLen m ≤ 53 := by
    have := (Nat.pow_lt_pow_iff_right (by decide : 1 < 2)).1 (Nat.lt_of_le_of_lt b1 (show m < 2 ^ 53 by omega))
    omega
  obtain ⟨L, hL⟩ : ∃ L, Lib.bitLen m = L := ⟨_, rfl⟩
  rw [hL] at b1 b2 b3 hb
  obtain ⟨d, hd⟩ : ∃ d, 53 = L + d := ⟨53 - L, by omega⟩
  have n1 : 4503599627370496 ≤ m * 2 ^ d := by
    have := Nat.mul_le_mul_right (2 ^ d) b1
    rw [← Nat.pow_add, show L - 1 + d = 52 by omega, e52] at this
    exact this
  have n2 : m * 2 ^ d < 9007199254740992 := by
    have := Nat.mul_lt_mul_of_pos_right b2 (Nat.two_pow_pos d)
    rw [← Nat.pow_add, ← hd, e53] at this
    exact this
  have hV := V_parts Ieee.double (1074 - d) (m * 2 ^ d) (.inr ⟨by rw [dBin]; exact n1, by rw [dBin]; omega⟩)
  rw [dBin] at hV
  have e : m * 2 ^ d * 2 ^ (1074 - d) = m * 2 ^ 1074 := by
    rw [Nat.mul_assoc, ← Nat.pow_add, show d + (1074 - d) = 1074 by omega]
  rw [e] at hV
  refine ⟨(1074 - d) * 4503599627370496 + m * 2 ^ d, ?_, by omega⟩
  unfold vS
  rw [hV]
  have hp : pw 0 = 2 ^ (0 - (-1074) : Int).toNat * pw (-1074) := pw_sub (by decide) (by decide)
  rw [hp, show (0 - (-1074) : Int).toNat = 1074 by decide]
  exact (k_mulS _ _ _).symm
end Go.Proofs.YtjlmpgbadgkgmaaGreatDoor

/-
  Package eft: told, TwoSum, TwoDiff, Split, math.Abs, by their contracts.
-/
namespace Go.Proofs.YtjlmpgbadgkgmaaGreatDoor
open Go Go.RowKit Go.Proofs.YtjlmpgbadgkgmaaGreatDoor.M Ieee
set_option linter.unusedSimpArgs false
set_option linter.unusedVariables false

theorem FW.rng {p : Int} {x : Nat} (h : FW p x) : M.rng p := by
  rcases h with ⟨_, h, _⟩ | ⟨rfl, _⟩
  · exact h
  · exact nan_rng
theorem neg_sign {p : Int} (hp : M.rng p) (h4 : ¬ cls p = 4) : decide (M.neg p < 0) = !decide (p < 0) ∧ rg (M.neg p) = rg p ∧ ¬ cls (M.neg p) = 4 := by
  have h0 : 0 ≤ rg p ∧ rg p < 9223372036854775808 := by unfold rg; unfold M.rng at hp; split <;> omega
  have e : rg (M.neg p) = rg p ∧ decide (M.neg p < 0) = !decide (p < 0) := by
    unfold M.neg rg
    rw [if_neg h4]
    unfold M.rng at hp
    by_cases c : p < 0
    · rw [if_pos c, decide_eq_true c, if_neg (by omega)]
      exact ⟨by rw [if_pos c], decide_eq_false (by omega)⟩
    · rw [if_neg c, decide_eq_false c, if_pos (by omega)]
      exact ⟨by rw [if_neg c]; omega, decide_eq_true (by omega)⟩
  refine ⟨e.2, e.1, fun c => ?_⟩
  have := (cls_rg (neg_rng hp)).1.1 c
  rw [e.1] at this
  exact h4 ((cls_rg hp).1.2 this)
theorem self_pat {p : Int} (hp : M.rng p) : fsum p (M.neg p) = if pok p then 0 else 9221120237041090561 := by
  by_cases c4 : cls p = 4
  · have : pok p = false := by
      cases h : pok p
      · rfl
      · exact absurd c4 (fin_cls hp h).1
    rw [this]
    unfold fsum
    rw [if_pos (.inl c4)]
    rfl
  · obtain ⟨s1, s2, s3⟩ := neg_sign hp c4
    cases h : pok p
    · have hi : rg p = 9218868437227405312 := by
        by_cases c : rg p = 9218868437227405312
        · exact c
        · rw [pok_of hp c4 c] at h; cases h
      unfold fsum
      rw [if_neg (fun c => c.elim c4 s3), if_pos hi, if_pos ⟨by rw [s2]; exact hi, by rw [s1]; cases decide (p < 0) <;> decide⟩]
      rfl
    · obtain ⟨n1, n2, n3⟩ := neg_facts hp h
      unfold fsum
      rw [if_neg (fun c => c.elim c4 s3), if_neg (fin_cls hp h).2, if_neg (by rw [s2]; exact (fin_cls hp h).2), patV_iV hp h, patV_iV n1 n2, n3, if_pos (by rw [← Int.add_mul, Int.add_right_neg, Int.zero_mul]), s1]
      cases decide (p < 0) <;> rfl
theorem order_zero : Ieee.double.order 0 0 = some .eq := by decide +kernel
theorem self_order {p : Int} {z : Nat} (hp : M.rng p) (hz : FW (fsum p (M.neg p)) z) : (Ieee.double.order z 0 == some Ordering.eq) = pok p := by
  rw [self_pat hp] at hz
  cases h : pok p
  · rw [h] at hz
    obtain ⟨s, t, e⟩ := hz.read_nan nan_canon
    unfold Ieee.Format.order
    rw [e]
    rfl
  · rw [h] at hz
    obtain ⟨_, e, _⟩ := hz.of (by decide)
    have : z = 0 := by rw [e]; decide
    rw [this, order_zero]
    rfl
set_option maxRecDepth 100000 in
set_option maxHeartbeats 1000000 in
theorem etold_any {p q : Int} {x y : Nat} (hx : FW p x) (hy : FW q y) (w : World) :
    Calls Tryz.prog 85 #[.float .f64 x, .float .f64 y] w fun e w' => e = .returned (.tuple #[.int .i64 p, .int .i64 q, .bool (pok q)]) ∧ Below w.heap.size w w' := by
  have C1 := fun W => of_FW hx W
  have C2 := fun W => of_FW hy W
  obtain ⟨z1, w1, e1, f1, d1⟩ := run_fdiff (P := Tryz.prog) 88 hy hy w
  have B1 : Hid (Below w.heap.size w w1) := stay_b d1
  have HO : (Ieee.double.order z1 0 == some Ordering.eq) = pok q := self_order hy.rng f1
  clear d1 f1 hx hy
  generalize pok q = R at HO ⊢
  go_enter Tryz.func85, Tryz.ntmps85
  go_wp2_with fail
  refine (C1 _).mono ?_
  rintro _ _ ⟨rfl, rfl⟩
  go_wp2_with fail
  refine (C2 _).mono ?_
  rintro _ _ ⟨rfl, rfl⟩
  have HO2 : (FloatKind.f64.format.order z1 0 == some Ordering.eq) = R := HO
  go_wp2
  refine bodyPost_ret (v := .tuple #[.int .i64 p, .int .i64 q, .bool R]) (by simp [results, Tryz.results85, go_sem, HO2]) rfl ⟨rfl, B1.out⟩
set_option maxRecDepth 100000 in
set_option maxHeartbeats 1000000 in
theorem twoSum_any {a b : Int} (ha : M.rng a) (hb : M.rng b) (w : World) :
    Calls Tryz.prog 67 #[.int .i64 a, .int .i64 b] w fun e w' => e = .returned (.tuple #[.int .i64 (fsum (told a) (told b)), .int .i64 (sL (told a) (told b)), .bool (pok (sL (told a) (told b)))]) ∧ Below w.heap.size w w' := by
  have C1 := fun W => bitsFloat a W
  have C2 := fun W => bitsFloat b W
  have FA : Hid (FW (told a) (wd a)) := wd_told ha
  have FB : Hid (FW (told b) (wd b)) := wd_told hb
  generalize told a = p at *
  generalize told b = q at *
  generalize wd a = x at *
  generalize wd b = y at *
  go_enter Tryz.func67, Tryz.ntmps67
  go_wp2_with fail
  refine (C1 _).mono ?_
  rintro _ _ ⟨rfl, rfl⟩
  go_wp2_with fail
  refine (C2 _).mono ?_
  rintro _ _ ⟨rfl, rfl⟩
  go_wp2_with fail
  refine (esum_any FA.out FB.out _).mono ?_
  rintro _ w1 ⟨z, u, rfl, g1, g2, b1⟩
  have G1 : Hid (FW (fsum p q) z) := g1
  have G2 : Hid (FW (sL p q) u) := g2
  clear g1 g2
  go_wp2_with fail
  refine (etold_any G1.out G2.out _).mono ?_
  rintro _ w2 ⟨rfl, b2⟩
  go_wp2
  refine bodyPost_ret (v := .tuple #[.int .i64 (fsum p q), .int .i64 (sL p q), .bool (pok (sL p q))]) (by simp [results, Tryz.results67, go_sem]) rfl ⟨rfl, bel_trans b1 b2⟩
end Go.Proofs.YtjlmpgbadgkgmaaGreatDoor

/-
  Package eft: math.Abs, FastTwoSum, reachable, TwoProd, by their contracts.
-/
namespace Go.Proofs.YtjlmpgbadgkgmaaGreatDoor
open Go Go.RowKit Go.Proofs.YtjlmpgbadgkgmaaGreatDoor.M Ieee
set_option linter.unusedSimpArgs false
set_option linter.unusedVariables false

theorem bits_andNotU (x y : Int) : bits .andNot .u64 x y = IntKind.u64.wrap (((x % 18446744073709551616).toNat &&& (18446744073709551615 - (y % 18446744073709551616).toNat) : Nat) : Int) := by
  show IntKind.u64.wrap (((BitVec.ofInt 64 x &&& ~~~ BitVec.ofInt 64 y).toNat : Nat) : Int) = _
  rw [BitVec.toNat_and, BitVec.toNat_not, ofInt64_toNat, ofInt64_toNat]
theorem abs_word {p : Int} (hp : M.rng p) : bits .andNot .u64 ((wd p : Nat) : Int) 9223372036854775808 = ((wd (rg p) : Nat) : Int) := by
  rw [bits_andNotU, show (18446744073709551615 - ((9223372036854775808 : Int) % 18446744073709551616).toNat) = 2 ^ 63 - 1 from by decide, IntKind.wrap_u64, Nat.and_two_pow_sub_one_eq_mod]
  unfold wd rg M.rng at *
  have e : (2 : Nat) ^ 63 = 9223372036854775808 := by decide
  rw [e]
  split <;> omega
set_option maxRecDepth 100000 in
theorem mabs_any {p : Int} (hp : M.rng p) (w : World) :
    Calls Tryz.prog 91 #[.float .f64 (wd p)] w fun e w' => e = .returned (.float .f64 (wd (rg p))) ∧ w' = w := by
  have h1 := run_from64
  have h2 := run_bits64
  have h3 := abs_word hp
  generalize wd (rg p) = z at *
  generalize wd p = x at *
  go_enter Tryz.func91, Tryz.ntmps91
  go_wp2
  go_ret
  exact ⟨by simp, rfl⟩
theorem rg_facts {p : Int} (hp : M.rng p) (h : pok p = true) : M.rng (rg p) ∧ pok (rg p) = true ∧ iV (rg p) = ((iV p).natAbs : Int) := by
  have h1 := (pok_rg hp).1 h
  have h0 : 0 ≤ rg p := by unfold rg; unfold M.rng at hp; split <;> omega
  have e : rg p = patS false (rg p) := rfl
  obtain ⟨a, b, c⟩ := patS_parts (ng := false) h0 (by omega)
  rw [← e] at a
  refine ⟨a, ?_, ?_⟩
  · rw [e, patS_fin h0 (by omega)]; exact decide_eq_true h1
  · rw [iV_abs]
    have := iV_patS (ng := false) h0 (show rg p ≤ 9218868437227405312 by omega)
    rw [← e] at this
    rw [this]
    rfl
theorem cmp_iV {p q : Int} (hp : M.rng p) (hq : M.rng q) (pp : pok p = true) (pq : pok q = true) : Ieee.double.order (wd p) (wd q) = some (compare (iV p) (iV q)) := by
  rw [order_wd hp hq pp pq, patV_iV hp pp, patV_iV hq pq, cmp_mul (pw_pos _)]
theorem cmp_lt {a b : Int} : (some (compare a b) == some Ordering.lt) = decide (a < b) := by
  show (some (compareOfLessAndEq a b) == some Ordering.lt) = _
  unfold compareOfLessAndEq
  by_cases h1 : a < b
  · rw [if_pos h1, decide_eq_true h1]; rfl
  · rw [if_neg h1, decide_eq_false h1]
    split <;> rfl
theorem abs_order {p q : Int} (hp : M.rng p) (hq : M.rng q) (pp : pok p = true) (pq : pok q = true) : (Ieee.double.order (wd (rg p)) (wd (rg q)) == some Ordering.lt) = decide ((iV p).natAbs < (iV q).natAbs) := by
  obtain ⟨a1, a2, a3⟩ := rg_facts hp pp
  obtain ⟨b1, b2, b3⟩ := rg_facts hq pq
  rw [cmp_iV a1 b1 a2 b2, cmp_lt, a3, b3]
  congr 1
  apply propext
  omega
theorem told_fin {a : Int} (h : pok (told a) = true) : told a = a := by
  unfold told at *
  by_cases c : cls a = 4
  · rw [if_pos c, nan_no] at h; cases h
  · rw [if_neg c]
theorem FW.fin {p : Int} {x : Nat} (h : FW p x) (g : pok p = true) : x = wd p := by
  rcases h with ⟨_, _, h⟩ | ⟨rfl, _⟩
  · exact h
  · rw [nan_no] at g; cases g
set_option maxRecDepth 100000 in
set_option maxHeartbeats 2000000 in
theorem fastTwoSum_any {a b : Int} (ha : M.rng a) (hb : M.rng b) (w : World) :
    Calls Tryz.prog 71 #[.int .i64 a, .int .i64 b] w fun e w' => e = .returned (.tuple #[.int .i64 (fsum (told a) (told b)), .int .i64 (fL (told a) (told b)), .bool (fX (told a) (told b))]) ∧ Below w.heap.size w w' := by
  have C1 := fun W => bitsFloat a W
  have C2 := fun W => bitsFloat b W
  have FA : Hid (FW (told a) (wd a)) := wd_told ha
  have FB : Hid (FW (told b) (wd b)) := wd_told hb
  generalize told a = p at *
  generalize told b = q at *
  generalize wd a = x at *
  generalize wd b = y at *
  obtain ⟨X, hX0⟩ : ∃ X, fX p q = X := ⟨_, rfl⟩
  have HX : Hid (fX p q = X) := hX0
  rw [hX0]
  clear hX0
  go_enter Tryz.func71, Tryz.ntmps71
  go_wp2_with fail
  refine (C1 _).mono ?_
  rintro _ _ ⟨rfl, rfl⟩
  go_wp2_with fail
  refine (C2 _).mono ?_
  rintro _ _ ⟨rfl, rfl⟩
  go_wp2_with fail
  refine (efast_any FA.out FB.out _).mono ?_
  rintro _ w1 ⟨z, u, rfl, g1, g2, b1⟩
  have G1 : Hid (FW (fsum p q) z) := g1
  have G2 : Hid (FW (fL p q) u) := g2
  clear g1 g2 C1 C2
  go_wp2_with fail
  refine (etold_any G1.out G2.out _).mono ?_
  rintro _ w2 ⟨rfl, b2⟩
  have hb2 := bel_trans b1 b2
  have hp := FA.out.rng
  have hq := FB.out.rng
  cases hl : pok (fL p q)
  · have hx : X = false := by rw [← HX.out]; unfold fX; rw [hl]; rfl
    subst hx
    clear HX
    clear G1 G2 FA FB hp hq
    go_wp2
    all_goals refine bodyPost_ret (v := .tuple #[.int .i64 (fsum p q), .int .i64 (fL p q), .bool false]) (by simp [results, Tryz.results71, go_sem]) rfl ⟨rfl, hb2⟩
  · obtain ⟨⟨pp, pq⟩, ph⟩ := fL_args hp hq hl
    have ex := FA.out.fin pp
    have ey := FB.out.fin pq
    have eu := G2.out.fin hl
    subst ex ey eu
    have A1 := fun W => mabs_any hp W
    have A2 := fun W => mabs_any hq W
    have HO : (FloatKind.f64.format.order (wd (rg p)) (wd (rg q)) == some Ordering.lt) = decide ((iV p).natAbs < (iV q).natAbs) := abs_order hp hq pp pq
    by_cases c : (iV p).natAbs < (iV q).natAbs
    · have hc := fsum_comm hp hq pp pq
      obtain ⟨k1, k2⟩ := fL_fin hq hp pq pp (by rw [← hc]; exact ph) (by omega)
      have hfl : M.rng (fL p q) := by unfold fL; exact fsum_rng hq (neg_rng (fsum_rng (fsum_rng hp hq) (neg_rng hp)))
      have hfl2 : M.rng (fL q p) := by unfold fL; exact fsum_rng hp (neg_rng (fsum_rng (fsum_rng hq hp) (neg_rng hq)))
      have HE : (FloatKind.f64.format.order (wd (fL p q)) (wd (fL q p)) == some Ordering.eq) = decide (iV (fL p q) = iV (fL q p)) := by
        show (Ieee.double.order (wd (fL p q)) (wd (fL q p)) == some Ordering.eq) = _
        rw [cmp_iV hfl hfl2 hl k1, cmp_eq]
      have hx : X = decide (iV (fL p q) = iV (fL q p)) := by rw [← HX.out]; unfold fX; rw [hl, decide_eq_true c]; rfl
      rw [← hx] at HE
      clear HX hx
      rw [decide_eq_true c] at HO
      have K1 : Hid (pok (fL q p) = true) := k1
      clear hc k2 G1 hfl hfl2
      generalize wd (rg p) = xa at *
      generalize wd (rg q) = ya at *
      go_wp2_with fail
      refine (A1 _).mono ?_
      rintro _ _ ⟨rfl, rfl⟩
      go_wp2_with fail
      refine (A2 _).mono ?_
      rintro _ _ ⟨rfl, rfl⟩
      go_wp2_with fail
      refine (efast_any FB.out FA.out _).mono ?_
      rintro _ w3 ⟨z3, u3, rfl, g3, g4, b3⟩
      have e4 := g4.fin K1.out
      subst e4
      have hb3 := bel_trans hb2 b3
      clear g3 g4
      go_wp2
      all_goals refine bodyPost_ret (v := .tuple #[.int .i64 (fsum p q), .int .i64 (fL p q), .bool X]) (by simp [results, Tryz.results71, go_sem, HE]) rfl ⟨rfl, hb3⟩
    · have hx : X = true := by rw [← HX.out]; unfold fX; rw [hl, decide_eq_false c]; rfl
      subst hx
      clear HX
      rw [decide_eq_false c] at HO
      clear G1
      generalize wd (rg p) = xa at *
      generalize wd (rg q) = ya at *
      go_wp2_with fail
      refine (A1 _).mono ?_
      rintro _ _ ⟨rfl, rfl⟩
      go_wp2_with fail
      refine (A2 _).mono ?_
      rintro _ _ ⟨rfl, rfl⟩
      go_wp2
      all_goals refine bodyPost_ret (v := .tuple #[.int .i64 (fsum p q), .int .i64 (fL p q), .bool true]) (by simp [results, Tryz.results71, go_sem]) rfl ⟨rfl, hb2⟩
end Go.Proofs.YtjlmpgbadgkgmaaGreatDoor
namespace Go.Proofs.YtjlmpgbadgkgmaaGreatDoor
open Go Go.RowKit Go.Proofs.YtjlmpgbadgkgmaaGreatDoor.M Ieee
set_option linter.unusedSimpArgs false
set_option linter.unusedVariables false
set_option maxRecDepth 100000 in
theorem tzero_any (mag : Int) (h0 : 0 < mag) (h : mag < 9223372036854775808) (w : World) (hT : b_Tab w) :
    Calls Tryz.prog 32 #[.int .u64 mag] w fun e w' => e = .returned (.int .i64 (jz mag)) ∧ w' = w := by
  go_enter Tryz.func32, Tryz.ntmps32
  go_wp2_with fail
  refine (trailingI mag h0 h _ hT).mono ?_
  rintro _ _ ⟨rfl, rfl⟩
  go_wp2
  go_ret
  exact ⟨rfl, rfl⟩
set_option maxRecDepth 100000 in
theorem zeros_any (x : Int) (h0 : 0 < x) (h1 : x < 9223372036854775808) (w : World) (hT : b_Tab w) :
    Calls Tryz.prog 108 #[.int .i64 x] w fun e w' => e = .returned (.int .i64 (jz x)) ∧ w' = w := by
  have u1 : IntKind.u64.wrap x = x := by rw [IntKind.wrap_u64]; omega
  have C := fun W (T : b_Tab W) => tzero_any x h0 h1 W T
  go_enter Tryz.func108, Tryz.ntmps108
  go_wp2_with fail
  refine (C _ hT).mono ?_
  rintro _ _ ⟨rfl, rfl⟩
  go_wp2
  go_ret
  exact ⟨rfl, rfl⟩
/-- Is no bit of the product below the least float? -/
def reach (a b : Int) : Bool := decide (pmag a = 0) || decide (pmag b = 0) || decide (-1074 ≤ pexp a + jz (pmag a) + pexp b + jz (pmag b))
end Go.Proofs.YtjlmpgbadgkgmaaGreatDoor

/-
  Package eft: reachable, TwoProd, by their contracts; what reachable tells.
-/
namespace Go.Proofs.YtjlmpgbadgkgmaaGreatDoor
open Go Go.RowKit Go.Proofs.YtjlmpgbadgkgmaaGreatDoor.M Ieee
set_option linter.unusedSimpArgs false
set_option linter.unusedVariables false

set_option maxRecDepth 100000 in
set_option maxHeartbeats 2000000 in
theorem reachable_any {a b : Int} (pa : pok a = true) (pb : pok b = true) (w : World) (H : Hold4 w) :
    Calls Tryz.prog 89 #[.int .i64 a, .int .i64 b] w fun e w' => e = .returned (.bool (reach a b)) ∧ Below w.heap.size w w' := by
  have C1 := bitsPartsA a w H.lay
  have C2 : Hid (∀ W, Below w.heap.size w W → _) := fun W hb => bitsPartsA b W (H.keeps hb).lay
  have HT : Hid (∀ W, Below w.heap.size w W → b_Tab W) := fun W hb => (H.keeps hb).env.tab
  obtain ⟨a0, a1, a2, a3⟩ := pmag_in pa
  obtain ⟨b0, b1, b2, b3⟩ := pmag_in pb
  have Z1 : Hid (pmag a ≠ 0 → ∀ W, Below w.heap.size w W → Calls Tryz.prog 108 #[.int .i64 (pmag a)] W fun e w' => e = .returned (.int .i64 (jz (pmag a))) ∧ w' = W) := fun h W hb => zeros_any _ (by omega) (by omega) W (HT.out W hb)
  have Z2 : Hid (pmag b ≠ 0 → ∀ W, Below w.heap.size w W → Calls Tryz.prog 108 #[.int .i64 (pmag b)] W fun e w' => e = .returned (.int .i64 (jz (pmag b))) ∧ w' = W) := fun h W hb => zeros_any _ (by omega) (by omega) W (HT.out W hb)
  have z1 : pmag a ≠ 0 → jz (pmag a) < 63 := fun h => by obtain ⟨_, _, g, _⟩ := jz_spec (mag := pmag a) (by omega) (by omega); exact g
  have z2 : pmag b ≠ 0 → jz (pmag b) < 63 := fun h => by obtain ⟨_, _, g, _⟩ := jz_spec (mag := pmag b) (by omega) (by omega); exact g
  unfold reach
  clear HT H
  generalize jz (pmag a) = j at *
  generalize jz (pmag b) = k at *
  generalize pmag a = m at *
  generalize pmag b = n at *
  generalize pexp a = x at *
  generalize pexp b = y at *
  generalize pneg a = s at *
  generalize pneg b = t at *
  go_enter Tryz.func89, Tryz.ntmps89
  go_wp2_with fail
  refine C1.mono ?_
  rintro _ w1 ⟨rfl, g1⟩
  go_wp2_with fail
  refine (C2.out _ g1).mono ?_
  rintro _ w2 ⟨rfl, g2⟩
  have hb2 := bel_trans g1 g2
  clear C1 C2 g1 g2
  by_cases hm : m = 0
  · subst hm
    go_wp2
    all_goals go_ret
    all_goals exact ⟨by simp, hb2⟩
  · by_cases hn : n = 0
    · subst hn
      go_wp2
      all_goals go_ret
      all_goals exact ⟨by simp, hb2⟩
    · have Z1 := Z1.out hm w2 hb2
      have Z2 := Z2.out hn w2 hb2
      have j1 := z1 hm
      have k1 := z2 hn
      have u1 : IntKind.i64.wrap (x + (j : Int)) = x + j := by rw [wrap_i64_eq]; omega
      have u2 : IntKind.i64.wrap (x + (j : Int) + y) = x + j + y := by rw [wrap_i64_eq]; omega
      have u3 : IntKind.i64.wrap (x + (j : Int) + y + (k : Int)) = x + j + y + k := by rw [wrap_i64_eq]; omega
      by_cases hr : -1074 ≤ x + (j : Int) + y + (k : Int)
      · go_wp2_with (first | (go_at_call 108; first | (refine Z1.mono ?_; rintro _ _ ⟨rfl, rfl⟩) | (refine Z2.mono ?_; rintro _ _ ⟨rfl, rfl⟩)))
        all_goals go_ret
        all_goals exact ⟨by simp [hr], by first | exact hb2 | exact hb2.drew⟩
      · go_wp2_with (first | (go_at_call 108; first | (refine Z1.mono ?_; rintro _ _ ⟨rfl, rfl⟩) | (refine Z2.mono ?_; rintro _ _ ⟨rfl, rfl⟩)))
        all_goals go_ret
        all_goals exact ⟨by simp [hm, hn, hr], by first | exact hb2 | exact hb2.drew⟩
/-- What TwoProd tells as exact. -/
def pX (p q : Int) : Bool := pok (prL p q) && reach p q
set_option maxRecDepth 100000 in
set_option maxHeartbeats 2000000 in
theorem twoProd_any {a b : Int} (ha : M.rng a) (hb : M.rng b) (w : World) (H : Hold4 w) :
    Calls Tryz.prog 70 #[.int .i64 a, .int .i64 b] w fun e w' => e = .returned (.tuple #[.int .i64 (fprod (told a) (told b)), .int .i64 (prL (told a) (told b)), .bool (pX (told a) (told b))]) ∧ Below w.heap.size w w' := by
  have C1 := fun W => bitsFloat a W
  have C2 := fun W => bitsFloat b W
  have FA : Hid (FW (told a) (wd a)) := wd_told ha
  have FB : Hid (FW (told b) (wd b)) := wd_told hb
  have HH : Hid (Hold4 w) := H
  have TA : Hid (pok (told a) = true → told a = a) := told_fin
  have TB : Hid (pok (told b) = true → told b = b) := told_fin
  clear H
  generalize told a = p at *
  generalize told b = q at *
  generalize wd a = x at *
  generalize wd b = y at *
  obtain ⟨X, hX0⟩ : ∃ X, pX p q = X := ⟨_, rfl⟩
  have HX : Hid (pX p q = X) := hX0
  rw [hX0]
  clear hX0
  go_enter Tryz.func70, Tryz.ntmps70
  go_wp2_with fail
  refine (C1 _).mono ?_
  rintro _ _ ⟨rfl, rfl⟩
  go_wp2_with fail
  refine (C2 _).mono ?_
  rintro _ _ ⟨rfl, rfl⟩
  go_wp2_with fail
  refine (eprod_any FA.out FB.out _).mono ?_
  rintro _ w1 ⟨z, u, rfl, g1, g2, b1⟩
  have G1 : Hid (FW (fprod p q) z) := g1
  have G2 : Hid (FW (prL p q) u) := g2
  clear g1 g2 C1 C2
  go_wp2_with fail
  refine (etold_any G1.out G2.out _).mono ?_
  rintro _ w2 ⟨rfl, b2⟩
  have hb2 := bel_trans b1 b2
  have hp := FA.out.rng
  have hq := FB.out.rng
  cases hl : pok (prL p q)
  · have hx : X = false := by rw [← HX.out]; unfold pX; rw [hl]; rfl
    subst hx
    clear G1 G2 FA FB hp hq HX
    go_wp2
    all_goals refine bodyPost_ret (v := .tuple #[.int .i64 (fprod p q), .int .i64 (prL p q), .bool false]) (by simp [results, Tryz.results70, go_sem]) rfl ⟨rfl, hb2⟩
  · have hx : X = reach p q := by rw [← HX.out]; unfold pX; rw [hl]; rfl
    obtain ⟨⟨pQ, pS⟩, _⟩ := prL_args hp hq hl
    have pp := (spL_exact hp pQ).1
    have pq := (spL_exact hq pS).1
    have ea := TA.out pp
    have eb := TB.out pq
    have CR := reachable_any (a := p) (b := q) pp pq w2 (HH.out.keeps hb2)
    rw [← hx] at CR
    subst ea eb
    clear G1 G2 FA FB hp hq HX pQ pS pp pq hx TA TB
    go_wp2_with fail
    refine CR.mono ?_
    rintro _ w3 ⟨rfl, b3⟩
    go_wp2
    all_goals refine bodyPost_ret (v := .tuple #[.int .i64 (fprod p q), .int .i64 (prL p q), .bool X]) (by simp [results, Tryz.results70, go_sem]) rfl ⟨rfl, bel_trans hb2 b3⟩
theorem dvd_odd {s n : Nat} {t : Int} (h : (2 ^ n : Int) ∣ 2 ^ s * (2 * t + 1)) : n ≤ s := by
  rcases Nat.lt_or_ge s n with c | c
  · exfalso
    obtain ⟨d, rfl⟩ : ∃ d, n = s + 1 + d := ⟨n - s - 1, by omega⟩
    obtain ⟨e, he⟩ := h
    rw [Int.pow_add, p2s, show (2 : Int) * 2 ^ s * 2 ^ d * e = 2 ^ s * (2 * (2 ^ d * e)) by ac_rfl] at he
    have := Int.eq_of_mul_eq_mul_left (by have := p2 s; omega) he
    generalize (2 : Int) ^ d * e = f at this
    omega
  · exact c
theorem iV_form {p : Int} (hp : rng p) (h : pok p = true) : ((iV p).natAbs : Int) = pmag p * 2 ^ (pexp p + 1074).toNat := by
  have h0 := (pmag_in h).1
  rw [iV_abs, V_rg hp h, nat_two, Int.toNat_of_nonneg h0, Int.mul_comm]
theorem k_prod {a b x y X Y u v : Int} (hx : x = a * X) (hy : y = b * Y) (ha : a = u * v) : x * y = u * v * X * (b * Y) := by rw [hx, hy, ha]
theorem k_form {m : Nat} {mag : Int} {j e : Nat} (h : mag = 2 ^ j * (2 * m + 1)) : mag * 2 ^ e = 2 ^ (j + e) * (2 * (m : Int) + 1) := by
  rw [h, Int.pow_add, Int.mul_assoc, Int.mul_assoc, Int.mul_comm (2 * (m : Int) + 1)]
theorem k_form2 (i j : Nat) (a b : Int) : 2 ^ i * (2 * a + 1) * (2 ^ j * (2 * b + 1)) = 2 ^ (i + j) * (2 * (2 * a * b + a + b) + 1) := by
  have e : (2 * a + 1) * (2 * b + 1) = 2 * (2 * a * b + a + b) + 1 := by
    rw [Int.add_mul, Int.mul_add, Int.one_mul, Int.mul_one, Int.mul_add, Int.mul_add]
    have : 2 * a * (2 * b) = 2 * (2 * a * b) := by ac_rfl
    omega
  rw [← e, Int.pow_add]
  generalize 2 * a + 1 = A
  generalize 2 * b + 1 = B
  ac_rfl
theorem reach_iff {a b : Int} (ha : rng a) (hb : rng b) (pa : pok a = true) (pb : pok b = true) : reach a b = true ↔ ∃ T, 2 ^ 1074 * T = iV a * iV b := by
  have fa := iV_form ha pa
  have fb := iV_form hb pb
  obtain ⟨a0, a1, a2, a3⟩ := pmag_in pa
  obtain ⟨b0, b1, b2, b3⟩ := pmag_in pb
  unfold reach
  by_cases hm : pmag a = 0
  · rw [hm] at fa ⊢
    have : iV a = 0 := by rw [Int.zero_mul] at fa; omega
    rw [this]
    exact ⟨fun _ => ⟨0, by rw [Int.mul_zero, Int.zero_mul]⟩, fun _ => rfl⟩
  by_cases hn : pmag b = 0
  · rw [hn] at fb ⊢
    have : iV b = 0 := by rw [Int.zero_mul] at fb; omega
    rw [this]
    exact ⟨fun _ => ⟨0, by rw [Int.mul_zero, Int.mul_zero]⟩, fun _ => by simp⟩
  obtain ⟨m, m1, m2, _⟩ := jz_spec (mag := pmag a) (by omega) (by omega)
  obtain ⟨n, n1, n2, _⟩ := jz_spec (mag := pmag b) (by omega) (by omega)
  rw [decide_eq_false hm, decide_eq_false hn, Bool.false_or, Bool.false_or, decide_eq_true_iff]
  rw [k_form m1] at fa
  rw [k_form n1] at fb
  have hd : (∃ T, 2 ^ 1074 * T = iV a * iV b) ↔ (2 ^ 1074 : Int) ∣ ((iV a).natAbs : Int) * ((iV b).natAbs : Int) := by
    rw [← Int.natCast_mul, ← Int.natAbs_mul, Int.dvd_natAbs]
    exact ⟨fun ⟨T, h⟩ => ⟨T, h.symm⟩, fun ⟨T, h⟩ => ⟨T, h.symm⟩⟩
  rw [hd, fa, fb, k_form2]
  constructor
  · intro h
    exact Int.dvd_trans (p2dvd (by omega)) ⟨_, rfl⟩
  · intro h
    have := dvd_odd h
    omega
end Go.Proofs.YtjlmpgbadgkgmaaGreatDoor

/-
  Less of package bits by a contract.
-/
namespace Go.Proofs.YtjlmpgbadgkgmaaGreatDoor
open Go Go.RowKit Go.Proofs.YtjlmpgbadgkgmaaGreatDoor.M
set_option linter.unusedSimpArgs false
set_option linter.unusedVariables false

end Go.Proofs.YtjlmpgbadgkgmaaGreatDoor

/-
  plumblaw6: together, size, alive, by their contracts.
-/
namespace Go.Proofs.YtjlmpgbadgkgmaaGreatDoor
open Go Go.RowKit Go.Proofs.YtjlmpgbadgkgmaaGreatDoor.M Ieee
set_option linter.unusedSimpArgs false
set_option linter.unusedVariables false

theorem hold6_of {W : World} (h : laidMetH Tryz.prog [("math/bits.deBruijn32tab", Rows.laid_math_bits_deBruijn32tab), ("math/bits.deBruijn64tab", Rows.laid_math_bits_deBruijn64tab), ("plumb/bits.binary64", Rows.laid_plumb_bits_binary64)] W) : Hold4 W := by
  have k := hold_of h
  exact ⟨k.lay, k.tab, ⟨⟨k.lay.a0, k.lay.a1, k.lay.a2, trivial, trivial, trivial⟩, k.tab⟩⟩
theorem fin_pos {p : Int} (h0 : 0 ≤ p) (h1 : p < 9218868437227405312) : rng p ∧ pok p = true ∧ ¬ cls p = 4 ∧ rg p = p := by
  have e : p = patS false p := rfl
  obtain ⟨a, b, _⟩ := patS_parts (ng := false) h0 (by omega)
  rw [← e] at a b
  have hp : pok p = true := by rw [e, patS_fin h0 (by omega)]; exact decide_eq_true h1
  exact ⟨a, hp, (fin_cls a hp).1, b⟩
theorem abs_rg {b : Int} (h : ¬ cls b = 4) : M.abs b = rg b := by
  unfold M.abs rg
  rw [if_neg h]
theorem key_pos {p : Int} (h0 : 0 ≤ p) : key p = p := by unfold key; rw [if_neg (by omega)]
theorem size_less {b P : Int} (hb : rng b) (pb : pok b = true) (h0 : 0 ≤ P) (h1 : P < 9218868437227405312) : less (M.abs b) P = decide (rg b < P) := by
  have h4 := (fin_cls hb pb).1
  have g0 : 0 ≤ rg b ∧ rg b < 9218868437227405312 := rg_lt hb pb
  rw [abs_rg h4]
  obtain ⟨a1, a2, a3, _⟩ := fin_pos g0.1 g0.2
  obtain ⟨b1, b2, b3, _⟩ := fin_pos h0 h1
  unfold less
  rw [decide_eq_false a3, decide_eq_false b3, key_pos g0.1, key_pos h0]
  rfl
/-- Is a float finite, and below a pattern, its sign aside? -/
def szB (b P : Int) : Bool := pok b && decide (rg b < P)
end Go.Proofs.YtjlmpgbadgkgmaaGreatDoor

/-
  plumblaw6.alive, by its contract: the steps at its constants.
-/
namespace Go.Proofs.YtjlmpgbadgkgmaaGreatDoor
open Go Go.RowKit Go.Proofs.YtjlmpgbadgkgmaaGreatDoor.M Ieee
set_option linter.unusedSimpArgs false
set_option linter.unusedVariables false

theorem fw_c {p r : Int} {c : Nat} (h : FW p c) (hr : patW c = r) (hn : c % 9223372036854775808 ≤ 9218868437227405312) : p = r := by
  rcases h with ⟨_, hp, e⟩ | ⟨_, hN⟩
  · rw [← hr, e, patW_wd hp]
  · have := hN.2; omega
theorem fsum_c {p q r : Int} {x y c : Nat} (hp : FW p x) (hq : FW q y) (h : Ieee.double.add x y = some c) (hr : patW c = r) (hn : c % 9223372036854775808 ≤ 9218868437227405312) : fsum p q = r := by
  rcases add_FW hp hq with ⟨z, e, f⟩ | ⟨e, _⟩
  · rw [h] at e; cases e; exact fw_c f hr hn
  · rw [h] at e; cases e
theorem fprod_c {p q r : Int} {x y c : Nat} (hp : FW p x) (hq : FW q y) (h : Ieee.double.mul x y = some c) (hr : patW c = r) (hn : c % 9223372036854775808 ≤ 9218868437227405312) : fprod p q = r := by
  rcases mul_FW hp hq with ⟨z, e, f⟩ | ⟨e, _⟩
  · rw [h] at e; cases e; exact fw_c f hr hn
  · rw [h] at e; cases e
theorem ea_w0 : FW 4607182418800017408 4607182418800017408 := .inl ⟨by decide, by unfold rng; decide, by decide⟩
theorem ea_w1 : FW 4336966441157787648 4336966441157787648 := .inl ⟨by decide, by unfold rng; decide, by decide⟩
theorem ea_s1 : fsum 4607182418800017408 4336966441157787648 = 4607182418800017408 := fsum_c ea_w0 ea_w1 (c := 4607182418800017408) (by decide +kernel) (by decide) (by decide)
theorem ea_n4607182418800017408 : M.neg 4607182418800017408 = (-4616189618054758400) := by decide
theorem ea_w3 : FW (-4616189618054758400) 13830554455654793216 := .inl ⟨by decide, by unfold rng; decide, by decide⟩
theorem ea_s2 : fsum 4607182418800017408 (-4616189618054758400) = 0 := fsum_c ea_w0 ea_w3 (c := 0) (by decide +kernel) (by decide) (by decide)
theorem ea_n0 : M.neg 0 = (-9223372036854775808) := by decide
theorem ea_w5 : FW (-9223372036854775808) 9223372036854775808 := .inl ⟨by decide, by unfold rng; decide, by decide⟩
theorem ea_s3 : fsum 4607182418800017408 (-9223372036854775808) = 4607182418800017408 := fsum_c ea_w0 ea_w5 (c := 4607182418800017408) (by decide +kernel) (by decide) (by decide)
theorem ea_s4 : fsum 4607182418800017408 (-4616189618054758400) = 0 := fsum_c ea_w0 ea_w3 (c := 0) (by decide +kernel) (by decide) (by decide)
theorem ea_s5 : fsum 4336966441157787648 (-9223372036854775808) = 4336966441157787648 := fsum_c ea_w1 ea_w5 (c := 4336966441157787648) (by decide +kernel) (by decide) (by decide)
theorem ea_w6 : FW 0 0 := .inl ⟨by decide, by unfold rng; decide, by decide⟩
theorem ea_s6 : fsum 0 4336966441157787648 = 4336966441157787648 := fsum_c ea_w6 ea_w1 (c := 4336966441157787648) (by decide +kernel) (by decide) (by decide)
theorem ea_w7 : FW 4728779608772575232 4728779608772575232 := .inl ⟨by decide, by unfold rng; decide, by decide⟩
theorem ea_w8 : FW 4607182418800017409 4607182418800017409 := .inl ⟨by decide, by unfold rng; decide, by decide⟩
theorem ea_s7 : fprod 4728779608772575232 4607182418800017409 = 4728779608772575233 := fprod_c ea_w7 ea_w8 (c := 4728779608772575233) (by decide +kernel) (by decide) (by decide)
theorem ea_n4607182418800017409 : M.neg 4607182418800017409 = (-4616189618054758399) := by decide
theorem ea_w10 : FW 4728779608772575233 4728779608772575233 := .inl ⟨by decide, by unfold rng; decide, by decide⟩
theorem ea_w11 : FW (-4616189618054758399) 13830554455654793217 := .inl ⟨by decide, by unfold rng; decide, by decide⟩
theorem ea_s8 : fsum 4728779608772575233 (-4616189618054758399) = 4728779608739020801 := fsum_c ea_w10 ea_w11 (c := 4728779608739020801) (by decide +kernel) (by decide) (by decide)
theorem ea_n4728779608739020801 : M.neg 4728779608739020801 = (-4494592428115755007) := by decide
theorem ea_w13 : FW (-4494592428115755007) 13952151645593796609 := .inl ⟨by decide, by unfold rng; decide, by decide⟩
theorem ea_s9 : fsum 4728779608772575233 (-4494592428115755007) = 4607182418800017408 := fsum_c ea_w10 ea_w13 (c := 4607182418800017408) (by decide +kernel) (by decide) (by decide)
theorem ea_s10 : fsum 4607182418800017409 (-4616189618054758400) = 4372995238176751616 := fsum_c ea_w8 ea_w3 (c := 4372995238176751616) (by decide +kernel) (by decide) (by decide)
theorem ea_s11 : fprod 4607182418800017409 4607182418800017409 = 4607182418800017410 := fprod_c ea_w8 ea_w8 (c := 4607182418800017410) (by decide +kernel) (by decide) (by decide)
theorem ea_s12 : fprod 4607182418800017408 4607182418800017408 = 4607182418800017408 := fprod_c ea_w0 ea_w0 (c := 4607182418800017408) (by decide +kernel) (by decide) (by decide)
theorem ea_w14 : FW 4372995238176751616 4372995238176751616 := .inl ⟨by decide, by unfold rng; decide, by decide⟩
theorem ea_s13 : fprod 4372995238176751616 4607182418800017408 = 4372995238176751616 := fprod_c ea_w14 ea_w0 (c := 4372995238176751616) (by decide +kernel) (by decide) (by decide)
theorem ea_s14 : fprod 4607182418800017408 4372995238176751616 = 4372995238176751616 := fprod_c ea_w0 ea_w14 (c := 4372995238176751616) (by decide +kernel) (by decide) (by decide)
theorem ea_s15 : fprod 4372995238176751616 4372995238176751616 = 4138808057553485824 := fprod_c ea_w14 ea_w14 (c := 4138808057553485824) (by decide +kernel) (by decide) (by decide)
theorem ea_w15 : FW 4607182418800017410 4607182418800017410 := .inl ⟨by decide, by unfold rng; decide, by decide⟩
theorem ea_s16 : fsum 4607182418800017410 (-4616189618054758400) = 4377498837804122112 := fsum_c ea_w15 ea_w3 (c := 4377498837804122112) (by decide +kernel) (by decide) (by decide)
theorem ea_n4372995238176751616 : M.neg 4372995238176751616 = (-4850376798678024192) := by decide
theorem ea_w17 : FW 4377498837804122112 4377498837804122112 := .inl ⟨by decide, by unfold rng; decide, by decide⟩
theorem ea_w18 : FW (-4850376798678024192) 13596367275031527424 := .inl ⟨by decide, by unfold rng; decide, by decide⟩
theorem ea_s17 : fsum 4377498837804122112 (-4850376798678024192) = 4372995238176751616 := fsum_c ea_w17 ea_w18 (c := 4372995238176751616) (by decide +kernel) (by decide) (by decide)
theorem ea_s18 : fsum 4372995238176751616 (-4850376798678024192) = 0 := fsum_c ea_w14 ea_w18 (c := 0) (by decide +kernel) (by decide) (by decide)
theorem ea_w19 : FW 4138808057553485824 4138808057553485824 := .inl ⟨by decide, by unfold rng; decide, by decide⟩
theorem ea_s19 : fsum 4138808057553485824 (-9223372036854775808) = 4138808057553485824 := fsum_c ea_w19 ea_w5 (c := 4138808057553485824) (by decide +kernel) (by decide) (by decide)
theorem ea_sV : sV 4607182418800017408 4336966441157787648 = 0 := by unfold sV; simp only [ea_s1, ea_n4607182418800017408, ea_s2]
theorem ea_sL : sL 4607182418800017408 4336966441157787648 = 4336966441157787648 := by unfold sL; simp only [ea_sV, ea_s1, ea_n0, ea_s3, ea_n4607182418800017408, ea_s4, ea_s5, ea_s6]
theorem ea_cC : cC 4607182418800017409 = 4728779608772575233 := by unfold cC; simp only [ea_s7]
theorem ea_spH : spH 4607182418800017409 = 4607182418800017408 := by unfold spH; simp only [ea_cC, ea_n4607182418800017409, ea_s8, ea_n4728779608739020801, ea_s9]
theorem ea_spL : spL 4607182418800017409 = 4372995238176751616 := by unfold spL; simp only [ea_spH, ea_n4607182418800017408, ea_s10]
theorem ea_m : fprod 4607182418800017409 4607182418800017409 = 4607182418800017410 := ea_s11
theorem ea_T1 : pT1 4607182418800017409 4607182418800017409 = 4377498837804122112 := by unfold pT1; simp only [ea_spH, ea_s11, ea_s12, ea_n4607182418800017408, ea_s16]
theorem ea_T2 : pT2 4607182418800017409 4607182418800017409 = 4372995238176751616 := by unfold pT2; simp only [ea_T1, ea_spL, ea_spH, ea_s13, ea_n4372995238176751616, ea_s17]
theorem ea_T3 : pT3 4607182418800017409 4607182418800017409 = 0 := by unfold pT3; simp only [ea_T2, ea_spL, ea_spH, ea_s14, ea_n4372995238176751616, ea_s18]
theorem ea_prL : prL 4607182418800017409 4607182418800017409 = 4138808057553485824 := by unfold prL; simp only [ea_T3, ea_spL, ea_s15, ea_n0, ea_s19]
theorem ea_reach : pX 4607182418800017409 4607182418800017409 = true := by unfold pX; rw [ea_prL]; decide +kernel
theorem ea_told {p : Int} (h : ¬ cls p = 4) : told p = p := by unfold told; rw [if_neg h]
end Go.Proofs.YtjlmpgbadgkgmaaGreatDoor

/-
  EftHonest: what the steps tell as exact, as the law asks for it.
-/
namespace Go.Proofs.YtjlmpgbadgkgmaaGreatDoor
open Go Go.RowKit Go.Proofs.YtjlmpgbadgkgmaaGreatDoor.M Ieee
set_option linter.unusedSimpArgs false
set_option linter.unusedVariables false

theorem class6 {b : Int} (w : World) (H : Hold4 w) : Calls Tryz.prog 84 #[.int .i64 b] w fun e w' => e = .returned (.int .i64 (cls b)) ∧ Below w.heap.size w w' := by
  refine (bitsClass b w H.env.lays).mono ?_
  rintro e w' ⟨h, g⟩
  exact ⟨h, g.be⟩
theorem cls_big {b : Int} (h : pok b = false) : 2 < cls b := by
  unfold pok at h; unfold cls; rw [if_pos (by simpa using h)]; split <;> decide
theorem cls_few {b : Int} (h : pok b = true) : ¬ 2 < cls b := by
  unfold pok at h; unfold cls; rw [if_neg (by simpa using h)]
  split
  · split <;> decide
  · decide
theorem told_rng {a : Int} (h : M.rng a) : M.rng (told a) := by
  unfold told; split
  · exact nan_rng
  · exact h
theorem told_ok {a : Int} (h : pok a = true) (ha : M.rng a) : told a = a := by
  unfold told; rw [if_neg (fin_cls ha h).1]
theorem told_pok {a : Int} (h : pok (told a) = true) : pok a = true := by
  rw [told_fin h] at h; exact h
/-- The answer of together. -/
def tgB (h l V : Int) : Bool := pok h && (pok l && decide (patV h + patV l = V))
theorem no_sum {a b : Int} (ha : M.rng a) (hb : M.rng b) (h : pok a = false ∨ pok b = false) : pok (sL (told a) (told b)) = false ∧ fX (told a) (told b) = false ∧ pX (told a) (told b) = false := by
  have key : pok (told a) = true ∧ pok (told b) = true → False := fun ⟨x, y⟩ => by
    have x := told_pok x
    have y := told_pok y
    rcases h with c | c
    · rw [x] at c; cases c
    · rw [y] at c; cases c
  have ra := told_rng ha
  have rb := told_rng hb
  refine ⟨?_, ?_, ?_⟩
  · cases g : pok (sL (told a) (told b))
    · rfl
    · exact (key (sL_exact ra rb g).1).elim
  · unfold fX
    cases g : pok (fL (told a) (told b))
    · rfl
    · exact (key (fL_args ra rb g).1).elim
  · unfold pX
    cases g : pok (prL (told a) (told b))
    · rfl
    · obtain ⟨⟨pQ, pS⟩, _⟩ := prL_args ra rb g
      exact (key ⟨(spL_exact ra pQ).1, (spL_exact rb pS).1⟩).elim
theorem k_eqS {a b c d q : Int} (hq : 0 < q) : decide (a * q + b * q = c * q + d * q) = decide (a + b = c + d) := by
  congr 1
  apply propext
  rw [← Int.add_mul, ← Int.add_mul]
  exact ⟨fun h => Int.eq_of_mul_eq_mul_right (Int.ne_of_gt hq) h, fun h => by rw [h]⟩
theorem sL_rng {p q : Int} (hp : M.rng p) (hq : M.rng q) : M.rng (sL p q) := by
  have rh := fsum_rng hp hq
  have rv : M.rng (sV p q) := fsum_rng rh (neg_rng hp)
  exact fsum_rng (fsum_rng hp (neg_rng (fsum_rng rh (neg_rng rv)))) (fsum_rng hq (neg_rng rv))
theorem fL_rng {p q : Int} (hp : M.rng p) (hq : M.rng q) : M.rng (fL p q) := fsum_rng hq (neg_rng (fsum_rng (fsum_rng hp hq) (neg_rng hp)))
theorem sp_rng {p : Int} (hp : M.rng p) : M.rng (spH p) ∧ M.rng (spL p) := by
  have rc : M.rng (cC p) := fprod_rng spl_rng hp
  have rd := fsum_rng rc (neg_rng hp)
  have rH : M.rng (spH p) := fsum_rng rc (neg_rng rd)
  exact ⟨rH, fsum_rng hp (neg_rng rH)⟩
theorem prL_rng {p q : Int} (hp : M.rng p) (hq : M.rng q) : M.rng (prL p q) := by
  obtain ⟨rP, rQ⟩ := sp_rng hp
  obtain ⟨rR, rS⟩ := sp_rng hq
  have rT1 : M.rng (pT1 p q) := fsum_rng (fprod_rng hp hq) (neg_rng (fprod_rng rP rR))
  have rT2 : M.rng (pT2 p q) := fsum_rng rT1 (neg_rng (fprod_rng rQ rR))
  have rT3 : M.rng (pT3 p q) := fsum_rng rT2 (neg_rng (fprod_rng rP rS))
  exact fsum_rng (fprod_rng rQ rS) (neg_rng rT3)
theorem hon_sum {a b : Int} (ha : M.rng a) (hb : M.rng b) (pa : pok a = true) (pb : pok b = true) : pok (sL a b) = tgB (fsum a b) (sL a b) (patV a + patV b) := by
  unfold tgB
  cases g : pok (sL a b)
  · simp
  · obtain ⟨_, ph, e⟩ := sL_exact ha hb g
    rw [ph, patV_iV (fsum_rng ha hb) ph, patV_iV (sL_rng ha hb) g, patV_iV ha pa, patV_iV hb pb, k_eqS (pw_pos _), decide_eq_true e]
    rfl
theorem hon_fast {a b : Int} (ha : M.rng a) (hb : M.rng b) (pa : pok a = true) (pb : pok b = true) : fX a b = tgB (fsum a b) (fL a b) (patV a + patV b) := by
  unfold tgB
  cases g : pok (fL a b)
  · unfold fX; rw [g]; simp
  · obtain ⟨_, ph⟩ := fL_args ha hb g
    rw [fX_iff ha hb g, ph, patV_iV (fsum_rng ha hb) ph, patV_iV (fL_rng ha hb) g, patV_iV ha pa, patV_iV hb pb, k_eqS (pw_pos _)]
    rfl
theorem k_prodE {x y m l C u Z k w : Int} (hZ : 0 < Z) (hu : 0 < u) (e2 : w * w = u * Z) (e3 : w = u * k) (hC : C * Z = x * w * (y * w)) : (m * w + l * w = C) ↔ (k * (m + l) = x * y) := by
  have h1 : C = x * y * u := by
    have : x * w * (y * w) = x * y * u * Z := by
      rw [show x * w * (y * w) = x * y * (w * w) by ac_rfl, e2]; ac_rfl
    rw [this] at hC
    exact Int.eq_of_mul_eq_mul_right (Int.ne_of_gt hZ) hC
  rw [h1, e3, ← Int.add_mul, show (m + l) * (u * k) = k * (m + l) * u by ac_rfl]
  exact ⟨fun h => Int.eq_of_mul_eq_mul_right (Int.ne_of_gt hu) h, fun h => by rw [h]⟩
theorem hon_prod {a b C : Int} (ha : M.rng a) (hb : M.rng b) (pa : pok a = true) (pb : pok b = true) (hC : C * 2 ^ 4194304 = patV a * patV b) : pX a b = tgB (fprod a b) (prL a b) C := by
  unfold tgB pX
  cases g : pok (prL a b)
  · simp
  · have ph := (prL_args ha hb g).2.1
    have e2 := pw_mul (a := -1074) (b := -1074) (by decide) (by decide)
    rw [show (-1074 + -1074 : Int) = -2148 by decide] at e2
    have e3 := pw_add (e := -2148) (by decide) 1074
    rw [show (-2148 + ((1074 : Nat) : Int)) = -1074 by decide] at e3
    rw [patV_iV ha pa, patV_iV hb pb] at hC
    rw [ph, patV_iV (fprod_rng ha hb) ph, patV_iV (prL_rng ha hb) g, Bool.true_and, Bool.true_and, Bool.true_and]
    have hk := k_prodE (m := iV (fprod a b)) (l := iV (prL a b)) (two_pos 4194304) (pw_pos (-2148)) e2 e3 hC
    have hr := reach_iff ha hb pa pb
    cases r : reach a b
    · refine (decide_eq_false fun c => ?_).symm
      rw [hr.2 ⟨_, hk.1 c⟩] at r
      cases r
    · refine (decide_eq_true (hk.2 ?_)).symm
      obtain ⟨T, hT⟩ := hr.1 r
      rw [(prL_exact ha hb g hT).2.2]
      exact hT
end Go.Proofs.YtjlmpgbadgkgmaaGreatDoor

/-
  Points: plain mathematics of coordinates: finite ones, their order, tame ones. No Go text in sight.
-/
namespace Go.Proofs.YtjlmpgbadgkgmaaGreatDoor.M
open Go Ieee
set_option linter.unusedSimpArgs false
set_option linter.unusedVariables false

theorem q_rg {b : Int} (h : rng b) : rng (rg b) ∧ 0 ≤ rg b := by unfold rng rg at *; split <;> omega
theorem q_cls {b : Int} (h : rng b) : cls (rg b) = cls b := by
  unfold rng at h; unfold cls rg fld frc
  by_cases h0 : b < 0
  · rw [if_pos h0, show (b + 9223372036854775808) / 4503599627370496 % 2048 = b / 4503599627370496 % 2048 from by omega, show (b + 9223372036854775808) % 4503599627370496 = b % 4503599627370496 from by omega]
  · rw [if_neg h0]
theorem q_wd {b : Int} (h : rng b) : wd b % 9223372036854775808 = wd (rg b) := by unfold rng rg wd at *; split <;> omega
theorem q_key {b : Int} (h : 0 ≤ b) : key b = b := by unfold key; rw [if_neg (by omega)]
theorem q_wdlt (b : Int) : wd b < 18446744073709551616 := by unfold wd; omega
/-- the sign bit left away, of an unsigned word -/
theorem q_abs {b : Int} (h : rng b) : (bits .andNot .u64 (wd b) 9223372036854775808).toNat = wd (rg b) := by
  have e := q_wd h
  have l := q_wdlt b
  rw [← e]
  show (IntKind.u64.wrap (((BitVec.ofInt 64 (wd b : Int) &&& ~~~ BitVec.ofInt 64 9223372036854775808).toNat : Nat) : Int)).toNat = _
  rw [BitVec.toNat_and, BitVec.toNat_not, ofInt64_toNat, ofInt64_toNat, show (2 ^ 64 - 1 - ((9223372036854775808 : Int) % 18446744073709551616).toNat) = 2 ^ 63 - 1 from by decide, Nat.and_two_pow_sub_one_eq_mod, IntKind.wrap_u64]
  omega
theorem q_fin {b : Int} (h : pok b = true) : ¬ cls b = 4 := by
  have := pparts h
  unfold cls; rw [if_neg this]; split
  · split <;> omega
  · omega
theorem q_lt {a b : Int} (ha : rng a) (hb : rng b) (h1 : ¬ cls a = 4) (h2 : ¬ cls b = 4) (h : key a < key b) : FloatKind.f64.format.order (wd a) (wd b) = some .lt := by rw [order64 ha hb h1 h2, compare_lt h]
theorem q_gt {a b : Int} (ha : rng a) (hb : rng b) (h1 : ¬ cls a = 4) (h2 : ¬ cls b = 4) (h : key b < key a) : FloatKind.f64.format.order (wd a) (wd b) = some .gt := by rw [order64 ha hb h1 h2, compare_gt h]
theorem q_eq {a b : Int} (ha : rng a) (hb : rng b) (h1 : ¬ cls a = 4) (h2 : ¬ cls b = 4) (h : key a = key b) : FloatKind.f64.format.order (wd a) (wd b) = some .eq := by rw [order64 ha hb h1 h2, compare_eq h]
/-- the order of points -/
def pcmp (ax ay bx by' : Int) : Int := if key ax = key bx then cmp (key ay) (key by') else cmp (key ax) (key bx)
theorem pcmp_any (ax ay bx by' : Int) : pcmp ax ay bx by' = -1 ∨ pcmp ax ay bx by' = 0 ∨ pcmp ax ay bx by' = 1 := by
  unfold pcmp cmp; repeat' split
  all_goals omega
theorem rng_key {b : Int} (h : rng b) : rng (key b) := by unfold rng key at *; split <;> omega
/-- tame coordinates -/
def tame (b : Int) : Bool := decide (rg b = 0) || (decide (3931642474694443008 ≤ rg b) && decide (rg b < 5282722362905591808))
theorem tame_fld {b : Int} (h : rng b) : tame b = (decide (rg b = 0) || (decide (873 ≤ fld b) && decide (fld b < 1173))) := by
  obtain ⟨h0, h1⟩ := rg_parts h
  have h2 : 0 ≤ frc b ∧ frc b < 4503599627370496 := by unfold frc; omega
  unfold tame
  congr 1
  congr 1
  · apply decide_eq_decide.2; omega
  · apply decide_eq_decide.2; omega
theorem pok_rg' {b : Int} (h : rng b) : pok b = decide (rg b ≤ 9218868437227405311) := by
  obtain ⟨h0, h1⟩ := rg_parts h
  have h2 : 0 ≤ frc b ∧ frc b < 4503599627370496 := by unfold frc; omega
  have h3 : 0 ≤ fld b ∧ fld b < 2048 := by unfold fld; omega
  unfold pok
  by_cases e : fld b = 2047
  · simp [e]; omega
  · simp [e]; omega
end Go.Proofs.YtjlmpgbadgkgmaaGreatDoor.M

/-
  Package expansion, plainly: a list that is added to, the steps of Grow and Scale.
-/
namespace Go.Proofs.YtjlmpgbadgkgmaaGreatDoor
open Go Go.RowKit Go.Proofs.YtjlmpgbadgkgmaaGreatDoor.M
set_option linter.unusedSimpArgs false
set_option linter.unusedVariables false

/-- A list: how many, and which. -/
structure Ls where
  n : Nat
  d : Nat → Int
/-- To add a float: put behind the others, unless it is a nought. -/
def Ls.add (s : Ls) (b : Int) : Ls := if rg b = 0 then s else ⟨s.n + 1, upd s.d s.n b⟩
theorem Ls.add_le (s : Ls) (b : Int) : s.n ≤ (s.add b).n ∧ (s.add b).n ≤ s.n + 1 := by
  unfold Ls.add
  split
  · exact ⟨Nat.le_refl _, Nat.le_succ _⟩
  · exact ⟨Nat.le_succ _, Nat.le_refl _⟩
/-- The same lists, as far as they go. -/
def Ls.same (s t : Ls) : Prop := s.n = t.n ∧ ∀ i, i < s.n → s.d i = t.d i
theorem Ls.same.add {s t : Ls} (h : s.same t) (b : Int) : (s.add b).same (t.add b) := by
  unfold Ls.add
  split
  · exact h
  · refine ⟨by show s.n + 1 = t.n + 1; rw [h.1], fun i hi => ?_⟩
    show upd s.d s.n b i = upd t.d t.n b i
    by_cases e : i = s.n
    · subst e; rw [upd_same, h.1, upd_same]
    · rw [upd_other _ _ e, upd_other _ _ (by rw [← h.1]; exact e)]
      exact h.2 i (by have : i < s.n + 1 := hi; omega)
/-- Grow: what was gathered so far; what a step leaves; the list so far; were all exact? -/
def gq (d : Nat → Int) (q : Int) : Nat → Int
  | 0 => q
  | k + 1 => fsum (gq d q k) (d k)
def gl (d : Nat → Int) (q : Int) (k : Nat) : Int := sL (gq d q k) (d k)
def gs (d : Nat → Int) (q : Int) : Nat → Ls
  | 0 => ⟨0, d⟩
  | k + 1 => (gs d q k).add (gl d q k)
def gx (d : Nat → Int) (q : Int) : Nat → Bool
  | 0 => true
  | k + 1 => gx d q k && pok (gl d q k)
def grw (n : Nat) (d : Nat → Int) (q : Int) : Ls := (gs d q n).add (gq d q n)
theorem gs_le (d : Nat → Int) (q : Int) : ∀ k, (gs d q k).n ≤ k
  | 0 => Nat.le_refl _
  | k + 1 => by
    have h1 := gs_le d q k
    have h2 := ((gs d q k).add_le (gl d q k)).2
    show ((gs d q k).add _).n ≤ k + 1
    omega
theorem gs_tail (d : Nat → Int) (q : Int) : ∀ k i, k ≤ i → (gs d q k).d i = d i
  | 0, i, _ => rfl
  | k + 1, i, h => by
    have h1 := gs_le d q k
    show ((gs d q k).add _).d i = d i
    unfold Ls.add
    split
    · exact gs_tail d q k i (by omega)
    · show upd _ _ _ i = d i
      rw [upd_other _ _ (by omega)]
      exact gs_tail d q k i (by omega)
theorem gx_mono {d : Nat → Int} {q : Int} : ∀ {k j}, j ≤ k → gx d q k = true → gx d q j = true
  | 0, j, h, hx => by
    obtain rfl : j = 0 := by omega
    rfl
  | k + 1, j, h, hx => by
    by_cases e : j = k + 1
    · subst e; exact hx
    · have : (gx d q k && pok (gl d q k)) = true := hx
      rw [Bool.and_eq_true] at this
      exact gx_mono (by omega) this.1
theorem gq_fin {d : Nat → Int} {q : Int} {n : Nat} (hd : ∀ i, i < n → rng (d i) ∧ pok (d i) = true) (hq : rng q) (pq : pok q = true) : ∀ k, k ≤ n → gx d q k = true → rng (gq d q k) ∧ pok (gq d q k) = true
  | 0, _, _ => ⟨hq, pq⟩
  | k + 1, hk, hx => by
    have hx' : (gx d q k && pok (gl d q k)) = true := hx
    rw [Bool.and_eq_true] at hx'
    obtain ⟨r1, r2⟩ := gq_fin hd hq pq k (by omega) hx'.1
    obtain ⟨d1, d2⟩ := hd k (by omega)
    exact ⟨fsum_rng r1 d1, (sL_exact r1 d1 hx'.2).2.1⟩
theorem nought_order {b : Int} (hb : rng b) : (FloatKind.f64.format.order (wd b) 0 == some .eq) = decide (rg b = 0) := by
  have h := same_order hb (show rng 0 by unfold rng; omega)
  rw [show wd 0 = 0 by decide] at h
  rw [h]
  unfold same
  have hk : key 0 = 0 := by decide
  have c0 : ¬ cls 0 = 4 := by decide
  by_cases h4 : cls b = 4
  · have : rg b ≠ 0 := fun e => by
      have := q_cls hb
      rw [e] at this
      rw [← this] at h4
      exact c0 h4
    simp [h4, this]
  · have e : (key b = key 0) ↔ rg b = 0 := by
      rw [hk]
      unfold rng at hb
      unfold key rg
      split <;> omega
    by_cases hz : rg b = 0
    · simp [h4, c0, hz, e.2 hz]
    · have : ¬ key b = key 0 := fun q => hz (e.1 q)
      simp [h4, c0, hz, this]
end Go.Proofs.YtjlmpgbadgkgmaaGreatDoor
