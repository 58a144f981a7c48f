/-
  Parts of the proof, one behind another.
-/
import Derived.Test.YtmpioejllfedoaaDoorPart9
import Derived.Laws.FloatArith
import Derived.Test.YtmpioejllfedoaaDoorPart1
import Derived.Test.YtmpioejllfedoaaDoorPart8
/-
  Plain mathematics: the sum of two floats is the exact sum, rounded to the nearest. No Go text in sight.
-/
namespace Go.Proofs.YtmpioejllfedoaaDoor
open Go Go.RowKit Go.Proofs.YtmpioejllfedoaaDoor.M Ieee
set_option linter.unusedSimpArgs false
set_option linter.unusedVariables false

theorem wd_word {ng : Bool} {r : Int} (h0 : 0 ≤ r) (h1 : r ≤ 9218868437227405312) : Ieee.double.word ng r.toNat = wd (patS ng r) := by
  unfold Format.word wd patS
  rw [dSign]
  cases ng
  · rw [if_neg (by decide), if_neg (by decide)]; omega
  · rw [if_pos rfl, if_pos rfl]; omega
theorem rg_lt {b : Int} (hb : rng b) (hp : pok b = true) : 0 ≤ rg b ∧ rg b < 9218868437227405312 := by
  obtain ⟨_, r, hr, hlt, _⟩ := patV_rg hb hp
  omega
theorem patV_dec {b : Int} (hb : rng b) (hp : pok b = true) : patV b = sg (decide (b < 0)) (vS (rg b).toNat) := by
  obtain ⟨h0, h1⟩ := rg_lt hb hp
  obtain ⟨r, hr⟩ : ∃ r : Nat, (r : Int) = rg b := ⟨(rg b).toNat, Int.toNat_of_nonneg h0⟩
  have hs : b = patS (decide (b < 0)) (r : Int) := by
    rw [hr]
    unfold patS rg
    by_cases h : b < 0
    · rw [decide_eq_true h, if_pos rfl, if_pos h]; omega
    · rw [decide_eq_false h, if_neg (by decide), if_neg h]
  rw [← hr] at h1 ⊢
  rw [Int.toNat_natCast]
  cases hd : decide (b < 0)
  · rw [hd] at hs
    rw [hs]
    exact patV_patS h1 (fun h => by cases h)
  · rw [hd] at hs
    rw [hs]
    exact patV_neg h1
/-- A finite word's reading. -/
theorem read_wd {b : Int} (hb : rng b) (hp : pok b = true) : ∃ m u : Nat, Ieee.double.read (wd b) = .number (decide (b < 0)) m (-1074 + (u : Int)) ∧ patV b = sg (decide (b < 0)) ((m : Int) * pw (-1074 + (u : Int))) := by
  obtain ⟨h0, h1⟩ := rg_lt hb hp
  have hw : ((wd b % 9223372036854775808 : Nat) : Int) = rg b := wd_rung hb
  have hw2 : wd b % 9223372036854775808 = (rg b).toNat := by omega
  obtain ⟨m, u, h, hm⟩ := read_finite Ieee.double (wd b) (by rw [dSign, dInf]; omega)
  rw [dSign, dLeast, wd_neg hb] at h
  rw [dSign, hw2] at hm
  refine ⟨m, u, h, ?_⟩
  have e : vS (rg b).toNat = (m : Int) * pw (-1074 + (u : Int)) := by
    unfold vS
    rw [← hm, pw_add (by decide), Int.mul_comm (pw (-1074))]
    generalize pw (-1074) = q
    push_cast
    rw [Int.mul_assoc]
  rw [patV_dec hb hp, e]
theorem signed_pw (s : Bool) (m k : Nat) {i base : Int} (h : i = base + (k : Int)) (hb : -4194304 ≤ base) : signed s m k * pw base = sg s ((m : Int) * pw i) := by
  rw [signed_V, h, pw_add hb, Int.mul_comm (pw base), ← Int.mul_assoc]
  have e : ((m * 2 ^ k : Nat) : Int) = (m : Int) * 2 ^ k := by push_cast; rfl
  rw [e]
  generalize (m : Int) * 2 ^ k = t
  unfold sg
  cases s
  · rfl
  · show -t * pw base = -(t * pw base)
    rw [Int.neg_mul]
theorem natAbs_sg {t q : Int} (hq : 0 < q) : t * q = sg (decide (t < 0)) ((t.natAbs : Int) * q) := by
  by_cases h : t < 0
  · rw [decide_eq_true h]
    show t * q = -((t.natAbs : Int) * q)
    rw [← Int.neg_mul, show -(t.natAbs : Int) = t by omega]
  · rw [decide_eq_false h]
    show t * q = (t.natAbs : Int) * q
    rw [show (t.natAbs : Int) = t by omega]
theorem lt_zero_iff {t q : Int} (hq : 0 < q) : t < 0 ↔ t * q < 0 := by
  constructor
  · exact fun h => Int.mul_neg_of_neg_of_pos h hq
  · intro h
    rcases Int.lt_or_le t 0 with g | g
    · exact g
    · exact absurd h (Int.not_lt.2 (Int.mul_nonneg g (Int.le_of_lt hq)))
theorem eq_zero_iff {t q : Int} (hq : 0 < q) : t = 0 ↔ t * q = 0 := by
  constructor
  · intro h; rw [h, Int.zero_mul]
  · intro h
    rcases Int.mul_eq_zero.1 h with g | g
    · exact g
    · omega
/-- What is written of a number that is told by its sign, size and place. -/
theorem write_near {S t base : Int} (hb : -4194304 ≤ base) (hS : t * pw base = S) (h0 : S ≠ 0) :
    ∃ (A : Int) (r0 : Nat) (left : Int), S = sg (decide (S < 0)) A ∧ Rung A r0 left ∧ Ieee.double.nearest (decide (t < 0)) t.natAbs base = wd (patS (decide (S < 0)) (rTo 0 (decide (S < 0)) r0 left)) := by
  have hq := pw_pos base
  have ht : t ≠ 0 := fun h => h0 (by rw [← hS, h, Int.zero_mul])
  have hd : decide (t < 0) = decide (S < 0) := by rw [← hS]; congr 1; exact propext (lt_zero_iff hq)
  obtain ⟨r0, left, hR, hE⟩ := nearest_rung (decide (t < 0)) (mag := t.natAbs) (place := base) (by omega) hb
  refine ⟨_, r0, left, ?_, hR, ?_⟩
  · rw [← hd, ← hS]; exact natAbs_sg hq
  · rw [hE, hd]
    obtain ⟨g1, g2⟩ := rTo_range 0 (decide (S < 0)) r0 left
    exact wd_word g1 g2
theorem fadd {a b : Int} (ha : rng a) (hb : rng b) (pa : pok a = true) (pb : pok b = true) :
    (patV a + patV b = 0 → Ieee.double.add (wd a) (wd b) = some (wd (patS (decide (a < 0) && decide (b < 0)) 0))) ∧
    (patV a + patV b ≠ 0 → ∃ (A : Int) (r0 : Nat) (left : Int), patV a + patV b = sg (decide (patV a + patV b < 0)) A ∧ Rung A r0 left ∧ Ieee.double.add (wd a) (wd b) = some (wd (patS (decide (patV a + patV b < 0)) (rTo 0 (decide (patV a + patV b < 0)) r0 left)))) := by
  obtain ⟨m, u, h1, v1⟩ := read_wd ha pa
  obtain ⟨n, v, h2, v2⟩ := read_wd hb pb
  have hadd : Ieee.double.add (wd a) (wd b) = some (Ieee.double.nearest (if signed (decide (a < 0)) m (u - min u v) + signed (decide (b < 0)) n (v - min u v) = 0 then decide (a < 0) && decide (b < 0) else decide (signed (decide (a < 0)) m (u - min u v) + signed (decide (b < 0)) n (v - min u v) < 0)) (signed (decide (a < 0)) m (u - min u v) + signed (decide (b < 0)) n (v - min u v)).natAbs (-1074 + ((min u v : Nat) : Int))) := by
    unfold Format.add
    rw [h1, h2]
    unfold Datum.sum
    dsimp only
    have hmin : min (-1074 + (u : Int)) (-1074 + (v : Int)) = -1074 + ((min u v : Nat) : Int) := by omega
    have e1 : (-1074 + (u : Int) - (-1074 + ((min u v : Nat) : Int))).toNat = u - min u v := by omega
    have e2 : (-1074 + (v : Int) - (-1074 + ((min u v : Nat) : Int))).toNat = v - min u v := by omega
    rw [hmin, e1, e2]
    rfl
  have s1 := signed_pw (decide (a < 0)) m (u - min u v) (i := -1074 + (u : Int)) (base := -1074 + ((min u v : Nat) : Int)) (by omega) (by omega)
  have s2 := signed_pw (decide (b < 0)) n (v - min u v) (i := -1074 + (v : Int)) (base := -1074 + ((min u v : Nat) : Int)) (by omega) (by omega)
  rw [← v1] at s1
  rw [← v2] at s2
  have hB : -4194304 ≤ -1074 + ((min u v : Nat) : Int) := by omega
  generalize -1074 + ((min u v : Nat) : Int) = base at *
  have hq := pw_pos base
  have hS : (signed (decide (a < 0)) m (u - min u v) + signed (decide (b < 0)) n (v - min u v)) * pw base = patV a + patV b := by rw [Int.add_mul, s1, s2]
  generalize signed (decide (a < 0)) m (u - min u v) + signed (decide (b < 0)) n (v - min u v) = t at *
  clear s1 s2 v1 v2 h1 h2
  refine ⟨fun h => ?_, fun h => ?_⟩
  · have ht : t = 0 := (eq_zero_iff hq).2 (hS.trans h)
    rw [hadd, ht, if_pos rfl]
    unfold Format.nearest
    rw [if_pos (show Int.natAbs 0 = 0 from rfl)]
    have := wd_word (ng := decide (a < 0) && decide (b < 0)) (r := 0) (by decide) (by decide)
    rw [← this]
    rfl
  · have ht : t ≠ 0 := fun e => h (by rw [← hS, e, Int.zero_mul])
    obtain ⟨A, r0, left, q1, q2, q3⟩ := write_near hB hS h
    refine ⟨A, r0, left, q1, q2, ?_⟩
    rw [hadd, if_neg ht, q3]
end Go.Proofs.YtmpioejllfedoaaDoor

/-
  Plain mathematics: the product of two floats is the exact product, rounded to the nearest; what is no number, what is infinite. No Go text in sight.
-/
namespace Go.Proofs.YtmpioejllfedoaaDoor
open Go Go.RowKit Go.Proofs.YtmpioejllfedoaaDoor.M Ieee
set_option linter.unusedSimpArgs false
set_option linter.unusedVariables false

theorem fmul_core {g h : Bool} {x y p q r Z : Int} (e : p * q = r * Z) : sg (g != h) (x * y * r) * Z = sg g (x * p) * sg h (y * q) := by
  rw [sg_mul, sg_prod]
  congr 1
  rw [Int.mul_assoc (x * y), ← e, Int.mul_assoc x y, Int.mul_assoc x p]
  congr 1
  rw [← Int.mul_assoc, ← Int.mul_assoc, Int.mul_comm y p]
theorem xor_ne (g h : Bool) : (g ^^ h) = (g != h) := by cases g <;> cases h <;> rfl
/-- The product: C is the exact one. -/
theorem fmul {a b : Int} (ha : rng a) (hb : rng b) (pa : pok a = true) (pb : pok b = true) :
    ∃ D : Int, 0 ≤ D ∧ sg (decide (a < 0) != decide (b < 0)) D * 2 ^ 4194304 = patV a * patV b ∧
      (D = 0 → Ieee.double.mul (wd a) (wd b) = some (wd (patS (decide (a < 0) != decide (b < 0)) 0))) ∧
      (D ≠ 0 → ∃ (r0 : Nat) (left : Int), Rung D r0 left ∧ Ieee.double.mul (wd a) (wd b) = some (wd (patS (decide (a < 0) != decide (b < 0)) (rTo 0 (decide (a < 0) != decide (b < 0)) r0 left)))) := by
  obtain ⟨m, u, h1, v1⟩ := read_wd ha pa
  obtain ⟨n, v, h2, v2⟩ := read_wd hb pb
  have hmul : Ieee.double.mul (wd a) (wd b) = some (Ieee.double.nearest (decide (a < 0) != decide (b < 0)) (m * n) (-1074 + (u : Int) + (-1074 + (v : Int)))) := by
    unfold Format.mul
    rw [h1, h2]
    unfold Datum.product
    dsimp only
    rw [xor_ne]
    rfl
  have hpm := pw_mul (a := -1074 + (u : Int)) (b := -1074 + (v : Int)) (by omega) (by omega)
  have hB : -4194304 ≤ -1074 + (u : Int) + (-1074 + (v : Int)) := by omega
  have hq := pw_pos (-1074 + (u : Int) + (-1074 + (v : Int)))
  have hC := fmul_core (g := decide (a < 0)) (h := decide (b < 0)) (x := (m : Int)) (y := (n : Int)) hpm
  rw [← v1, ← v2] at hC
  generalize -1074 + (u : Int) + (-1074 + (v : Int)) = base at *
  have hcast : ((m * n : Nat) : Int) = (m : Int) * (n : Int) := by push_cast; rfl
  refine ⟨(m : Int) * (n : Int) * pw base, Int.mul_nonneg (by rw [← hcast]; omega) (Int.le_of_lt hq), hC, fun h => ?_, fun h => ?_⟩
  · have h0 : m * n = 0 := by
      rcases Int.mul_eq_zero.1 h with g | g
      · rw [← hcast] at g; omega
      · omega
    rw [hmul, h0]
    unfold Format.nearest
    rw [if_pos rfl]
    have := wd_word (ng := decide (a < 0) != decide (b < 0)) (r := 0) (by decide) (by decide)
    rw [← this]
    rfl
  · have h0 : m * n ≠ 0 := fun e => h (by rw [← hcast, e]; simp)
    obtain ⟨r0, left, hR, hE⟩ := nearest_rung (decide (a < 0) != decide (b < 0)) (place := base) h0 hB
    rw [hcast] at hR
    refine ⟨r0, left, hR, ?_⟩
    rw [hmul, hE]
    obtain ⟨g1, g2⟩ := rTo_range 0 (decide (a < 0) != decide (b < 0)) r0 left
    rw [wd_word g1 g2]
end Go.Proofs.YtmpioejllfedoaaDoor

/-
  The model's operations on floats, by a law each: a float that is told, or one of the words of no number.
-/
namespace Go.Proofs.YtmpioejllfedoaaDoor
open Go Go.RowKit Go.Proofs.YtmpioejllfedoaaDoor.M Ieee
set_option linter.unusedSimpArgs false
set_option linter.unusedVariables false

/-- A word of no number. -/
def NanW (z : Nat) : Prop := z < 18446744073709551616 ∧ 9218868437227405312 < z % 9223372036854775808
theorem nan_cut (x y t : Nat) : NanW ((Question.nanBits .f64 x y).cut t) := by
  have h : (Question.nanBits .f64 x y).cut t = (t % 2) * 2 ^ 63 + 0x7ff0000000000000 + 1 + (t / 2) % (2 ^ 52 - 1) := rfl
  have e63 : (2 : Nat) ^ 63 = 9223372036854775808 := by decide
  have e52 : (2 : Nat) ^ 52 - 1 = 4503599627370495 := by decide
  rw [h, e63, e52]
  have hc := Nat.mod_lt (t / 2) (show 0 < 4503599627370495 by decide)
  have hm : t % 2 = 0 ∨ t % 2 = 1 := by omega
  generalize t / 2 % 4503599627370495 = c at *
  unfold NanW
  rcases hm with h2 | h2
  · rw [h2]; omega
  · rw [h2]; omega
theorem run_farith {P : Program} (op : BinOp) (ho : op = .add ∨ op = .sub ∨ op = .mul ∨ op = .quo) (t : TypeId) (x y : Nat) (w : World) :
    ∃ z w', (binOp op t (.float .f64 x) (.float .f64 y)).run P w = .ok (.float .f64 z) w' ∧ ((floatBits op .f64 x y = some z ∧ w' = w) ∨ (floatBits op .f64 x y = none ∧ NanW z ∧ w' = w.drew)) := by
  cases h : floatBits op .f64 x y with
  | some r => exact ⟨r, w, run_float_arith w op t .f64 x y r h, .inl ⟨rfl, rfl⟩⟩
  | none =>
    refine ⟨_, w.drew, ?_, .inr ⟨rfl, nan_cut x y (w.tape w.drawn (.nanBits .f64 x y)), rfl⟩⟩
    unfold floatBits at h
    rcases ho with rfl | rfl | rfl | rfl <;> simp only at h <;> simp [binOp, Op.floatArith, h] <;> exact fun hf => absurd (show false = true from hf) (by decide)
end Go.Proofs.YtmpioejllfedoaaDoor

/-
  Sums of floats on patterns: a relation between patterns and the model's words that each sum keeps.
-/
namespace Go.Proofs.YtmpioejllfedoaaDoor
open Go Go.RowKit Go.Proofs.YtmpioejllfedoaaDoor.M Ieee
set_option linter.unusedSimpArgs false
set_option linter.unusedVariables false

/-- A word that stands for a pattern: of no number any of its words. -/
def FW (p : Int) (x : Nat) : Prop := (cls p ≠ 4 ∧ rng p ∧ x = wd p) ∨ (p = 9221120237041090561 ∧ NanW x)
/-- The pattern of a word. -/
def patW (x : Nat) : Int := if x < 9223372036854775808 then (x : Int) else (x : Int) - 18446744073709551616
theorem patW_wd {p : Int} (h : rng p) : patW (wd p) = p := by
  unfold rng at h
  unfold patW wd
  split <;> omega
/-- The pattern nearest to a number that is not 0. -/
def nearP (S : Int) : Int := patW (Ieee.double.nearest (decide (S < 0)) S.natAbs (-4194304))
theorem pw_least : pw (-4194304) = 1 := by unfold pw; rfl
theorem patS_rng {ng : Bool} {r : Int} (h0 : 0 ≤ r) (h1 : r ≤ 9218868437227405312) : rng (patS ng r) ∧ cls (patS ng r) ≠ 4 := by
  have hr : rng (patS ng r) := by unfold rng patS; cases ng <;> simp <;> omega
  refine ⟨hr, fun q => ?_⟩
  have := (cls_rg hr).1.1 q
  unfold rg patS at this
  cases ng
  · simp only [Bool.false_eq_true, if_false] at this; split at this <;> omega
  · simp only [if_true] at this; split at this <;> omega
theorem nearP_rung {S : Int} (h : S ≠ 0) : ∃ (A : Int) (r0 : Nat) (left : Int), S = sg (decide (S < 0)) A ∧ Rung A r0 left ∧ nearP S = patS (decide (S < 0)) (rTo 0 (decide (S < 0)) r0 left) := by
  obtain ⟨A, r0, left, h1, h2, h3⟩ := write_near (S := S) (t := S) (base := -4194304) (by decide) (by rw [pw_least, Int.mul_one]) h
  refine ⟨A, r0, left, h1, h2, ?_⟩
  unfold nearP
  rw [h3]
  obtain ⟨g1, g2⟩ := rTo_range 0 (decide (S < 0)) r0 left
  exact patW_wd (patS_rng g1 g2).1
theorem sg_inj {g : Bool} {A B : Int} (h : sg g A = sg g B) : A = B := by
  cases g
  · exact h
  · exact Int.neg_inj.1 h
/-- A sum, on patterns: to the nearest. -/
def fsum (p q : Int) : Int :=
  if cls p = 4 ∨ cls q = 4 then 9221120237041090561
  else if rg p = 9218868437227405312 then (if rg q = 9218868437227405312 ∧ decide (p < 0) ≠ decide (q < 0) then 9221120237041090561 else p)
  else if rg q = 9218868437227405312 then q
  else if patV p + patV q = 0 then patS (decide (p < 0) && decide (q < 0)) 0 else nearP (patV p + patV q)
theorem pok_rg {p : Int} (hp : rng p) : pok p = true ↔ rg p < 9218868437227405312 := by
  obtain ⟨r0, r1⟩ := rg_parts hp
  have hf : 0 ≤ frc p ∧ frc p < 4503599627370496 := by unfold frc; omega
  have hg : 0 ≤ fld p ∧ fld p < 2048 := by unfold fld; omega
  unfold pok
  simp
  omega
theorem fadd_fin {p q : Int} (hp : rng p) (hq : rng q) (pp : pok p = true) (pq : pok q = true) : Ieee.double.add (wd p) (wd q) = some (wd (if patV p + patV q = 0 then patS (decide (p < 0) && decide (q < 0)) 0 else nearP (patV p + patV q))) := by
  obtain ⟨h0, h1⟩ := fadd hp hq pp pq
  by_cases hS : patV p + patV q = 0
  · rw [if_pos hS]; exact h0 hS
  · rw [if_neg hS]
    obtain ⟨A, r0, left, a1, a2, a3⟩ := h1 hS
    obtain ⟨B, s0, k, b1, b2, b3⟩ := nearP_rung hS
    have hAB := sg_inj (a1.symm.trans b1)
    subst hAB
    obtain ⟨h2, h3⟩ := a2.unique b2
    subst h2 h3
    rw [a3, b3]
theorem read_inf64 {p : Int} (hp : rng p) (h : rg p = 9218868437227405312) : Ieee.double.read (wd p) = .infinity (decide (p < 0)) := by
  have hw : ((wd p % 9223372036854775808 : Nat) : Int) = rg p := wd_rung hp
  have := read_inf Ieee.double dOk (wd p) (by rw [dSign, dInf]; omega)
  rwa [dSign, wd_neg hp] at this
theorem write_inf64 {p : Int} (hp : rng p) (h : rg p = 9218868437227405312) : Ieee.double.write (.infinity (decide (p < 0))) = wd p := by
  unfold Format.write
  dsimp only
  rw [dInf]
  have := wd_word (ng := decide (p < 0)) (r := 9218868437227405312) (by decide) (by decide)
  have e : patS (decide (p < 0)) 9218868437227405312 = p := by
    unfold rg at h
    unfold patS
    by_cases h0 : p < 0
    · rw [if_pos h0] at h; rw [decide_eq_true h0, if_pos rfl]; omega
    · rw [if_neg h0] at h; rw [decide_eq_false h0, if_neg (by decide)]; omega
  rw [e] at this
  exact this
end Go.Proofs.YtmpioejllfedoaaDoor

/-
  The model's sum of two words, on patterns.
-/
namespace Go.Proofs.YtmpioejllfedoaaDoor
open Go Go.RowKit Go.Proofs.YtmpioejllfedoaaDoor.M Ieee
set_option linter.unusedSimpArgs false
set_option linter.unusedVariables false

theorem nan_canon : cls 9221120237041090561 = 4 := by decide
theorem FW.nan {x : Nat} (h : NanW x) : FW 9221120237041090561 x := .inr ⟨rfl, h⟩
theorem FW.pat {p : Int} (h : cls p ≠ 4) (hp : rng p) : FW p (wd p) := .inl ⟨h, hp, rfl⟩
theorem FW.read_nan {p : Int} {x : Nat} (h : FW p x) (h4 : cls p = 4) : ∃ s t, Ieee.double.read x = .nan s t := by
  rcases h with ⟨h, _⟩ | ⟨_, h⟩
  · exact absurd h4 h
  · exact M.read_nan Ieee.double dOk x (by rw [dSign, dInf]; exact h.2)
theorem FW.of {p : Int} {x : Nat} (h : FW p x) (h4 : cls p ≠ 4) : rng p ∧ x = wd p ∧ 0 ≤ rg p ∧ rg p ≤ 9218868437227405312 := by
  rcases h with ⟨_, h1, h2⟩ | ⟨h, _⟩
  · obtain ⟨r0, _⟩ := rg_parts h1
    refine ⟨h1, h2, r0, ?_⟩
    rcases Int.lt_or_le 9218868437227405312 (rg p) with g | g
    · exact absurd ((cls_rg h1).1.2 g) h4
    · exact g
  · rw [h] at h4; exact absurd nan_canon h4
theorem nearP_pat {S : Int} (h : S ≠ 0) : rng (nearP S) ∧ cls (nearP S) ≠ 4 := by
  obtain ⟨A, r0, left, _, _, e⟩ := nearP_rung h
  rw [e]
  obtain ⟨g1, g2⟩ := rTo_range 0 (decide (S < 0)) r0 left
  exact patS_rng g1 g2
/-- The words' sum, on patterns. -/
theorem add_FW {p q : Int} {x y : Nat} (hx : FW p x) (hy : FW q y) : (∃ z, Ieee.double.add x y = some z ∧ FW (fsum p q) z) ∨ (Ieee.double.add x y = none ∧ fsum p q = 9221120237041090561) := by
  by_cases h4 : cls p = 4 ∨ cls q = 4
  · right
    refine ⟨?_, by unfold fsum; rw [if_pos h4]⟩
    unfold Format.add
    rcases h4 with h | h
    · obtain ⟨s, t, e⟩ := hx.read_nan h
      rw [e]
      rfl
    · obtain ⟨s, t, e⟩ := hy.read_nan h
      rw [e]
      cases Ieee.double.read x <;> rfl
  · have h4p : cls p ≠ 4 := fun h => h4 (.inl h)
    have h4q : cls q ≠ 4 := fun h => h4 (.inr h)
    obtain ⟨rp, rfl, p0, p1⟩ := hx.of h4p
    obtain ⟨rq, rfl, q0, q1⟩ := hy.of h4q
    unfold fsum
    rw [if_neg h4]
    by_cases ip : rg p = 9218868437227405312
    · rw [if_pos ip]
      have ep := read_inf64 rp ip
      by_cases iq : rg q = 9218868437227405312
      · have eq := read_inf64 rq iq
        by_cases hs : decide (p < 0) = decide (q < 0)
        · left
          refine ⟨wd p, ?_, ?_⟩
          · unfold Format.add
            rw [ep, eq]
            unfold Datum.sum
            dsimp only
            rw [if_pos hs]
            show some (Ieee.double.write (.infinity (decide (p < 0)))) = _
            rw [write_inf64 rp ip]
          · rw [if_neg (fun h => h.2 hs)]
            exact FW.pat h4p rp
        · right
          refine ⟨?_, by rw [if_pos ⟨iq, hs⟩]⟩
          unfold Format.add
          rw [ep, eq]
          unfold Datum.sum
          dsimp only
          rw [if_neg hs]
          rfl
      · left
        obtain ⟨m, u, eq, _⟩ := read_wd rq ((pok_rg rq).2 (by omega))
        refine ⟨wd p, ?_, ?_⟩
        · unfold Format.add
          rw [ep, eq]
          show some (Ieee.double.write (.infinity (decide (p < 0)))) = _
          rw [write_inf64 rp ip]
        · rw [if_neg (fun h => iq h.1)]
          exact FW.pat h4p rp
    · rw [if_neg ip]
      have pp := (pok_rg rp).2 (by omega)
      by_cases iq : rg q = 9218868437227405312
      · left
        rw [if_pos iq]
        have eq := read_inf64 rq iq
        obtain ⟨m, u, ep, _⟩ := read_wd rp pp
        refine ⟨wd q, ?_, FW.pat h4q rq⟩
        unfold Format.add
        rw [ep, eq]
        show some (Ieee.double.write (.infinity (decide (q < 0)))) = _
        rw [write_inf64 rq iq]
      · left
        rw [if_neg iq]
        refine ⟨_, fadd_fin rp rq pp ((pok_rg rq).2 (by omega)), ?_⟩
        by_cases hS : patV p + patV q = 0
        · rw [if_pos hS]
          obtain ⟨g1, g2⟩ := patS_rng (ng := decide (p < 0) && decide (q < 0)) (r := 0) (by decide) (by decide)
          exact FW.pat g2 g1
        · rw [if_neg hS]
          exact FW.pat (nearP_pat hS).2 (nearP_pat hS).1
end Go.Proofs.YtmpioejllfedoaaDoor

/-
  The model's difference and product of two words, on patterns.
-/
namespace Go.Proofs.YtmpioejllfedoaaDoor
open Go Go.RowKit Go.Proofs.YtmpioejllfedoaaDoor.M Ieee
set_option linter.unusedSimpArgs false
set_option linter.unusedVariables false

theorem read_same {x y : Nat} (h1 : x % Ieee.double.signWeight = y % Ieee.double.signWeight) (h2 : (x / Ieee.double.signWeight % 2 == 1) = !(y / Ieee.double.signWeight % 2 == 1)) : Ieee.double.read x = (Ieee.double.read y).opposite := by
  unfold Format.read
  dsimp only
  rw [h1, h2]
  split
  · rfl
  · split
    · rfl
    · split
      · rfl
      · rfl
theorem read_neg {q : Int} (hq : rng q) (h4 : cls q ≠ 4) : Ieee.double.read (wd (neg q)) = (Ieee.double.read (wd q)).opposite := by
  have hn : neg q = if q < 0 then q + 9223372036854775808 else q - 9223372036854775808 := by unfold neg; rw [if_neg h4]
  refine read_same ?_ ?_
  · rw [dSign, hn]
    unfold rng at hq
    unfold wd
    split <;> omega
  · rw [dSign, wd_neg (rng_neg hq), wd_neg hq, hn]
    unfold rng at hq
    by_cases h : q < 0
    · rw [if_pos h, decide_eq_false (p := q + 9223372036854775808 < 0) (by omega), decide_eq_true h]; rfl
    · rw [if_neg h, decide_eq_true (p := q - 9223372036854775808 < 0) (by omega), decide_eq_false h]; rfl
theorem neg_nan {q : Int} (h : cls q = 4) : neg q = 9221120237041090561 := by unfold neg; rw [if_pos h]
/-- The difference is the sum with the other sign. -/
theorem sub_FW {p q : Int} {x y : Nat} (hx : FW p x) (hy : FW q y) : (∃ z, Ieee.double.sub x y = some z ∧ FW (fsum p (neg q)) z) ∨ (Ieee.double.sub x y = none ∧ fsum p (neg q) = 9221120237041090561) := by
  by_cases h4 : cls q = 4
  · right
    refine ⟨?_, by unfold fsum; rw [neg_nan h4, if_pos (.inr nan_canon)]⟩
    obtain ⟨s, t, e⟩ := hy.read_nan h4
    unfold Format.sub
    rw [e]
    cases Ieee.double.read x <;> rfl
  · obtain ⟨rq, rfl, _, _⟩ := hy.of h4
    have hs : Ieee.double.sub x (wd q) = Ieee.double.add x (wd (neg q)) := by
      unfold Format.sub Format.add
      rw [read_neg rq h4]
    rw [hs]
    exact add_FW hx (FW.pat (cls_neg rq h4) (rng_neg rq))
theorem run_fdiff {P : Program} (t : TypeId) {p q : Int} {x y : Nat} (hx : FW p x) (hy : FW q y) (w : World) :
    ∃ z w', (binOp .sub t (.float .f64 x) (.float .f64 y)).run P w = .ok (.float .f64 z) w' ∧ FW (fsum p (neg q)) z ∧ (w' = w ∨ w' = w.drew) := by
  obtain ⟨z, w', h, hz⟩ := run_farith (P := P) .sub (.inr (.inl rfl)) t x y w
  refine ⟨z, w', h, ?_⟩
  have hf : floatBits .sub .f64 x y = Ieee.double.sub x y := rfl
  rw [hf] at hz
  rcases sub_FW hx hy with ⟨z', e1, e2⟩ | ⟨e1, e2⟩
  · rcases hz with ⟨h1, h2⟩ | ⟨h1, _⟩
    · rw [e1] at h1; cases h1; exact ⟨e2, .inl h2⟩
    · rw [e1] at h1; cases h1
  · rcases hz with ⟨h1, _⟩ | ⟨_, h2, h3⟩
    · rw [e1] at h1; cases h1
    · rw [e2]; exact ⟨FW.nan h2, .inr h3⟩
/-- The sign of a product. -/
def xsg (p q : Int) : Bool := decide (p < 0) != decide (q < 0)
/-- A product's size, in the scale. -/
def fsize (p q : Int) : Int := sg (xsg p q) (patV p * patV q / 2 ^ 4194304)
/-- A product, on patterns: to the nearest. -/
def fprod (p q : Int) : Int :=
  if cls p = 4 ∨ cls q = 4 then 9221120237041090561
  else if rg p = 9218868437227405312 ∨ rg q = 9218868437227405312 then (if rg p = 0 ∨ rg q = 0 then 9221120237041090561 else patS (xsg p q) 9218868437227405312)
  else if fsize p q = 0 then patS (xsg p q) 0 else nearP (sg (xsg p q) (fsize p q))
theorem fsize_of {g : Bool} {D Z C : Int} (hZ : 0 < Z) (h : sg g D * Z = C) : sg g (C / Z) = D := by
  rw [← h, Int.mul_ediv_cancel _ (Int.ne_of_gt hZ)]
  cases g
  · rfl
  · exact Int.neg_neg D
theorem nearP_sg {g : Bool} {D : Int} {r0 : Nat} {left : Int} (h0 : 0 < D) (hR : Rung D r0 left) : nearP (sg g D) = patS g (rTo 0 g r0 left) := by
  have hd : decide (sg g D < 0) = g := by
    cases g
    · exact decide_eq_false (by show ¬ D < 0; omega)
    · exact decide_eq_true (by show -D < 0; omega)
  have hn : sg g D ≠ 0 := by
    cases g
    · show D ≠ 0; omega
    · show -D ≠ 0; omega
  obtain ⟨A, s0, k, e1, e2, e3⟩ := nearP_rung hn
  rw [hd] at e1 e3
  have := sg_inj e1
  subst this
  obtain ⟨h1, h2⟩ := hR.unique e2
  subst h1 h2
  exact e3
theorem fmul_fin {p q : Int} (hp : rng p) (hq : rng q) (pp : pok p = true) (pq : pok q = true) : Ieee.double.mul (wd p) (wd q) = some (wd (if fsize p q = 0 then patS (xsg p q) 0 else nearP (sg (xsg p q) (fsize p q)))) := by
  obtain ⟨D, d0, d1, d2, d3⟩ := fmul hp hq pp pq
  have hf : fsize p q = D := fsize_of (two_pos 4194304) d1
  rw [hf]
  by_cases h : D = 0
  · rw [if_pos h]; exact d2 h
  · rw [if_neg h]
    obtain ⟨r0, left, hR, hE⟩ := d3 h
    rw [hE, nearP_sg (by omega) hR]
    rfl
end Go.Proofs.YtmpioejllfedoaaDoor

/-
  The model's product of two words, on patterns; bits.Float and bits.Of, between patterns and words.
-/
namespace Go.Proofs.YtmpioejllfedoaaDoor
open Go Go.RowKit Go.Proofs.YtmpioejllfedoaaDoor.M Ieee
set_option linter.unusedSimpArgs false
set_option linter.unusedVariables false

theorem write_infS (g : Bool) : Ieee.double.write (.infinity g) = wd (patS g 9218868437227405312) := by
  unfold Format.write
  dsimp only
  rw [dInf]
  exact wd_word (ng := g) (r := 9218868437227405312) (by decide) (by decide)
theorem mag_zero {q : Int} {m u : Nat} (hq : rng q) (pq : pok q = true) (h : patV q = sg (decide (q < 0)) ((m : Int) * pw (-1074 + (u : Int)))) : m = 0 ↔ rg q = 0 := by
  have e := patV_dec hq pq
  rw [h] at e
  have e2 := sg_inj e
  obtain ⟨r0, r1⟩ := rg_lt hq pq
  constructor
  · intro hm
    rw [hm] at e2
    have e3 : vS (rg q).toNat = 0 := by rw [← e2]; simp
    rcases Nat.eq_zero_or_pos (rg q).toNat with g | g
    · omega
    · have := vS_lt g
      rw [vS_zero, e3] at this
      exact absurd this (Int.lt_irrefl _)
  · intro hr
    rw [hr] at e2
    have e3 : (m : Int) * pw (-1074 + (u : Int)) = 0 := by rw [e2]; exact vS_zero
    have := (eq_zero_iff (pw_pos (-1074 + (u : Int)))).2 e3
    omega
theorem mul_FW {p q : Int} {x y : Nat} (hx : FW p x) (hy : FW q y) : (∃ z, Ieee.double.mul x y = some z ∧ FW (fprod p q) z) ∨ (Ieee.double.mul x y = none ∧ fprod p q = 9221120237041090561) := by
  by_cases h4 : cls p = 4 ∨ cls q = 4
  · right
    refine ⟨?_, by unfold fprod; rw [if_pos h4]⟩
    unfold Format.mul
    rcases h4 with h | h
    · obtain ⟨s, t, e⟩ := hx.read_nan h
      rw [e]
      rfl
    · obtain ⟨s, t, e⟩ := hy.read_nan h
      rw [e]
      cases Ieee.double.read x <;> rfl
  · have h4p : cls p ≠ 4 := fun h => h4 (.inl h)
    have h4q : cls q ≠ 4 := fun h => h4 (.inr h)
    obtain ⟨rp, rfl, p0, p1⟩ := hx.of h4p
    obtain ⟨rq, rfl, q0, q1⟩ := hy.of h4q
    have hI := patS_rng (ng := xsg p q) (r := 9218868437227405312) (by decide) (by decide)
    have hX : (decide (p < 0) ^^ decide (q < 0)) = xsg p q := xor_ne _ _
    have hX2 : (decide (q < 0) ^^ decide (p < 0)) = xsg p q := by rw [← hX]; cases decide (p < 0) <;> cases decide (q < 0) <;> rfl
    unfold fprod
    rw [if_neg h4]
    by_cases ip : rg p = 9218868437227405312
    · rw [if_pos (.inl ip)]
      have ep := read_inf64 rp ip
      by_cases iq : rg q = 9218868437227405312
      · left
        rw [if_neg (by omega)]
        refine ⟨_, ?_, FW.pat hI.2 hI.1⟩
        unfold Format.mul
        rw [ep, read_inf64 rq iq]
        show some (Ieee.double.write (.infinity (decide (p < 0) ^^ decide (q < 0)))) = _
        rw [write_infS, hX]
      · have pq := (pok_rg rq).2 (by omega)
        obtain ⟨m, u, eq, vq⟩ := read_wd rq pq
        have hz := mag_zero rq pq vq
        by_cases hm : m = 0
        · right
          refine ⟨?_, by rw [if_pos (.inr (hz.1 hm))]⟩
          unfold Format.mul
          rw [ep, eq, hm]
          rfl
        · left
          rw [if_neg (fun h => by rcases h with h | h; omega; exact hm (hz.2 h))]
          refine ⟨_, ?_, FW.pat hI.2 hI.1⟩
          unfold Format.mul
          rw [ep, eq]
          unfold Datum.product
          dsimp only
          rw [if_neg hm]
          show some (Ieee.double.write (.infinity (decide (p < 0) ^^ decide (q < 0)))) = _
          rw [write_infS, hX]
    · have pp := (pok_rg rp).2 (by omega)
      by_cases iq : rg q = 9218868437227405312
      · rw [if_pos (.inr iq)]
        obtain ⟨m, u, ep, vp⟩ := read_wd rp pp
        have hz := mag_zero rp pp vp
        have eq := read_inf64 rq iq
        by_cases hm : m = 0
        · right
          refine ⟨?_, by rw [if_pos (.inl (hz.1 hm))]⟩
          unfold Format.mul
          rw [ep, eq, hm]
          rfl
        · left
          rw [if_neg (fun h => by rcases h with h | h; exact hm (hz.2 h); omega)]
          refine ⟨_, ?_, FW.pat hI.2 hI.1⟩
          unfold Format.mul
          rw [ep, eq]
          unfold Datum.product
          dsimp only
          rw [if_neg hm]
          show some (Ieee.double.write (.infinity (decide (q < 0) ^^ decide (p < 0)))) = _
          rw [write_infS, hX2]
      · left
        rw [if_neg (by omega)]
        refine ⟨_, fmul_fin rp rq pp ((pok_rg rq).2 (by omega)), ?_⟩
        by_cases hS : fsize p q = 0
        · rw [if_pos hS]
          obtain ⟨g1, g2⟩ := patS_rng (ng := xsg p q) (r := 0) (by decide) (by decide)
          exact FW.pat g2 g1
        · rw [if_neg hS]
          have hn : sg (xsg p q) (fsize p q) ≠ 0 := by
            generalize fsize p q = D at *
            cases xsg p q
            · exact hS
            · show -D ≠ 0; omega
          exact FW.pat (nearP_pat hn).2 (nearP_pat hn).1
theorem run_fprod {P : Program} (t : TypeId) {p q : Int} {x y : Nat} (hx : FW p x) (hy : FW q y) (w : World) :
    ∃ z w', (binOp .mul t (.float .f64 x) (.float .f64 y)).run P w = .ok (.float .f64 z) w' ∧ FW (fprod p q) z ∧ (w' = w ∨ w' = w.drew) := by
  obtain ⟨z, w', h, hz⟩ := run_farith (P := P) .mul (.inr (.inr (.inl rfl))) t x y w
  refine ⟨z, w', h, ?_⟩
  have hf : floatBits .mul .f64 x y = Ieee.double.mul x y := rfl
  rw [hf] at hz
  rcases mul_FW hx hy with ⟨z', e1, e2⟩ | ⟨e1, e2⟩
  · rcases hz with ⟨h1, h2⟩ | ⟨h1, _⟩
    · rw [e1] at h1; cases h1; exact ⟨e2, .inl h2⟩
    · rw [e1] at h1; cases h1
  · rcases hz with ⟨h1, _⟩ | ⟨_, h2, h3⟩
    · rw [e1] at h1; cases h1
    · rw [e2]; exact ⟨FW.nan h2, .inr h3⟩
theorem wd_told {a : Int} (ha : rng a) : FW (told a) (wd a) := by
  unfold told
  by_cases h : cls a = 4
  · rw [if_pos h]
    refine FW.nan ⟨?_, ?_⟩
    · unfold wd; omega
    · exact (cls4_rung ha).1 h
  · rw [if_neg h]
    exact FW.pat h ha
theorem patW_rng {x : Nat} (h : x < 18446744073709551616) : rng (patW x) ∧ wd (patW x) = x := by
  unfold patW rng wd
  split
  · exact ⟨by omega, by omega⟩
  · exact ⟨by omega, by omega⟩
/-- What bits.Of tells of a word. -/
theorem of_FW {p : Int} {x : Nat} (h : FW p x) (w : World) : Calls Tryd.prog 39 #[.float .f64 x] w fun e w' => e = .returned (.int .i64 p) ∧ w' = w := by
  rcases h with ⟨h4, hp, rfl⟩ | ⟨rfl, hN⟩
  · have := bitsOf p w hp
    have e : told p = p := by unfold told; rw [if_neg h4]
    rwa [e] at this
  · obtain ⟨h1, h2⟩ := patW_rng hN.1
    have := bitsOf (patW x) w h1
    rw [h2] at this
    have e : told (patW x) = 9221120237041090561 := by
      unfold told
      rw [if_pos ((cls4_rung h1).2 (by rw [h2]; exact hN.2))]
    rwa [e] at this
end Go.Proofs.YtmpioejllfedoaaDoor

/-
  Plain mathematics: the nearest word of a number of which the last digit tells that something was cut off. No Go text in sight.
-/
namespace Go.Proofs.YtmpioejllfedoaaDoor
open Go Go.RowKit Go.Proofs.YtmpioejllfedoaaDoor.M Ieee
set_option linter.unusedSimpArgs false
set_option linter.unusedVariables false

end Go.Proofs.YtmpioejllfedoaaDoor

/-
  Plain mathematics: the quotient of two floats is the exact quotient, rounded to the nearest. No Go text in sight.
-/
namespace Go.Proofs.YtmpioejllfedoaaDoor
open Go Go.RowKit Go.Proofs.YtmpioejllfedoaaDoor.M Ieee
set_option linter.unusedSimpArgs false
set_option linter.unusedVariables false

theorem log2_fin {b : Int} {m u : Nat} (hb : rng b) (hp : pok b = true) (h : Ieee.double.read (wd b) = .number (decide (b < 0)) m (-1074 + (u : Int))) : m < 9007199254740992 ∧ u ≤ 2046 := by
  obtain ⟨h0, h1⟩ := rg_lt hb hp
  have hw : ((wd b % 9223372036854775808 : Nat) : Int) = rg b := wd_rung hb
  unfold Format.read at h
  rw [dSign, dBin, dInf, dLeast] at h
  dsimp only at h
  split at h
  · rename_i h2
    simp only [Datum.number.injEq] at h
    obtain ⟨_, h3, h4⟩ := h
    exact ⟨by omega, by omega⟩
  · rw [if_pos (by omega)] at h
    have hm := Nat.mod_lt (wd b % 9223372036854775808) (show 0 < 4503599627370496 by decide)
    have hd : wd b % 9223372036854775808 / 4503599627370496 ≤ 2047 := by omega
    simp only [Datum.number.injEq] at h
    obtain ⟨_, h3, h4⟩ := h
    exact ⟨by omega, by omega⟩
end Go.Proofs.YtmpioejllfedoaaDoor

/-
  Plain mathematics: the root of a float is the exact root, rounded to the nearest. No Go text in sight.
-/
namespace Go.Proofs.YtmpioejllfedoaaDoor
open Go Go.RowKit Go.Proofs.YtmpioejllfedoaaDoor.M Ieee
set_option linter.unusedSimpArgs false
set_option linter.unusedVariables false

end Go.Proofs.YtmpioejllfedoaaDoor

/-
  Plain mathematics: a product and a sum of floats, rounded once. No Go text in sight.
-/
namespace Go.Proofs.YtmpioejllfedoaaDoor
open Go Go.RowKit Go.Proofs.YtmpioejllfedoaaDoor.M Ieee
set_option linter.unusedSimpArgs false
set_option linter.unusedVariables false

theorem nearest_nearP {S t base : Int} (hb : -4194304 ≤ base) (hS : t * pw base = S) (h0 : S ≠ 0) : Ieee.double.nearest (decide (t < 0)) t.natAbs base = wd (nearP S) := by
  obtain ⟨A, r0, left, a1, a2, a3⟩ := write_near hb hS h0
  obtain ⟨B, s0, k, b1, b2, b3⟩ := nearP_rung h0
  have hAB := sg_inj (a1.symm.trans b1)
  subst hAB
  obtain ⟨h2, h3⟩ := a2.unique b2
  subst h2 h3
  rw [a3, b3]
/-- The exact sum of a product and a number, in the scale. -/
def fmaS (p q r : Int) : Int := sg (xsg p q) (fsize p q) + patV r
theorem ffma_fin {p q r : Int} (hp : rng p) (hq : rng q) (hr : rng r) (pp : pok p = true) (pq : pok q = true) (pr : pok r = true) :
    Ieee.double.fma (wd p) (wd q) (wd r) = some (wd (if fmaS p q r = 0 then patS (xsg p q && decide (r < 0)) 0 else nearP (fmaS p q r))) := by
  obtain ⟨m, u, h1, v1⟩ := read_wd hp pp
  obtain ⟨n, v, h2, v2⟩ := read_wd hq pq
  obtain ⟨l, x, h3, v3⟩ := read_wd hr pr
  obtain ⟨i, hi⟩ : ∃ i : Int, -1074 + (u : Int) + (-1074 + (v : Int)) = i := ⟨_, rfl⟩
  obtain ⟨j, hj⟩ : ∃ j : Int, -1074 + (x : Int) = j := ⟨_, rfl⟩
  have hpm := pw_mul (a := -1074 + (u : Int)) (b := -1074 + (v : Int)) (by omega) (by omega)
  have hC := fmul_core (g := decide (p < 0)) (h := decide (q < 0)) (x := (m : Int)) (y := (n : Int)) hpm
  rw [← v1, ← v2, hi] at hC
  have hcast : ((m * n : Nat) : Int) = (m : Int) * (n : Int) := by push_cast; rfl
  have hf : fsize p q = ((m * n : Nat) : Int) * pw i := by rw [hcast]; exact fsize_of (two_pos 4194304) hC
  obtain ⟨base, hbase⟩ : ∃ base, min i j = base := ⟨_, rfl⟩
  have hB : -4194304 ≤ base := by omega
  obtain ⟨t, ht⟩ : ∃ t, signed (xsg p q) (m * n) (i - base).toNat + signed (decide (r < 0)) l (j - base).toNat = t := ⟨_, rfl⟩
  have hfma : Ieee.double.fma (wd p) (wd q) (wd r) = some (Ieee.double.nearest (if t = 0 then xsg p q && decide (r < 0) else decide (t < 0)) t.natAbs base) := by
    unfold Format.fma
    rw [h1, h2, h3]
    unfold Datum.product
    dsimp only
    rw [hi, hj, xor_ne]
    show Option.map Ieee.double.write (Datum.sum (.number (xsg p q) (m * n) i) (.number (decide (r < 0)) l j)) = _
    unfold Datum.sum
    dsimp only
    rw [hbase, ht]
    rfl
  have s1 := signed_pw (xsg p q) (m * n) (i - base).toNat (i := i) (base := base) (by omega) hB
  have s2 := signed_pw (decide (r < 0)) l (j - base).toNat (i := j) (base := base) (by omega) hB
  rw [hj] at v3
  rw [← hf] at s1
  rw [← v3] at s2
  have hS : t * pw base = fmaS p q r := by
    unfold fmaS
    rw [← ht, Int.add_mul, s1, s2]
  rw [hfma]
  by_cases h : fmaS p q r = 0
  · have ht0 : t = 0 := (eq_zero_iff (pw_pos base)).2 (hS.trans h)
    rw [if_pos h, ht0, if_pos rfl]
    unfold Format.nearest
    rw [if_pos (show Int.natAbs 0 = 0 from rfl)]
    have := wd_word (ng := xsg p q && decide (r < 0)) (r := 0) (by decide) (by decide)
    rw [← this]
    rfl
  · have ht0 : t ≠ 0 := fun e => h (by rw [← hS, e, Int.zero_mul])
    rw [if_neg h, if_neg ht0, nearest_nearP hB hS h]
end Go.Proofs.YtmpioejllfedoaaDoor

/-
  Plain mathematics: a number rounded in a way, as a pattern; a product and a sum, rounded once, of any patterns. No Go text in sight.
-/
namespace Go.Proofs.YtmpioejllfedoaaDoor
open Go Go.RowKit Go.Proofs.YtmpioejllfedoaaDoor.M Ieee
set_option linter.unusedSimpArgs false
set_option linter.unusedVariables false

/-- p is V, which is not 0, rounded in a way. -/
def RdP (way V p : Int) : Prop := ∃ (A : Int) (r0 : Nat) (left : Int), V = sg (decide (V < 0)) A ∧ Rung A r0 left ∧ p = patS (decide (V < 0)) (rTo way (decide (V < 0)) r0 left)
theorem RdP.unique {way V p q : Int} (h : RdP way V p) (k : RdP way V q) : p = q := by
  obtain ⟨A, r0, l, h1, h2, h3⟩ := h
  obtain ⟨B, s0, m, k1, k2, k3⟩ := k
  have hAB := sg_inj (h1.symm.trans k1)
  subst hAB
  obtain ⟨e1, e2⟩ := h2.unique k2
  subst e1 e2
  rw [h3, k3]
theorem r64_num {way : Int} {ng sd : Bool} {M e : Int} (hv : 0 < M) (he : -4194304 ≤ e) :
    ∃ (r0 : Nat) (left : Int), Rung (M * pw e) r0 left ∧ r64 way ng sd (M / 2 ^ vK M).toNat (e + vK M) (decide (M % 2 ^ vK M ≠ 0)) = (patS (ng && (decide (0 < rTo way ng r0 left) || sd)) (rTo way ng r0 left), decide (left ≠ 0) || decide (9218868437227405312 ≤ (r0 : Int))) := by
  have hsm := vK_small (Int.le_of_lt hv)
  have hb := blen_pos hv
  have hp := two_pos (vK M)
  have hge : 2 ^ (blen M - 1 - vK M) ≤ M / 2 ^ vK M := by
    rw [Int.le_ediv_iff_mul_le hp, ← Int.pow_add]
    by_cases hk : vK M ≤ blen M - 1
    · rw [show blen M - 1 - vK M + vK M = blen M - 1 by omega]
      exact hb.2
    · exfalso; unfold vK at hk; omega
  have hpos := two_pos (blen M - 1 - vK M)
  have e64 : (2 : Nat) ^ 64 = 18446744073709551616 := by decide
  have e60 : (2 : Nat) ^ 60 = 1152921504606846976 := by decide
  refine r64_spec (held_cut (Int.le_of_lt hv) (by omega) _) (by omega) (by omega) (by omega) (fun hc => ?_)
  have hk0 : 0 < vK M := by
    rcases Nat.eq_zero_or_pos (vK M) with h | h
    · rw [h, Int.pow_zero, Int.emod_one] at hc; simp at hc
    · exact h
  have h61 : blen M - 1 - vK M = 61 := by unfold vK at hk0 ⊢; omega
  rw [h61] at hge
  have e61 : (2 : Int) ^ 61 = 2305843009213693952 := by decide
  rw [e61] at hge
  omega
theorem sg_lt {ng : Bool} {A : Int} (h : 0 < A) : decide (sg ng A < 0) = ng := by
  cases ng
  · exact decide_eq_false (by show ¬ A < 0; omega)
  · exact decide_eq_true (by show -A < 0; omega)
theorem rd_of {way V : Int} {ng : Bool} {M e : Int} (hV : V = sg ng (M * pw e)) (hv : 0 < M) (he : -4194304 ≤ e) :
    RdP way V (r64 way ng true (M / 2 ^ vK M).toNat (e + vK M) (decide (M % 2 ^ vK M ≠ 0))).1 := by
  obtain ⟨r0, left, h1, h2⟩ := r64_num (way := way) (ng := ng) (sd := true) hv he
  have hA : 0 < M * pw e := Int.mul_pos hv (pw_pos e)
  have hn : decide (V < 0) = ng := by rw [hV]; exact sg_lt hA
  refine ⟨M * pw e, r0, left, by rw [hn]; exact hV, h1, ?_⟩
  rw [h2, hn]
  simp
/-- The number rounded. -/
def rdP (way V : Int) : Int := (r64 way (decide (V < 0)) true ((V.natAbs : Int) / 2 ^ vK (V.natAbs : Int)).toNat (-4194304 + vK (V.natAbs : Int)) (decide ((V.natAbs : Int) % 2 ^ vK (V.natAbs : Int) ≠ 0))).1
theorem rdP_is (way : Int) {V : Int} (h : V ≠ 0) : RdP way V (rdP way V) := by
  refine rd_of ?_ (by omega) (Int.le_refl _)
  rw [pw_least, Int.mul_one]
  by_cases hn : V < 0
  · rw [decide_eq_true hn]; show V = -(V.natAbs : Int); omega
  · rw [decide_eq_false hn]; show V = (V.natAbs : Int); omega
theorem rdP_eq {way V p : Int} (h0 : V ≠ 0) (h : RdP way V p) : rdP way V = p := (rdP_is way h0).unique h
theorem rdP_near {V : Int} (h : V ≠ 0) : rdP 0 V = nearP V := by
  obtain ⟨A, r0, left, h1, h2, h3⟩ := nearP_rung h
  exact rdP_eq h ⟨A, r0, left, h1, h2, h3⟩
theorem r64_dy {way V : Int} {ng : Bool} {m e : Int} (hy : Dy V ng m e) (h0 : V ≠ 0) (he : -4194304 ≤ e) :
    (r64 way ng true (m / 2 ^ vK m).toNat (e + vK m) (decide (m % 2 ^ vK m ≠ 0))).1 = rdP way V := by
  have hm : 0 < m := by
    rcases hy.form with ⟨f1, _⟩ | ⟨f1, _⟩
    · exact absurd (hy.eq_zero.2 f1) h0
    · exact f1
  refine (rdP_eq h0 (rd_of ?_ hm he)).symm
  rw [hy.val]
  cases ng
  · rfl
  · show -m * pw e = -(m * pw e); rw [Int.neg_mul]
theorem rdP_pat (way : Int) {V : Int} (h : V ≠ 0) : rng (rdP way V) ∧ cls (rdP way V) ≠ 4 := by
  obtain ⟨A, r0, left, _, _, h3⟩ := rdP_is way h
  rw [h3]
  have := rTo_range way (decide (V < 0)) r0 left
  exact patS_rng this.1 this.2
theorem prod_infD {p q : Int} (rp : rng p) (rq : rng q) (p0 : 0 ≤ rg p) (p1 : rg p ≤ 9218868437227405312) (q0 : 0 ≤ rg q) (q1 : rg q ≤ 9218868437227405312) (h : rg p = 9218868437227405312 ∨ rg q = 9218868437227405312) :
    Datum.product (Ieee.double.read (wd p)) (Ieee.double.read (wd q)) = if rg p = 0 ∨ rg q = 0 then none else some (.infinity (xsg p q)) := by
  have hX : (decide (p < 0) ^^ decide (q < 0)) = xsg p q := xor_ne _ _
  have hX2 : (decide (q < 0) ^^ decide (p < 0)) = xsg p q := by rw [← hX]; cases decide (p < 0) <;> cases decide (q < 0) <;> rfl
  by_cases ip : rg p = 9218868437227405312
  · have ep := read_inf64 rp ip
    by_cases iq : rg q = 9218868437227405312
    · rw [if_neg (by omega), ep, read_inf64 rq iq, ← hX]
      rfl
    · have pq := (pok_rg rq).2 (by omega)
      obtain ⟨m, u, eq, vq⟩ := read_wd rq pq
      have hz := mag_zero rq pq vq
      rw [ep, eq]
      unfold Datum.product
      dsimp only
      by_cases hm : m = 0
      · rw [if_pos hm, if_pos (.inr (hz.1 hm))]
      · rw [if_neg hm, if_neg (fun h => by rcases h with h | h; omega; exact hm (hz.2 h)), hX]
  · have iq : rg q = 9218868437227405312 := by omega
    have pp := (pok_rg rp).2 (by omega)
    obtain ⟨m, u, ep, vp⟩ := read_wd rp pp
    have hz := mag_zero rp pp vp
    have eq := read_inf64 rq iq
    rw [ep, eq]
    unfold Datum.product
    dsimp only
    by_cases hm : m = 0
    · rw [if_pos hm, if_pos (.inl (hz.1 hm))]
    · rw [if_neg hm, if_neg (fun h => by rcases h with h | h; exact hm (hz.2 h); omega), hX2]
/-- A product and a sum, rounded once, on patterns. -/
def ffma (p q r : Int) : Int :=
  if cls p = 4 ∨ cls q = 4 ∨ cls r = 4 then 9221120237041090561
  else if rg p = 9218868437227405312 ∨ rg q = 9218868437227405312 then
    if rg p = 0 ∨ rg q = 0 then 9221120237041090561
    else if rg r = 9218868437227405312 ∧ ¬ xsg p q = decide (r < 0) then 9221120237041090561 else patS (xsg p q) 9218868437227405312
  else if rg r = 9218868437227405312 then r
  else if fmaS p q r = 0 then patS (xsg p q && decide (r < 0)) 0 else nearP (fmaS p q r)
theorem fma_FW {p q r : Int} {x y z : Nat} (hx : FW p x) (hy : FW q y) (hz : FW r z) : (∃ t, Ieee.double.fma x y z = some t ∧ FW (ffma p q r) t) ∨ (Ieee.double.fma x y z = none ∧ ffma p q r = 9221120237041090561) := by
  by_cases h4 : cls p = 4 ∨ cls q = 4 ∨ cls r = 4
  · right
    refine ⟨?_, by unfold ffma; rw [if_pos h4]⟩
    unfold Format.fma
    rcases h4 with h | h | h
    · obtain ⟨s, t, e⟩ := hx.read_nan h
      rw [e]
      rfl
    · obtain ⟨s, t, e⟩ := hy.read_nan h
      rw [e]
      cases Ieee.double.read x <;> rfl
    · obtain ⟨s, t, e⟩ := hz.read_nan h
      rw [e]
      cases Datum.product (Ieee.double.read x) (Ieee.double.read y) with
      | none => rfl
      | some d => cases d <;> rfl
  · have h4p : cls p ≠ 4 := fun h => h4 (.inl h)
    have h4q : cls q ≠ 4 := fun h => h4 (.inr (.inl h))
    have h4r : cls r ≠ 4 := fun h => h4 (.inr (.inr h))
    obtain ⟨rp, rfl, p0, p1⟩ := hx.of h4p
    obtain ⟨rq, rfl, q0, q1⟩ := hy.of h4q
    obtain ⟨rr, rfl, r0, r1⟩ := hz.of h4r
    have hI := patS_rng (ng := xsg p q) (r := 9218868437227405312) (by decide) (by decide)
    unfold ffma
    rw [if_neg h4]
    by_cases hi : rg p = 9218868437227405312 ∨ rg q = 9218868437227405312
    · rw [if_pos hi]
      have hP := prod_infD rp rq p0 p1 q0 q1 hi
      by_cases h0 : rg p = 0 ∨ rg q = 0
      · right
        rw [if_pos h0] at hP ⊢
        refine ⟨?_, rfl⟩
        unfold Format.fma
        rw [hP]
        rfl
      · rw [if_neg h0] at hP ⊢
        by_cases ir : rg r = 9218868437227405312
        · have er := read_inf64 rr ir
          by_cases hs : xsg p q = decide (r < 0)
          · left
            rw [if_neg (fun h => h.2 hs)]
            refine ⟨_, ?_, FW.pat hI.2 hI.1⟩
            unfold Format.fma
            rw [hP, er]
            show Option.map Ieee.double.write (Datum.sum (.infinity (xsg p q)) (.infinity (decide (r < 0)))) = _
            unfold Datum.sum
            dsimp only
            rw [if_pos hs]
            show some (Ieee.double.write (.infinity (xsg p q))) = _
            rw [write_infS]
          · right
            rw [if_pos ⟨ir, hs⟩]
            refine ⟨?_, rfl⟩
            unfold Format.fma
            rw [hP, er]
            show Option.map Ieee.double.write (Datum.sum (.infinity (xsg p q)) (.infinity (decide (r < 0)))) = _
            unfold Datum.sum
            dsimp only
            rw [if_neg hs]
            rfl
        · left
          obtain ⟨l, v, er, _⟩ := read_wd rr ((pok_rg rr).2 (by omega))
          rw [if_neg (fun h => ir h.1)]
          refine ⟨_, ?_, FW.pat hI.2 hI.1⟩
          unfold Format.fma
          rw [hP, er]
          show some (Ieee.double.write (.infinity (xsg p q))) = _
          rw [write_infS]
    · rw [if_neg hi]
      have pp := (pok_rg rp).2 (by omega)
      have pq := (pok_rg rq).2 (by omega)
      by_cases ir : rg r = 9218868437227405312
      · left
        rw [if_pos ir]
        obtain ⟨m, u, ep, _⟩ := read_wd rp pp
        obtain ⟨n, v, eq, _⟩ := read_wd rq pq
        refine ⟨wd r, ?_, FW.pat h4r rr⟩
        unfold Format.fma
        rw [ep, eq, read_inf64 rr ir]
        show some (Ieee.double.write (.infinity (decide (r < 0)))) = _
        rw [write_inf64 rr ir]
      · left
        rw [if_neg ir]
        refine ⟨_, ffma_fin rp rq rr pp pq ((pok_rg rr).2 (by omega)), ?_⟩
        by_cases hS : fmaS p q r = 0
        · rw [if_pos hS]
          obtain ⟨g1, g2⟩ := patS_rng (ng := xsg p q && decide (r < 0)) (r := 0) (by decide) (by decide)
          exact FW.pat g2 g1
        · rw [if_neg hS]
          exact FW.pat (nearP_pat hS).2 (nearP_pat hS).1
end Go.Proofs.YtmpioejllfedoaaDoor

/-
  Mathematics of single operations and what they lose, over whole numbers: floats without an upper end (in units of the least one), the nearest one, Sterbenz, the error of a sum, TwoSum, FastTwoSum. No Go text in sight.
-/
namespace Go.Proofs.YtmpioejllfedoaaDoor.M
set_option linter.unusedVariables false

/-- A float, in units of the least one, with no upper end: 53 bits at most. -/
def Fl (n : Int) : Prop := ∃ k : Nat, (2 ^ k : Int) ∣ n ∧ (n.natAbs : Int) < 9007199254740992 * 2 ^ k
/-- A nearest float. -/
def Nr (S h : Int) : Prop := Fl h ∧ ∀ f, Fl f → (h - S).natAbs ≤ (f - S).natAbs
theorem p2 (k : Nat) : (0 : Int) < 2 ^ k := Int.pow_pos (by decide)
theorem p2s (k : Nat) : (2 : Int) ^ (k + 1) = 2 * 2 ^ k := by rw [Int.pow_succ, Int.mul_comm]
theorem p2dvd {j k : Nat} (h : j ≤ k) : (2 ^ j : Int) ∣ 2 ^ k := ⟨2 ^ (k - j), by rw [← Int.pow_add, Nat.add_sub_cancel' h]⟩
theorem p2le {j k : Nat} (h : j ≤ k) : (2 : Int) ^ j ≤ 2 ^ k := Int.le_of_dvd (p2 k) (p2dvd h)
theorem p2lt {j k : Nat} (h : (2 : Int) ^ j < 2 ^ k) : j < k := by
  rcases Nat.lt_or_ge j k with c | c
  · exact c
  · have := p2le c; omega
theorem Fl.neg {n : Int} (h : Fl n) : Fl (-n) := by
  obtain ⟨k, d, b⟩ := h
  exact ⟨k, (Int.dvd_neg).2 d, by rw [Int.natAbs_neg]; exact b⟩
theorem fl_zero : Fl 0 := ⟨0, ⟨0, by simp⟩, by simp⟩
/-- A multiple of 2^k of at most 53 bits. -/
theorem fl_of {n : Int} {k : Nat} (d : (2 ^ k : Int) ∣ n) (b : (n.natAbs : Int) ≤ 9007199254740992 * 2 ^ k) : Fl n := by
  by_cases c : (n.natAbs : Int) < 9007199254740992 * 2 ^ k
  · exact ⟨k, d, c⟩
  · have e : (n.natAbs : Int) = 9007199254740992 * 2 ^ k := by omega
    refine ⟨k + 1, ?_, ?_⟩
    · rw [← Int.dvd_natAbs, e, p2s]
      exact ⟨4503599627370496, by omega⟩
    · rw [p2s]; have := p2 k; omega
theorem Fl.dbl {n : Int} (h : Fl n) : Fl (2 * n) := by
  obtain ⟨k, ⟨c, rfl⟩, b⟩ := h
  refine ⟨k + 1, ⟨c, by rw [p2s, Int.mul_assoc]⟩, ?_⟩
  rw [p2s]
  omega
theorem Nr.neg {S h : Int} (n : Nr S h) : Nr (-S) (-h) := by
  refine ⟨n.1.neg, fun f hf => ?_⟩
  have := n.2 (-f) hf.neg
  omega
theorem nr_self {S h : Int} (hS : Fl S) (n : Nr S h) : h = S := by
  have := n.2 S hS
  omega
/-- What is no more than either of two floats, is their difference a float. -/
theorem fl_sub {x y : Int} (hx : Fl x) (hy : Fl y) (h1 : (x - y).natAbs ≤ x.natAbs) (h2 : (x - y).natAbs ≤ y.natAbs) : Fl (x - y) := by
  obtain ⟨j, dx, bx⟩ := hx
  obtain ⟨k, dy, by1⟩ := hy
  rcases Nat.le_total j k with c | c
  · exact ⟨j, Int.dvd_sub dx (Int.dvd_trans (p2dvd c) dy), by omega⟩
  · exact ⟨k, Int.dvd_sub (Int.dvd_trans (p2dvd c) dx) dy, by omega⟩
theorem fl_add {x y : Int} (hx : Fl x) (hy : Fl y) (h1 : (x + y).natAbs ≤ x.natAbs) (h2 : (x + y).natAbs ≤ y.natAbs) : Fl (x + y) := by
  have e : x + y = x - -y := by omega
  rw [e]
  exact fl_sub hx hy.neg (by omega) (by omega)
/-- The nearest float of a multiple of 2^k is one. -/
theorem nr_dvd_pos {S h : Int} {k : Nat} (n : Nr S h) (d : (2 ^ k : Int) ∣ S) (h0 : 0 ≤ S) : (2 ^ k : Int) ∣ h := by
  by_cases c : (S.natAbs : Int) ≤ 9007199254740992 * 2 ^ k
  · rw [nr_self (fl_of d c) n]; exact d
  · have hT : Fl (9007199254740992 * 2 ^ k) := fl_of ⟨9007199254740992, by rw [Int.mul_comm]⟩ (by have := p2 k; omega)
    have h1 := n.2 _ hT
    obtain ⟨j, dj, bj⟩ := n.1
    have hk := p2 k
    have hj := p2 j
    have : (2 : Int) ^ k < 2 ^ j := by omega
    exact Int.dvd_trans (p2dvd (Nat.le_of_lt (p2lt this))) dj
theorem nr_dvd {S h : Int} {k : Nat} (n : Nr S h) (d : (2 ^ k : Int) ∣ S) : (2 ^ k : Int) ∣ h := by
  rcases Int.le_total 0 S with c | c
  · exact nr_dvd_pos n d c
  · have := nr_dvd_pos n.neg ((Int.dvd_neg).2 d) (by omega)
    exact (Int.dvd_neg).1 this
/-- What a sum loses is a float. -/
theorem err_sum {a b h : Int} (ha : Fl a) (hb : Fl b) (n : Nr (a + b) h) : Fl (a + b - h) := by
  have e1 := n.2 a ha
  have e2 := n.2 b hb
  obtain ⟨j, da, ba⟩ := ha
  obtain ⟨k, db, bb⟩ := hb
  rcases Nat.le_total j k with c | c
  · have d := Int.dvd_add da (Int.dvd_trans (p2dvd c) db)
    exact ⟨j, Int.dvd_sub d (nr_dvd n d), by omega⟩
  · have d := Int.dvd_add (Int.dvd_trans (p2dvd c) da) db
    exact ⟨k, Int.dvd_sub d (nr_dvd n d), by omega⟩
/-- The step back of FastTwoSum is exact. -/
theorem back_pos {a b h : Int} (ha : Fl a) (hb : Fl b) (h0 : 0 ≤ a) (hab : b.natAbs ≤ a.natAbs) (n : Nr (a + b) h) : Fl (h - a) := by
  have ea := n.2 a ha
  have e2 := n.2 (2 * a) ha.dbl
  have ez := n.2 0 fl_zero
  by_cases hs : a ≤ 2 * h
  · exact fl_sub n.1 ha (by omega) (by omega)
  · have hS : Fl (a + b) := by
      obtain ⟨k, ⟨c, hc⟩, ba⟩ := ha
      cases k with
      | zero => exact ⟨0, ⟨a + b, by simp⟩, by simp at ba ⊢; omega⟩
      | succ k =>
        have hf : Fl (2 ^ k * c) := ⟨k, ⟨c, rfl⟩, by rw [p2s] at ba hc; rw [Int.mul_assoc] at hc; omega⟩
        have e3 := n.2 _ hf
        rw [p2s, Int.mul_assoc] at hc
        exact fl_add ⟨k + 1, ⟨c, by rw [p2s, Int.mul_assoc]; exact hc⟩, ba⟩ hb (by omega) (by omega)
    rw [nr_self hS n, show a + b - a = b by omega]
    exact hb
theorem back {a b h : Int} (ha : Fl a) (hb : Fl b) (hab : b.natAbs ≤ a.natAbs) (n : Nr (a + b) h) : Fl (h - a) := by
  rcases Int.le_total 0 a with c | c
  · exact back_pos ha hb c hab n
  · have n2 := n.neg
    rw [show -(a + b) = -a + -b by omega] at n2
    have := (back_pos ha.neg hb.neg (by omega) (by omega) n2).neg
    rwa [show -(-h - -a) = h - a by omega] at this
/-- Where a number lies. -/
theorem binade (S : Int) (h0 : 0 ≤ S) : ∃ k : Nat, S < 9007199254740992 * 2 ^ k ∧ (k = 0 ∨ 4503599627370496 * 2 ^ k ≤ S) := by
  have ex : ∀ n : Nat, S < 9007199254740992 * 2 ^ n → ∃ k : Nat, S < 9007199254740992 * 2 ^ k ∧ (k = 0 ∨ 4503599627370496 * 2 ^ k ≤ S) := by
    intro n
    induction n with
    | zero => intro h; exact ⟨0, h, .inl rfl⟩
    | succ n ih =>
      intro h
      by_cases c : S < 9007199254740992 * 2 ^ n
      · exact ih c
      · exact ⟨n + 1, h, .inr (by rw [p2s]; omega)⟩
  refine ex S.natAbs ?_
  have h1 : S.natAbs < 2 ^ S.natAbs := Nat.lt_two_pow_self
  have h2 : ((2 ^ S.natAbs : Nat) : Int) = 2 ^ S.natAbs := by simp
  have h3 := p2 S.natAbs
  omega
/-- FastTwoSum's steps, the first one not less. -/
theorem fast_sum {a b h v l : Int} (ha : Fl a) (hb : Fl b) (hab : b.natAbs ≤ a.natAbs) (nh : Nr (a + b) h) (nv : Nr (h - a) v) (nl : Nr (b - v) l) : l = a + b - h := by
  have hd := err_sum ha hb nh
  have e1 := nr_self (back ha hb hab nh) nv
  subst e1
  rw [show b - (h - a) = a + b - h by omega] at nl
  exact nr_self hd nl
end Go.Proofs.YtmpioejllfedoaaDoor.M

/-
  Mathematics of Split and TwoProd, over whole numbers. No Go text in sight.
-/
namespace Go.Proofs.YtmpioejllfedoaaDoor.M
set_option linter.unusedVariables false

/-- A float that is not less than 2^52 units is whole in them. -/
theorem fl_units {h : Int} {i : Nat} (f : Fl h) (c : 4503599627370496 * 2 ^ i ≤ (h.natAbs : Int)) : (2 ^ i : Int) ∣ h := by
  obtain ⟨j, d, b⟩ := f
  have hi := p2 i
  have hj := p2 j
  cases i with
  | zero => exact ⟨h, by simp⟩
  | succ i =>
    rw [p2s] at c
    have : (2 : Int) ^ i < 2 ^ j := by omega
    exact Int.dvd_trans (p2dvd (p2lt this)) d
/-- Split's steps on a float of 53 bits in units of 2^j, the sign aside. -/
structure Spl (a h : Int) (j : Nat) : Prop where
  up : (134217728 * 2 ^ j : Int) ∣ h
  lo : (2 ^ j : Int) ∣ a - h
  top : (h.natAbs : Int) ≤ 9007199254740992 * 2 ^ j
  low : ((a - h).natAbs : Int) ≤ 67108864 * 2 ^ j
theorem Spl.neg {a h : Int} {j : Nat} (s : Spl a h j) : Spl (-a) (-h) j :=
  ⟨(Int.dvd_neg).2 s.up, by rw [show -a - -h = -(a - h) by omega]; exact (Int.dvd_neg).2 s.lo, by rw [Int.natAbs_neg]; exact s.top, by rw [show -a - -h = -(a - h) by omega, Int.natAbs_neg]; exact s.low⟩
end Go.Proofs.YtmpioejllfedoaaDoor.M

/-
  Mathematics of TwoProd, over whole numbers: scaling, Dekker's steps. No Go text in sight.
-/
namespace Go.Proofs.YtmpioejllfedoaaDoor.M
set_option linter.unusedVariables false

theorem natAbs_p2 (i : Nat) (t : Int) : ((2 ^ i * t).natAbs : Int) = 2 ^ i * (t.natAbs : Int) := by
  have hi := p2 i
  rw [Int.natAbs_mul, Int.natCast_mul, show ((2 ^ i : Int).natAbs : Int) = 2 ^ i by omega]
theorem Fl.down {i : Nat} {t : Int} (h : Fl (2 ^ i * t)) : Fl t := by
  obtain ⟨k, d, b⟩ := h
  rw [natAbs_p2] at b
  rcases Nat.le_total i k with c | c
  · obtain ⟨e, rfl⟩ : ∃ e, k = i + e := ⟨k - i, by omega⟩
    rw [Int.pow_add] at d b
    refine ⟨e, Int.dvd_of_mul_dvd_mul_left (by have := p2 i; omega) d, ?_⟩
    have e2 : (9007199254740992 : Int) * (2 ^ i * 2 ^ e) = 2 ^ i * (9007199254740992 * 2 ^ e) := by rw [← Int.mul_assoc, ← Int.mul_assoc, Int.mul_comm _ (2 ^ i)]
    rw [e2] at b
    exact Int.lt_of_mul_lt_mul_left b (Int.le_of_lt (p2 i))
  · refine ⟨0, ⟨t, by simp⟩, ?_⟩
    have h1 : (9007199254740992 : Int) * 2 ^ k ≤ 2 ^ i * 9007199254740992 := by rw [Int.mul_comm]; exact Int.mul_le_mul_of_nonneg_right (p2le c) (by decide)
    have h2 := Int.lt_of_mul_lt_mul_left (Int.lt_of_lt_of_le b h1) (Int.le_of_lt (p2 i))
    simpa using h2
theorem Fl.up {t : Int} (h : Fl t) (i : Nat) : Fl (2 ^ i * t) := by
  obtain ⟨k, ⟨c, rfl⟩, b⟩ := h
  refine ⟨i + k, ⟨c, by rw [Int.pow_add, Int.mul_assoc]⟩, ?_⟩
  rw [natAbs_p2, Int.pow_add]
  have e2 : (9007199254740992 : Int) * (2 ^ i * 2 ^ k) = 2 ^ i * (9007199254740992 * 2 ^ k) := by rw [← Int.mul_assoc, ← Int.mul_assoc, Int.mul_comm _ (2 ^ i)]
  rw [e2]
  exact Int.mul_lt_mul_of_pos_left b (p2 i)
end Go.Proofs.YtmpioejllfedoaaDoor.M
