/-
  Plain mathematics: the sum of two floats is the exact sum, rounded to the nearest. No Go text in sight.
-/
import Derived.Test.YtcpjdgfnblkfpaaGreatDoorRIee2
import Derived.Test.YtcpjdgfnblkfpaaGreatDoorRRt3
namespace Go.Proofs.YtcpjdgfnblkfpaaGreatDoor
open Go Go.RowKit Go.Proofs.YtcpjdgfnblkfpaaGreatDoor.M Ieee
set_option linter.unusedSimpArgs false
set_option linter.unusedVariables false

theorem wd_word {ng : Bool} {r : Int} (h0 : 0 ≤ r) (h1 : r ≤ 9218868437227405312) : Ieee.double.word ng r.toNat = wd (patS ng r) := by
  unfold Format.word wd patS
  rw [dSign]
  cases ng
  · rw [if_neg (by decide), if_neg (by decide)]; omega
  · rw [if_pos rfl, if_pos rfl]; omega
theorem rg_lt {b : Int} (hb : rng b) (hp : pok b = true) : 0 ≤ rg b ∧ rg b < 9218868437227405312 := by
  obtain ⟨_, r, hr, hlt, _⟩ := patV_rg hb hp
  omega
theorem patV_dec {b : Int} (hb : rng b) (hp : pok b = true) : patV b = sg (decide (b < 0)) (vS (rg b).toNat) := by
  obtain ⟨h0, h1⟩ := rg_lt hb hp
  obtain ⟨r, hr⟩ : ∃ r : Nat, (r : Int) = rg b := ⟨(rg b).toNat, Int.toNat_of_nonneg h0⟩
  have hs : b = patS (decide (b < 0)) (r : Int) := by
    rw [hr]
    unfold patS rg
    by_cases h : b < 0
    · rw [decide_eq_true h, if_pos rfl, if_pos h]; omega
    · rw [decide_eq_false h, if_neg (by decide), if_neg h]
  rw [← hr] at h1 ⊢
  rw [Int.toNat_natCast]
  cases hd : decide (b < 0)
  · rw [hd] at hs
    rw [hs]
    exact patV_patS h1 (fun h => by cases h)
  · rw [hd] at hs
    rw [hs]
    exact patV_neg h1
/-- A finite word's reading. -/
theorem read_wd {b : Int} (hb : rng b) (hp : pok b = true) : ∃ m u : Nat, Ieee.double.read (wd b) = .number (decide (b < 0)) m (-1074 + (u : Int)) ∧ patV b = sg (decide (b < 0)) ((m : Int) * pw (-1074 + (u : Int))) := by
  obtain ⟨h0, h1⟩ := rg_lt hb hp
  have hw : ((wd b % 9223372036854775808 : Nat) : Int) = rg b := wd_rung hb
  have hw2 : wd b % 9223372036854775808 = (rg b).toNat := by omega
  obtain ⟨m, u, h, hm⟩ := read_finite Ieee.double (wd b) (by rw [dSign, dInf]; omega)
  rw [dSign, dLeast, wd_neg hb] at h
  rw [dSign, hw2] at hm
  refine ⟨m, u, h, ?_⟩
  have e : vS (rg b).toNat = (m : Int) * pw (-1074 + (u : Int)) := by
    unfold vS
    rw [← hm, pw_add (by decide), Int.mul_comm (pw (-1074))]
    generalize pw (-1074) = q
    push_cast
    rw [Int.mul_assoc]
  rw [patV_dec hb hp, e]
theorem signed_pw (s : Bool) (m k : Nat) {i base : Int} (h : i = base + (k : Int)) (hb : -4194304 ≤ base) : signed s m k * pw base = sg s ((m : Int) * pw i) := by
  rw [signed_V, h, pw_add hb, Int.mul_comm (pw base), ← Int.mul_assoc]
  have e : ((m * 2 ^ k : Nat) : Int) = (m : Int) * 2 ^ k := by push_cast; rfl
  rw [e]
  generalize (m : Int) * 2 ^ k = t
  unfold sg
  cases s
  · rfl
  · show -t * pw base = -(t * pw base)
    rw [Int.neg_mul]
theorem natAbs_sg {t q : Int} (hq : 0 < q) : t * q = sg (decide (t < 0)) ((t.natAbs : Int) * q) := by
  by_cases h : t < 0
  · rw [decide_eq_true h]
    show t * q = -((t.natAbs : Int) * q)
    rw [← Int.neg_mul, show -(t.natAbs : Int) = t by omega]
  · rw [decide_eq_false h]
    show t * q = (t.natAbs : Int) * q
    rw [show (t.natAbs : Int) = t by omega]
theorem lt_zero_iff {t q : Int} (hq : 0 < q) : t < 0 ↔ t * q < 0 := by
  constructor
  · exact fun h => Int.mul_neg_of_neg_of_pos h hq
  · intro h
    rcases Int.lt_or_le t 0 with g | g
    · exact g
    · exact absurd h (Int.not_lt.2 (Int.mul_nonneg g (Int.le_of_lt hq)))
theorem eq_zero_iff {t q : Int} (hq : 0 < q) : t = 0 ↔ t * q = 0 := by
  constructor
  · intro h; rw [h, Int.zero_mul]
  · intro h
    rcases Int.mul_eq_zero.1 h with g | g
    · exact g
    · omega
/-- What is written of a number that is told by its sign, size and place. -/
theorem write_near {S t base : Int} (hb : -4194304 ≤ base) (hS : t * pw base = S) (h0 : S ≠ 0) :
    ∃ (A : Int) (r0 : Nat) (left : Int), S = sg (decide (S < 0)) A ∧ Rung A r0 left ∧ Ieee.double.nearest (decide (t < 0)) t.natAbs base = wd (patS (decide (S < 0)) (rTo 0 (decide (S < 0)) r0 left)) := by
  have hq := pw_pos base
  have ht : t ≠ 0 := fun h => h0 (by rw [← hS, h, Int.zero_mul])
  have hd : decide (t < 0) = decide (S < 0) := by rw [← hS]; congr 1; exact propext (lt_zero_iff hq)
  obtain ⟨r0, left, hR, hE⟩ := nearest_rung (decide (t < 0)) (mag := t.natAbs) (place := base) (by omega) hb
  refine ⟨_, r0, left, ?_, hR, ?_⟩
  · rw [← hd, ← hS]; exact natAbs_sg hq
  · rw [hE, hd]
    obtain ⟨g1, g2⟩ := rTo_range 0 (decide (S < 0)) r0 left
    exact wd_word g1 g2
theorem fadd {a b : Int} (ha : rng a) (hb : rng b) (pa : pok a = true) (pb : pok b = true) :
    (patV a + patV b = 0 → Ieee.double.add (wd a) (wd b) = some (wd (patS (decide (a < 0) && decide (b < 0)) 0))) ∧
    (patV a + patV b ≠ 0 → ∃ (A : Int) (r0 : Nat) (left : Int), patV a + patV b = sg (decide (patV a + patV b < 0)) A ∧ Rung A r0 left ∧ Ieee.double.add (wd a) (wd b) = some (wd (patS (decide (patV a + patV b < 0)) (rTo 0 (decide (patV a + patV b < 0)) r0 left)))) := by
  obtain ⟨m, u, h1, v1⟩ := read_wd ha pa
  obtain ⟨n, v, h2, v2⟩ := read_wd hb pb
  have hadd : Ieee.double.add (wd a) (wd b) = some (Ieee.double.nearest (if signed (decide (a < 0)) m (u - min u v) + signed (decide (b < 0)) n (v - min u v) = 0 then decide (a < 0) && decide (b < 0) else decide (signed (decide (a < 0)) m (u - min u v) + signed (decide (b < 0)) n (v - min u v) < 0)) (signed (decide (a < 0)) m (u - min u v) + signed (decide (b < 0)) n (v - min u v)).natAbs (-1074 + ((min u v : Nat) : Int))) := by
    unfold Format.add
    rw [h1, h2]
    unfold Datum.sum
    dsimp only
    have hmin : min (-1074 + (u : Int)) (-1074 + (v : Int)) = -1074 + ((min u v : Nat) : Int) := by omega
    have e1 : (-1074 + (u : Int) - (-1074 + ((min u v : Nat) : Int))).toNat = u - min u v := by omega
    have e2 : (-1074 + (v : Int) - (-1074 + ((min u v : Nat) : Int))).toNat = v - min u v := by omega
    rw [hmin, e1, e2]
    rfl
  have s1 := signed_pw (decide (a < 0)) m (u - min u v) (i := -1074 + (u : Int)) (base := -1074 + ((min u v : Nat) : Int)) (by omega) (by omega)
  have s2 := signed_pw (decide (b < 0)) n (v - min u v) (i := -1074 + (v : Int)) (base := -1074 + ((min u v : Nat) : Int)) (by omega) (by omega)
  rw [← v1] at s1
  rw [← v2] at s2
  have hB : -4194304 ≤ -1074 + ((min u v : Nat) : Int) := by omega
  generalize -1074 + ((min u v : Nat) : Int) = base at *
  have hq := pw_pos base
  have hS : (signed (decide (a < 0)) m (u - min u v) + signed (decide (b < 0)) n (v - min u v)) * pw base = patV a + patV b := by rw [Int.add_mul, s1, s2]
  generalize signed (decide (a < 0)) m (u - min u v) + signed (decide (b < 0)) n (v - min u v) = t at *
  clear s1 s2 v1 v2 h1 h2
  refine ⟨fun h => ?_, fun h => ?_⟩
  · have ht : t = 0 := (eq_zero_iff hq).2 (hS.trans h)
    rw [hadd, ht, if_pos rfl]
    unfold Format.nearest
    rw [if_pos (show Int.natAbs 0 = 0 from rfl)]
    have := wd_word (ng := decide (a < 0) && decide (b < 0)) (r := 0) (by decide) (by decide)
    rw [← this]
    rfl
  · have ht : t ≠ 0 := fun e => h (by rw [← hS, e, Int.zero_mul])
    obtain ⟨A, r0, left, q1, q2, q3⟩ := write_near hB hS h
    refine ⟨A, r0, left, q1, q2, ?_⟩
    rw [hadd, if_neg ht, q3]
end Go.Proofs.YtcpjdgfnblkfpaaGreatDoor
