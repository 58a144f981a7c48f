/-
  Package orient's filter on patterns: where it decides, the sign is the exact one.
-/
import Derived.Test.YtcpjdgfnblkfpaaGreatDoorXOh
namespace Go.Proofs.YtcpjdgfnblkfpaaGreatDoor
open Go Go.RowKit Go.Proofs.YtcpjdgfnblkfpaaGreatDoor.M
set_option linter.unusedSimpArgs false
set_option linter.unusedVariables false

/-- The bounds' patterns. -/
def oA : Int := 4375247037990436868
def oB : Int := 4372995238176751619
def oC : Int := 4143874607134277636
def oK : Int := 4375247037990436866
theorem iV_posO {p m : Int} {n : Nat} (hr : rng p) (hp : pok p = true) (h0 : 0 ≤ p) (hm : pmag p = m * 4) (he : pexp p + 1074 = n) (m0 : 0 ≤ m) : iV p = m * 2 ^ (n + 2) := by
  have e := iV_form hr hp
  rw [hm, he, Int.toNat_natCast] at e
  have s : 0 ≤ iV p := by
    rw [iV, decide_eq_false (by omega)]
    exact Int.natCast_nonneg _
  rw [show n + 2 = n + 1 + 1 by omega, p2s, p2s]
  have q := p2 n
  have : m * (2 * (2 * 2 ^ n)) = m * 4 * 2 ^ n := by rw [← Int.mul_assoc 2 2, ← Int.mul_assoc, show (2 : Int) * 2 = 4 from rfl]
  omega
theorem rng_oA : rng oA := by unfold rng oA; omega
theorem iV_oA : iV oA = 1688849860263937 * 2 ^ 972 := iV_posO (n := 970) rng_oA (by decide) (by decide) (by decide) (by decide) (by decide)
theorem fx_oA : Fx 972 1024 oA := by
  refine ⟨rng_oA, by decide, ⟨_, by rw [iV_oA, Int.mul_comm]⟩, ?_⟩
  rw [iV_oA, Int.natAbs_mul, Int.natCast_mul]
  have e : (((2 : Int) ^ 972).natAbs : Int) = 2 ^ 972 := by have := p2 972; omega
  rw [e, show (2 : Int) ^ 1024 = 2 ^ 52 * 2 ^ 972 by rw [← Int.pow_add]]
  exact Int.mul_le_mul_of_nonneg_right (by decide) (Int.le_of_lt (p2 972))
theorem sc_abs {S : Int} {q : Int} (hq : 0 ≤ q) : ((q * S).natAbs : Int) = q * (S.natAbs : Int) := by
  rw [abs_mul]
  congr 1
  omega
theorem sc_sgn {q x : Int} (hq : 0 < q) : (0 < q * x ↔ 0 < x) ∧ (q * x < 0 ↔ x < 0) := by
  rcases Int.lt_trichotomy x 0 with h | h | h
  · have : q * x < 0 := Int.mul_neg_of_pos_of_neg hq h
    omega
  · rw [h, Int.mul_zero]
    exact ⟨Iff.rfl, Iff.rfl⟩
  · have : 0 < q * x := Int.mul_pos hq h
    omega
/-- What the filter's floats tell of the exact value, all in one scale. -/
theorem flt_dev {ax ay bx by' cx cy : Int} (hax : Mz ax) (hay : Mz ay) (hbx : Mz bx) (hby : Mz by') (hcx : Mz cx) (hcy : Mz cy) {u1 v1 u2 v2 L R S : Int} (e1 : u1 = fsum ax (neg cx)) (e2 : v1 = fsum ay (neg cy)) (e3 : u2 = fsum bx (neg cx)) (e4 : v2 = fsum by' (neg cy))
    (eL : L = fprod u1 v2) (eR : R = fprod v1 u2) (eS : S = fsum (rg L) (rg R)) :
    FltN u1 v1 u2 v2 ∧
    9007199254740992 * (((iV u1 * iV v2).natAbs : Int) + ((iV v1 * iV u2).natAbs : Int)) ≤ 9007199254740993 * (((2 ^ 1074 * iV L).natAbs : Int) + ((2 ^ 1074 * iV R).natAbs : Int)) ∧
    9007199254740992 * (((2 ^ 1074 * iV L).natAbs : Int) + ((2 ^ 1074 * iV R).natAbs : Int)) ≤ 9007199254740993 * (2 ^ 1074 * iV S) ∧ 0 ≤ 2 ^ 1074 * iV S ∧
    81129638414606681695789005144064 * ((((iV ax - iV cx) * (iV by' - iV cy) - (iV ay - iV cy) * (iV bx - iV cx)) - (iV u1 * iV v2 - iV v1 * iV u2)).natAbs : Int) ≤ 18014398509481985 * (((iV u1 * iV v2).natAbs : Int) + ((iV v1 * iV u2).natAbs : Int)) := by
  obtain ⟨f1, n1⟩ := hax.diff hcx
  obtain ⟨f2, n2⟩ := hay.diff hcy
  obtain ⟨f3, n3⟩ := hbx.diff hcx
  obtain ⟨f4, n4⟩ := hby.diff hcy
  rw [← e1] at f1 n1
  rw [← e2] at f2 n2
  rw [← e3] at f3 n3
  rw [← e4] at f4 n4
  have F := fltN_of f1 f2 f3 f4
  refine ⟨F, ?_⟩
  have q0 := Int.le_of_lt (p2 1074)
  have su := F.su.scale q0
  rw [Int.mul_add, ← sc_abs q0, ← sc_abs q0] at su
  rw [eS, eL, eR]
  exact dev_heads n1 n4 n2 n3 F.lu F.ru su
/-- Where the filter decides, its sign is the exact one. -/
theorem flt_pat {ax ay bx by' cx cy : Int} (hax : Mz ax) (hay : Mz ay) (hbx : Mz bx) (hby : Mz by') (hcx : Mz cx) (hcy : Mz cy) {u1 v1 u2 v2 L R S D : Int} (e1 : u1 = fsum ax (neg cx)) (e2 : v1 = fsum ay (neg cy)) (e3 : u2 = fsum bx (neg cx)) (e4 : v2 = fsum by' (neg cy))
    (eL : L = fprod u1 v2) (eR : R = fprod v1 u2) (eS : S = fsum (rg L) (rg R)) (eD : D = fsum L (neg R)) (h : iV (fprod oA S) ≤ ((iV D).natAbs : Int)) :
    (0 < (iV ax - iV cx) * (iV by' - iV cy) - (iV ay - iV cy) * (iV bx - iV cx) ↔ 0 < iV D) ∧ ((iV ax - iV cx) * (iV by' - iV cy) - (iV ay - iV cy) * (iV bx - iV cx) < 0 ↔ iV D < 0) := by
  obtain ⟨F, a0, s0, s1, hX⟩ := flt_dev hax hay hbx hby hcx hcy e1 e2 e3 e4 eL eR eS
  have q := p2 1074
  have q0 := Int.le_of_lt q
  have fS : Fx 670 1381 S := by rw [eS, eL, eR]; exact F.s
  obtain ⟨_, _, T, hT, uT⟩ := fx_oA.prod fS (by decide) (by decide) (by decide)
  have du : Un (2 ^ 1074 * iV L - 2 ^ 1074 * iV R) (2 ^ 1074 * iV D) := by
    rw [← Int.mul_sub, eD, eL, eR]
    exact F.du.scale q0
  have hT' : 5070602400912917605986812821504 * (2 ^ 1074 * T) = 1688849860263937 * (2 ^ 1074 * iV S) := by
    rw [hT, iV_oA, show (5070602400912917605986812821504 : Int) = 2 ^ 102 by decide, show (2 : Int) ^ 1074 = 2 ^ 102 * 2 ^ 972 by rw [← Int.pow_add]]
    generalize (2 : Int) ^ 972 = z
    generalize (2 : Int) ^ 102 = y
    generalize iV S = x
    rw [Int.mul_assoc, Int.mul_assoc, Int.mul_left_comm]
  have hM : 2 ^ 1074 * iV (fprod oA S) ≤ ((2 ^ 1074 * iV D).natAbs : Int) := by
    rw [sc_abs q0]
    exact Int.mul_le_mul_of_nonneg_left h q0
  have lu := F.lu
  have ru := F.ru
  rw [← eL] at lu
  rw [← eR] at ru
  obtain ⟨r1, r2⟩ := flt_sign lu ru a0 s0 s1 hX du hT' (uT.scale q0) hM
  rw [r1, r2]
  exact sc_sgn q
end Go.Proofs.YtcpjdgfnblkfpaaGreatDoor
