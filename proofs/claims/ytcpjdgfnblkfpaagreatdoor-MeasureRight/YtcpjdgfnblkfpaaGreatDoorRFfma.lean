/-
  Plain mathematics: a product and a sum of floats, rounded once. No Go text in sight.
-/
import Derived.Test.YtcpjdgfnblkfpaaGreatDoorRFsqrt
namespace Go.Proofs.YtcpjdgfnblkfpaaGreatDoor
open Go Go.RowKit Go.Proofs.YtcpjdgfnblkfpaaGreatDoor.M Ieee
set_option linter.unusedSimpArgs false
set_option linter.unusedVariables false

theorem nearest_nearP {S t base : Int} (hb : -4194304 ≤ base) (hS : t * pw base = S) (h0 : S ≠ 0) : Ieee.double.nearest (decide (t < 0)) t.natAbs base = wd (nearP S) := by
  obtain ⟨A, r0, left, a1, a2, a3⟩ := write_near hb hS h0
  obtain ⟨B, s0, k, b1, b2, b3⟩ := nearP_rung h0
  have hAB := sg_inj (a1.symm.trans b1)
  subst hAB
  obtain ⟨h2, h3⟩ := a2.unique b2
  subst h2 h3
  rw [a3, b3]
/-- The exact sum of a product and a number, in the scale. -/
def fmaS (p q r : Int) : Int := sg (xsg p q) (fsize p q) + patV r
theorem ffma_fin {p q r : Int} (hp : rng p) (hq : rng q) (hr : rng r) (pp : pok p = true) (pq : pok q = true) (pr : pok r = true) :
    Ieee.double.fma (wd p) (wd q) (wd r) = some (wd (if fmaS p q r = 0 then patS (xsg p q && decide (r < 0)) 0 else nearP (fmaS p q r))) := by
  obtain ⟨m, u, h1, v1⟩ := read_wd hp pp
  obtain ⟨n, v, h2, v2⟩ := read_wd hq pq
  obtain ⟨l, x, h3, v3⟩ := read_wd hr pr
  obtain ⟨i, hi⟩ : ∃ i : Int, -1074 + (u : Int) + (-1074 + (v : Int)) = i := ⟨_, rfl⟩
  obtain ⟨j, hj⟩ : ∃ j : Int, -1074 + (x : Int) = j := ⟨_, rfl⟩
  have hpm := pw_mul (a := -1074 + (u : Int)) (b := -1074 + (v : Int)) (by omega) (by omega)
  have hC := fmul_core (g := decide (p < 0)) (h := decide (q < 0)) (x := (m : Int)) (y := (n : Int)) hpm
  rw [← v1, ← v2, hi] at hC
  have hcast : ((m * n : Nat) : Int) = (m : Int) * (n : Int) := by push_cast; rfl
  have hf : fsize p q = ((m * n : Nat) : Int) * pw i := by rw [hcast]; exact fsize_of (two_pos 4194304) hC
  obtain ⟨base, hbase⟩ : ∃ base, min i j = base := ⟨_, rfl⟩
  have hB : -4194304 ≤ base := by omega
  obtain ⟨t, ht⟩ : ∃ t, signed (xsg p q) (m * n) (i - base).toNat + signed (decide (r < 0)) l (j - base).toNat = t := ⟨_, rfl⟩
  have hfma : Ieee.double.fma (wd p) (wd q) (wd r) = some (Ieee.double.nearest (if t = 0 then xsg p q && decide (r < 0) else decide (t < 0)) t.natAbs base) := by
    unfold Format.fma
    rw [h1, h2, h3]
    unfold Datum.product
    dsimp only
    rw [hi, hj, xor_ne]
    show Option.map Ieee.double.write (Datum.sum (.number (xsg p q) (m * n) i) (.number (decide (r < 0)) l j)) = _
    unfold Datum.sum
    dsimp only
    rw [hbase, ht]
    rfl
  have s1 := signed_pw (xsg p q) (m * n) (i - base).toNat (i := i) (base := base) (by omega) hB
  have s2 := signed_pw (decide (r < 0)) l (j - base).toNat (i := j) (base := base) (by omega) hB
  rw [hj] at v3
  rw [← hf] at s1
  rw [← v3] at s2
  have hS : t * pw base = fmaS p q r := by
    unfold fmaS
    rw [← ht, Int.add_mul, s1, s2]
  rw [hfma]
  by_cases h : fmaS p q r = 0
  · have ht0 : t = 0 := (eq_zero_iff (pw_pos base)).2 (hS.trans h)
    rw [if_pos h, ht0, if_pos rfl]
    unfold Format.nearest
    rw [if_pos (show Int.natAbs 0 = 0 from rfl)]
    have := wd_word (ng := xsg p q && decide (r < 0)) (r := 0) (by decide) (by decide)
    rw [← this]
    rfl
  · have ht0 : t ≠ 0 := fun e => h (by rw [← hS, e, Int.zero_mul])
    rw [if_neg h, if_neg ht0, nearest_nearP hB hS h]
end Go.Proofs.YtcpjdgfnblkfpaaGreatDoor
