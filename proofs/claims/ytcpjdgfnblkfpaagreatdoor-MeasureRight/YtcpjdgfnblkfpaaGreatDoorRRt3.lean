/-
  Plain mathematics: what RoundRoots asks of Root's answers.
-/
import Derived.Test.YtcpjdgfnblkfpaaGreatDoorRRt2
import Derived.Test.YtcpjdgfnblkfpaaGreatDoorRQD
namespace Go.Proofs.YtcpjdgfnblkfpaaGreatDoor
open Go Go.RowKit Go.Proofs.YtcpjdgfnblkfpaaGreatDoor.M
set_option linter.unusedSimpArgs false
set_option linter.unusedVariables false

theorem p52 {B : Nat} (h : B = 2 ^ 52) (n : Nat) : ((B * 2 ^ n : Nat) : Int) = 2 ^ (52 + n) := by
  subst h
  rw [← Nat.pow_add, Int.natCast_pow]
  rfl
theorem vS_bin {B : Nat} (hB : B = 4503599627370496) (a : Nat) : vS (a * B + B) = pw (-1074 + ((52 + a : Nat) : Int)) := by
  have eB : Ieee.double.binade = B := by rw [hB]; decide
  have h := (V_rung Ieee.double a B (by rw [eB]; omega) (fun _ => by rw [eB]; exact Nat.le_refl _)).1
  rw [eB] at h
  unfold vS
  rw [h, p52 (by rw [hB]), pw_add (by decide), Int.mul_comm]
theorem vS_inf : vS 9218868437227405312 = pw 1024 := by
  have h := vS_bin (B := 4503599627370496) rfl 2046
  have e : 2046 * 4503599627370496 + 4503599627370496 = 9218868437227405312 := by decide
  have e1 : (-1074 : Int) + ((52 + 2046 : Nat) : Int) = 1024 := by decide
  rw [e, e1] at h
  exact h
structure Roo (X d : Int) (o : Bool) : Prop where
  rg : rng d
  pk : pok d = true
  lo : patV d * patV d ≤ X
  eq : patV d * patV d = X ↔ o = false
  nxt : pok (next d) = true → X < patV (next d) * patV (next d)
theorem sgF (v : Int) : sg false v = v := rfl
theorem roo_of {X : Int} {r0 : Nat} {left : Int} (R : RungR X r0 left) (hX : X < pw 1024 * pw 1024) : Roo X (patS false (rTo 1 false r0 left)) (decide (left ≠ 0) || decide (9218868437227405312 ≤ (r0 : Int))) := by
  have hr : (r0 : Int) < 9218868437227405312 := by
    rcases Int.lt_or_le (r0 : Int) 9218868437227405312 with h | h
    · exact h
    · exfalso
      have h1 : vS 9218868437227405312 ≤ vS r0 := by
        rcases Nat.lt_or_eq_of_le (show 9218868437227405312 ≤ r0 by omega) with q | q
        · exact Int.le_of_lt (vS_lt q)
        · rw [← q]; exact Int.le_refl _
      rw [vS_inf] at h1
      exact absurd (Int.lt_of_lt_of_le hX (Int.le_trans (sq_le (Int.le_of_lt (pw_pos _)) h1) R.lo)) (Int.lt_irrefl _)
  obtain ⟨t1, _, _, _⟩ := rTo_fin (ng := false) (left := left) hr
  have e1 : rTo 1 false r0 left = (r0 : Int) := by rw [t1, if_neg (fun h => by cases h.2)]
  have ho : (decide (left ≠ 0) || decide (9218868437227405312 ≤ (r0 : Int))) = decide (left ≠ 0) := by rw [decide_eq_false (p := 9218868437227405312 ≤ (r0 : Int)) (Int.not_le.2 hr), Bool.or_false]
  rw [e1, ho]
  have hv : patV (patS false (r0 : Int)) = vS r0 := (patV_patS (ng := false) hr (fun h => by cases h)).trans (sgF _)
  have hnx : next (patS false (r0 : Int)) = patS false ((r0 + 1 : Nat) : Int) := by
    rw [next_pos (by omega) hr]; rfl
  obtain ⟨lo, hi, l0⟩ := R
  refine ⟨(patS_facts (by omega) (by omega) (fun h => by cases h)).1, ?_, by rw [hv]; exact lo, ?_, fun h => ?_⟩
  · rw [patS_pok (by omega) (by omega) (fun h => by cases h)]; exact decide_eq_true hr
  · rw [hv, decide_eq_false_iff_not, Classical.not_not, l0]
    exact ⟨Eq.symm, Eq.symm⟩
  · rw [hnx] at h ⊢
    have h1 := pok_pos (by omega) (k_le hr) h
    rw [(patV_patS (ng := false) h1 (fun h => by cases h)).trans (sgF _)]
    exact hi
theorem patV_rg {b : Int} (hb : rng b) (hp : pok b = true) : ∃ (ng : Bool) (r : Nat), (r : Int) = rg b ∧ (r : Int) < 9218868437227405312 ∧ patV b = sg ng (vS r) := by
  obtain ⟨r0, r1⟩ := rg_parts hb
  have hlt : rg b < 9218868437227405312 := by
    have hne := pparts hp
    have hf : 0 ≤ frc b ∧ frc b < 4503599627370496 := by unfold frc; omega
    have hg : 0 ≤ fld b ∧ fld b < 2048 := by unfold fld; omega
    omega
  obtain ⟨r, hr⟩ : ∃ r : Nat, (r : Int) = rg b := ⟨(rg b).toNat, Int.toNat_of_nonneg r0⟩
  have hs : b = patS (decide (b < 0)) (r : Int) := by
    rw [hr]
    unfold patS rg
    by_cases h : b < 0
    · rw [decide_eq_true h, if_pos rfl, if_pos h]; omega
    · rw [decide_eq_false h, if_neg (by decide), if_neg h]
  refine ⟨decide (b < 0), r, hr, by rw [hr]; exact hlt, ?_⟩
  rw [← hr] at hlt
  cases hd : decide (b < 0)
  · rw [hd] at hs
    rw [hs]
    exact patV_patS hlt (fun h => by cases h)
  · rw [hd] at hs
    rw [hs]
    exact patV_neg hlt
theorem canon_abs {b : Int} (hb : rng b) (hp : pok b = true) : canon (abs b) = rg b := by
  obtain ⟨_, _, hr, hlt, _⟩ := patV_rg hb hp
  rw [hr] at hlt
  have hc : cls b ≠ 4 := fun h => by have := (cls_rg hb).1.1 h; omega
  have ha : abs b = rg b := by unfold abs rg; rw [if_neg hc]
  obtain ⟨r0, _⟩ := rg_parts hb
  have hrr : rng (rg b) := by unfold rng; omega
  have hrg : rg (rg b) = rg b := by
    have h2 : rg (rg b) = if rg b < 0 then rg b + 9223372036854775808 else rg b := rfl
    rw [h2, if_neg (by omega)]
  rw [ha]
  unfold canon
  rw [if_neg (fun h => by have := (cls_rg hrr).1.1 h; rw [hrg] at this; omega)]
  by_cases h0 : cls (rg b) = 0
  · rw [if_pos h0]
    have := (cls_rg hrr).2.1 h0
    rw [hrg] at this
    omega
  · rw [if_neg h0]
theorem sg_sq (g : Bool) (a : Int) : sg g a * sg g a = a * a := by
  cases g
  · rfl
  · show -a * -a = a * a
    rw [Int.neg_mul_neg]
/-- The root of a float's square is the float's size. -/
theorem root_back {x : NumR} {s b : Int} (ok : okR x = true) (hs : IsRoot (scV (val x.d x.n) (tK (val x.d x.n) x.e)) s) (hb : rng b) (hp : pok b = true) (h : val x.d x.n * (pw x.e * pw 0) = patV b * patV b) : tR64 0 x s = (canon (abs b), false) := by
  obtain ⟨r0, left, hR, hE⟩ := root_rung (way := 0) ok hs
  obtain ⟨ng, r, hr, hlt, hv⟩ := patV_rg hb hp
  rw [h, hv, sg_sq] at hR
  have e := hR.unique (rungR_sq r)
  subst e
  have hl := hR.l0.2 rfl
  subst hl
  have hz : rTo 0 false r0 0 = (r0 : Int) := by
    unfold rTo
    rw [if_pos hlt]
    cases hu : rUp 0 false (decide (r0 % 2 = 1)) 0
    · simp
    · exact (rUp_left hu).elim
  rw [hE, hz, canon_abs hb hp, ← hr]
  rw [decide_eq_false (p := (0 : Int) ≠ 0) (fun h => h rfl), decide_eq_false (p := 9218868437227405312 ≤ (r0 : Int)) (Int.not_le.2 hlt)]
  rfl
end Go.Proofs.YtcpjdgfnblkfpaaGreatDoor
