/-
  Plain mathematics: what a product loses when it is rounded, in any way, is a float. No Go text in sight.
-/
import Derived.Test.YtcpjdgfnblkfpaaGreatDoorRRd
import Derived.Test.YtcpjdgfnblkfpaaGreatDoorEPat
namespace Go.Proofs.YtcpjdgfnblkfpaaGreatDoor
open Go Go.RowKit Go.Proofs.YtcpjdgfnblkfpaaGreatDoor.M
set_option linter.unusedSimpArgs false
set_option linter.unusedVariables false

/-- The exact product, in the scale. -/
def prV (a b : Int) : Int := sg (xsg a b) (fsize a b)
theorem prV_eq {a b : Int} : prV a b = patV a * patV b / 2 ^ 4194304 := by
  unfold prV fsize
  cases xsg a b
  · rfl
  · show - -_ = _; rw [Int.neg_neg]
theorem prV_parts {a b : Int} (ra : rng a) (rb : rng b) (pa : pok a = true) (pb : pok b = true) :
    ∃ N t : Nat, fsize a b = (N : Int) * pw (-2148 + (t : Int)) ∧ N < 2 ^ 106 ∧ prV a b * 2 ^ 4194304 = patV a * patV b := by
  obtain ⟨m, u, h1, v1⟩ := read_wd ra pa
  obtain ⟨n, v, h2, v2⟩ := read_wd rb pb
  have b1 := log2_fin ra pa h1
  have b2 := log2_fin rb pb h2
  have hpm := pw_mul (a := -1074 + (u : Int)) (b := -1074 + (v : Int)) (by omega) (by omega)
  have hC := fmul_core (g := decide (a < 0)) (h := decide (b < 0)) (x := (m : Int)) (y := (n : Int)) hpm
  rw [← v1, ← v2] at hC
  have hcast : ((m * n : Nat) : Int) = (m : Int) * (n : Int) := by push_cast; rfl
  have hf : fsize a b = ((m * n : Nat) : Int) * pw (-1074 + (u : Int) + (-1074 + (v : Int))) := by rw [hcast]; exact fsize_of (two_pos 4194304) hC
  refine ⟨m * n, u + v, ?_, ?_, ?_⟩
  · rw [hf, show -1074 + (u : Int) + (-1074 + (v : Int)) = -2148 + ((u + v : Nat) : Int) by push_cast; omega]
  · have e : (2 : Nat) ^ 106 = 9007199254740992 * 9007199254740992 := by decide
    rw [e]
    exact Nat.lt_of_le_of_lt (Nat.mul_le_mul_left m (Nat.le_of_lt b2.1)) (Nat.mul_lt_mul_of_pos_right b1.1 (by decide))
  · rw [← hC]
    unfold prV
    rw [hf, hcast]
    rfl
theorem two_ltI {j k : Nat} (h : (2 : Int) ^ j < 2 ^ k) : j < k := p2lt h
theorem fus_core {N U s t q Z E : Nat} (hE : E = 1074) (hZ : Z = 2 ^ E) (hq : 0 < q) (hN : N < 2 ^ 106) (hU : 4503599627370496 ≤ U) (lo : U * 2 ^ s * (q * Z) ≤ N * (q * 2 ^ t)) : s + 1021 ≤ t := by
  have e52 : (2 : Nat) ^ 52 = 4503599627370496 := by decide
  have hB := Nat.two_pow_pos s
  have hC := Nat.two_pow_pos t
  have hZ0 : 0 < Z := by rw [hZ]; exact Nat.two_pow_pos _
  have l1 : 4503599627370496 * (2 ^ s * Z * q) ≤ U * 2 ^ s * (q * Z) := by
    rw [show U * 2 ^ s * (q * Z) = U * (2 ^ s * Z * q) by generalize (2 : Nat) ^ s = B; grind]
    exact Nat.mul_le_mul_right _ hU
  have l2 : N * (q * 2 ^ t) < 2 ^ 106 * 2 ^ t * q := by
    rw [show 2 ^ 106 * 2 ^ t * q = 2 ^ 106 * (q * 2 ^ t) by generalize (2 : Nat) ^ 106 = A; generalize (2 : Nat) ^ t = B; grind]
    exact Nat.mul_lt_mul_of_pos_right hN (Nat.mul_pos hq hC)
  have l3 : (4503599627370496 * 2 ^ s * Z) * q < (2 ^ 106 * 2 ^ t) * q := by
    have : 4503599627370496 * 2 ^ s * Z * q = 4503599627370496 * (2 ^ s * Z * q) := by generalize (2 : Nat) ^ s = B; grind
    rw [this]
    exact Nat.lt_of_le_of_lt (Nat.le_trans l1 lo) l2
  have l4 := Nat.lt_of_mul_lt_mul_right l3
  rw [← e52, hZ, ← Nat.pow_add, ← Nat.pow_add, ← Nat.pow_add] at l4
  have h3 := (Nat.pow_lt_pow_iff_right (by decide : 1 < 2)).1 l4
  omega
/-- S = N 2^k - V, with V one of the neighbours U 2^s, (U + 1) 2^s. -/
theorem fus_fl {N U s k : Nat} {S : Int} (hk : s ≤ k + 53) (h : S = (N : Int) * 2 ^ k - (U : Int) * 2 ^ s ∨ S = (N : Int) * 2 ^ k - ((U : Int) + 1) * 2 ^ s) (hS : (S.natAbs : Int) < 2 ^ s) : Fl S := by
  rcases Nat.lt_or_ge k s with g | g
  · refine fl_of (k := k) ?_ ?_
    · obtain ⟨d, hd⟩ := p2dvd (Nat.le_of_lt g)
      rcases h with h | h
      · exact ⟨N - U * d, by rw [h, hd]; grind⟩
      · exact ⟨N - (U + 1) * d, by rw [h, hd]; grind⟩
    · have h1 := p2le hk
      rw [Int.pow_add, show (2 : Int) ^ 53 = 9007199254740992 by decide, Int.mul_comm] at h1
      omega
  · obtain ⟨d, hd⟩ := p2dvd g
    have hdv : (2 ^ s : Int) ∣ S := by
      rcases h with h | h
      · exact ⟨N * d - U, by rw [h, hd]; grind⟩
      · exact ⟨N * d - (U + 1), by rw [h, hd]; grind⟩
    have h0 : S = 0 := by
      obtain ⟨c, hc⟩ := hdv
      have hp := p2 s
      rcases Int.lt_trichotomy c 0 with hn | hn | hn
      · have : 2 ^ s * c ≤ 2 ^ s * (-1) := Int.mul_le_mul_of_nonneg_left (by omega) (Int.le_of_lt hp)
        omega
      · rw [hc, hn, Int.mul_zero]
      · have : 2 ^ s * 1 ≤ 2 ^ s * c := Int.mul_le_mul_of_nonneg_left (by omega) (Int.le_of_lt hp)
        omega
    rw [h0]; exact fl_zero
theorem nsn (a b : Int) : -a - -b = -(a - b) := by omega
theorem fus_all {N U s t E : Nat} {z q pt W : Int} (hE : E = 1074) (hz : 0 < z) (et : pt = z * 2 ^ t) (eq : q = z * 2 ^ E) (hN : N < 2 ^ 106) (hU0 : 4503599627370496 ≤ U) (hs0 : 60 ≤ s) (Rlo : (U : Int) * 2 ^ s * q ≤ (N : Int) * pt) (Rhi : (N : Int) * pt < ((U : Int) + 1) * 2 ^ s * q)
    (hW : W = (U : Int) * 2 ^ s ∨ (W = ((U : Int) + 1) * 2 ^ s ∧ (N : Int) * pt ≠ (U : Int) * 2 ^ s * q)) (hmax : (U : Int) * 2 ^ s ≤ maxV) : ∃ S : Int, (N : Int) * pt - W * q = S * q ∧ Fl S ∧ (S.natAbs : Int) ≤ maxV := by
  have hts : s + 1021 ≤ t := by
    obtain ⟨Z, hZ⟩ : ∃ Z : Nat, Z = 2 ^ E := ⟨_, rfl⟩
    have hZi : (2 : Int) ^ E = (Z : Int) := by rw [hZ]; push_cast; rfl
    obtain ⟨n, rfl⟩ : ∃ n : Nat, z = n := ⟨z.toNat, by omega⟩
    rw [et, eq, hZi] at Rlo
    refine fus_core (N := N) (U := U) (q := n) hE hZ (by omega) hN hU0 ?_
    exact_mod_cast Rlo
  obtain ⟨k, rfl⟩ : ∃ k, t = E + k := ⟨t - E, by omega⟩
  have eA : pt = 2 ^ k * q := by
    rw [et, eq, Nat.add_comm, Int.pow_add]
    generalize (2 : Int) ^ E = X
    generalize (2 : Int) ^ k = Y
    grind
  have hq : 0 < q := by rw [eq]; exact Int.mul_pos hz (p2 E)
  clear et eq
  rw [eA, ← Int.mul_assoc] at Rlo Rhi hW
  rw [eA, ← Int.mul_assoc]
  have Rlo := Int.le_of_mul_le_mul_right Rlo hq
  have Rhi := Int.lt_of_mul_lt_mul_right Rhi (Int.le_of_lt hq)
  have hp := p2 s
  have hU2 : 2 ^ s ≤ (U : Int) * 2 ^ s := by
    have := Int.mul_le_mul_of_nonneg_right (show (1 : Int) ≤ U by omega) (Int.le_of_lt hp)
    rwa [Int.one_mul] at this
  have hW2 : W = (U : Int) * 2 ^ s ∨ (W = ((U : Int) + 1) * 2 ^ s ∧ (N : Int) * 2 ^ k ≠ (U : Int) * 2 ^ s) := by
    rcases hW with h | ⟨h, g⟩
    · exact .inl h
    · exact .inr ⟨h, fun e => g (by rw [e])⟩
  clear hW
  have hS : (((N : Int) * 2 ^ k - W).natAbs : Int) < 2 ^ s := by
    rw [Int.add_mul, Int.one_mul] at Rhi hW2
    clear hmax
    generalize (N : Int) * 2 ^ k = x at *
    generalize (2 : Int) ^ s = y at *
    generalize (U : Int) * y = z' at *
    rcases hW2 with hW | ⟨hW, g⟩ <;> omega
  have hF : Fl ((N : Int) * 2 ^ k - W) := fus_fl (N := N) (k := k) (U := U) (s := s) (by omega) (by rcases hW2 with hW | ⟨hW, _⟩; exact .inl (by rw [hW]); exact .inr (by rw [hW])) hS
  refine ⟨(N : Int) * 2 ^ k - W, by rw [Int.sub_mul], hF, ?_⟩
  exact Int.le_trans (Int.le_of_lt hS) (Int.le_trans hU2 hmax)
theorem eq1074 : pw (-1074) = pw (-2148) * 2 ^ 1074 := by
  obtain ⟨E, hE⟩ : ∃ E : Nat, E = 1074 := ⟨_, rfl⟩
  have := pw_add (e := -2148) (by decide) E
  rw [show (-2148 : Int) + (E : Int) = -1074 by rw [hE]; decide] at this
  rw [← hE]
  exact this
theorem fused_any {a b way : Int} (ra : rng a) (rb : rng b) (pa : pok a = true) (pb : pok b = true) (h : prV a b ≠ 0) (lo : 283726776524341248 ≤ rg (rdP way (prV a b))) (hi : rg (rdP way (prV a b)) ≤ 9209861237972664320 ∨ (way = 0 ∧ rg (rdP way (prV a b)) < 9218868437227405312)) :
    ∃ S : Int, prV a b - patV (rdP way (prV a b)) = S * pw (-1074) ∧ Fl S ∧ (S.natAbs : Int) ≤ maxV := by
  obtain ⟨N, t, hf, hN, hX⟩ := prV_parts ra rb pa pb
  clear hX
  obtain ⟨A, r0, left, e1, hR, e2⟩ := rdP_is way h
  generalize rdP way (prV a b) = p at *
  have hA : A = (N : Int) * pw (-2148 + (t : Int)) ∧ decide (prV a b < 0) = xsg a b := by
    have hp : 0 < fsize a b := by
      have h0 : 0 ≤ fsize a b := by rw [hf]; exact Int.mul_nonneg (by omega) (Int.le_of_lt (pw_pos _))
      have h1 : fsize a b ≠ 0 := fun e => h (by unfold prV; rw [e]; cases xsg a b <;> rfl)
      omega
    have hs : decide (prV a b < 0) = xsg a b := sg_lt hp
    rw [hs] at e1
    exact ⟨(sg_inj e1).symm.trans hf, hs⟩
  obtain ⟨hA, hs⟩ := hA
  rw [hs] at e1 e2
  have hrr := rTo_range way (xsg a b) r0 left
  obtain ⟨rp, hrg, hng⟩ := patS_parts (ng := xsg a b) hrr.1 hrr.2
  rw [← e2] at rp hrg hng
  have hpp : pok p = true := (pok_rg rp).2 (by omega)
  have hr0 : (r0 : Int) < 9218868437227405312 := by
    rcases Int.lt_or_le (r0 : Int) 9218868437227405312 with g | g
    · exact g
    · exfalso
      rw [hrg] at hi
      unfold rTo at hi
      rw [if_neg (by omega)] at hi
      unfold bRung at hi
      rcases hi with hi | ⟨hw, hi⟩
      · split at hi <;> omega
      · rw [hw, show rUp 0 (xsg a b) true 3 = true by cases xsg a b <;> decide, if_pos rfl] at hi
        omega
  have hrt : rTo way (xsg a b) r0 left = (r0 : Int) ∨ (rTo way (xsg a b) r0 left = (r0 : Int) + 1 ∧ left ≠ 0) := by
    unfold rTo
    rw [if_pos hr0]
    by_cases hu : rUp way (xsg a b) (decide (r0 % 2 = 1)) left = true
    · right
      rw [if_pos hu]
      exact ⟨rfl, fun e => by rw [e] at hu; exact rUp_left hu⟩
    · left
      rw [if_neg hu]; omega
  obtain ⟨Rlo, Rhi, l0, _, _, _⟩ := hR
  obtain ⟨s, U, hsU, hU0, hU1, hs0, hs1⟩ : ∃ s U : Nat, r0 = s * 4503599627370496 + U ∧ 4503599627370496 ≤ U ∧ U < 9007199254740992 ∧ 60 ≤ s ∧ s ≤ 2045 := by
    refine ⟨r0 / 4503599627370496 - 1, r0 - (r0 / 4503599627370496 - 1) * 4503599627370496, ?_, ?_, ?_, ?_, ?_⟩
    all_goals (rcases hrt with g | ⟨g, _⟩ <;> omega)
  obtain ⟨V0, V1⟩ := V_rung Ieee.double s U (by rw [dBin]; omega) (fun _ => by rw [dBin]; omega)
  rw [dBin, ← hsU] at V0 V1
  have hmax : (U : Int) * 2 ^ s ≤ maxV := by
    have := V_le (show r0 ≤ 9218868437227405311 by omega)
    rw [V0] at this
    push_cast at this
    exact this
  have hrt : ∃ W : Int, (W = (U : Int) * 2 ^ s ∨ (W = ((U : Int) + 1) * 2 ^ s ∧ left ≠ 0)) ∧ (V Ieee.double (rTo way (xsg a b) r0 left).toNat : Int) = W := by
    rcases hrt with g | ⟨g, g2⟩
    · refine ⟨_, .inl ?_, rfl⟩
      rw [g, Int.toNat_natCast, V0]; push_cast; rfl
    · refine ⟨_, .inr ⟨?_, g2⟩, rfl⟩
      rw [g, show ((r0 : Int) + 1).toNat = r0 + 1 by omega, V1]; push_cast; rfl
  obtain ⟨W, hW, hVW⟩ := hrt
  unfold vS at Rlo Rhi l0
  rw [V0] at Rlo l0
  rw [V1] at Rhi
  push_cast at Rlo Rhi l0
  rw [hA] at Rlo Rhi l0
  have hpv : patV p = sg (xsg a b) W * pw (-1074) := by
    rw [patV_iV rp hpp]
    unfold iV
    rw [hng, hrg, hVW]
  obtain ⟨S, h1, h2, h3⟩ := fus_all (E := 1074) rfl (pw_pos (-2148)) (pw_add (by decide) t) eq1074 hN hU0 hs0 Rlo Rhi (by rcases hW with h | ⟨h, g⟩; exact .inl h; exact .inr ⟨h, fun e => g (l0.2 e)⟩) hmax
  refine ⟨sg (xsg a b) S, ?_, ?_, ?_⟩
  · rw [e1, hpv, hA, sg_prod, sg_prod, ← h1]
    cases xsg a b
    · rfl
    · exact nsn _ _
  · cases xsg a b
    · exact h2
    · exact h2.neg
  · have hn : (sg (xsg a b) S).natAbs = S.natAbs := by
      cases xsg a b
      · rfl
      · exact Int.natAbs_neg _
    rw [hn]
    exact h3
theorem fused_fl {a b way : Int} (ra : rng a) (rb : rng b) (pa : pok a = true) (pb : pok b = true) (h : prV a b ≠ 0) (lo : 288230376151711744 ≤ rg (rdP way (prV a b))) (hi : rg (rdP way (prV a b)) ≤ 9209861237972664320) :
    ∃ S : Int, prV a b - patV (rdP way (prV a b)) = S * pw (-1074) ∧ Fl S ∧ (S.natAbs : Int) ≤ maxV := fused_any ra rb pa pb h (by omega) (.inl hi)
end Go.Proofs.YtcpjdgfnblkfpaaGreatDoor
