/-
  EftHalves: Split is finite where floats are not too great; its halves have 26 bits.
-/
import Derived.Test.YtcpjdgfnblkfpaaGreatDoorEHon
namespace Go.Proofs.YtcpjdgfnblkfpaaGreatDoor
open Go Go.RowKit Go.Proofs.YtcpjdgfnblkfpaaGreatDoor.M Ieee
set_option linter.unusedSimpArgs false
set_option linter.unusedVariables false

theorem k_sp1 {a c B M : Int} (h : (a.natAbs : Int) ≤ B) (hM : 268435455 * B ≤ M) : ((134217729 * a).natAbs : Int) ≤ M := by omega
theorem k_sp2 {a c B M : Int} (h : (a.natAbs : Int) ≤ B) (hM : 268435455 * B ≤ M) (r : 1000 * (c - 134217729 * a).natAbs ≤ (134217729 * a).natAbs) : ((c - a).natAbs : Int) ≤ M ∧ ((c - a).natAbs : Int) ≤ 200000000 * B := by omega
theorem k_sp3 {a c d B M : Int} (h : (a.natAbs : Int) ≤ B) (hM : 268435455 * B ≤ M) (g : ((c - a).natAbs : Int) ≤ 200000000 * B) (r : 1000 * (d - (c - a)).natAbs ≤ (c - a).natAbs) : ((c - d).natAbs : Int) ≤ M ∧ ((c - d).natAbs : Int) ≤ 300000 * B := by omega
theorem k_sp4 {a c d x B M : Int} (h : (a.natAbs : Int) ≤ B) (hM : 268435455 * B ≤ M) (g : ((c - d).natAbs : Int) ≤ 300000 * B) (r : 1000 * (x - (c - d)).natAbs ≤ (c - d).natAbs) : ((a - x).natAbs : Int) ≤ M := by omega
theorem sp_fin {p B : Int} (hp : M.rng p) (pp : pok p = true) (h : ((iV p).natAbs : Int) ≤ B) (hM : 268435455 * B ≤ maxV) : pok (spL p) = true := by
  have rc : M.rng (cC p) := fprod_rng spl_rng hp
  have rd := fsum_rng rc (neg_rng hp)
  have rH : M.rng (spH p) := fsum_rng rc (neg_rng rd)
  have S1 := stp_split hp pp
  have pc := S1.fin (k_sp1 (c := 0) h hM)
  have r1 := nr_rel (S1.nr pc)
  obtain ⟨g1, g2⟩ := k_sp2 h hM r1
  have S2 := stp_diff rc hp pc pp
  have pd := S2.fin g1
  have r2 := nr_rel (S2.nr pd)
  obtain ⟨g3, g4⟩ := k_sp3 h hM g2 r2
  have S3 := stp_diff rc rd pc pd
  have pH := S3.fin g3
  have r3 := nr_rel (S3.nr pH)
  exact (stp_diff hp rH pp pH).fin (k_sp4 h hM g4 r3)
theorem V_top {a n : Nat} (h : 4503599627370496 ≤ n) (g : n < 9007199254740992) : (V Ieee.double (a * 4503599627370496 + n) : Int) = (n : Int) * 2 ^ a := by
  have := V_parts Ieee.double a n (.inr ⟨by rw [dBin]; exact h, by rw [dBin]; omega⟩)
  rw [dBin] at this
  rw [this, nat_two, Int.mul_comm]
theorem k_max {K M B : Int} (hK : 0 < K) (hM : M = 9007199254740991 * (134217728 * K)) (hB : B = 4503599627370496 * K) : 268435455 * B ≤ M := by omega
theorem max_996 : 268435455 * (V Ieee.double 9092767647661031424 : Int) ≤ maxV := by
  obtain ⟨a, ha⟩ : ∃ a : Nat, a = 2018 := ⟨_, rfl⟩
  have e1 := V_top (a := a) (n := 4503599627370496) (by decide) (by decide)
  have e2 := V_top (a := a + 27) (n := 9007199254740991) (by decide) (by decide)
  rw [show a * 4503599627370496 + 4503599627370496 = 9092767647661031424 by omega] at e1
  rw [show (a + 27) * 4503599627370496 + 9007199254740991 = 9218868437227405311 by omega, k_split2, Int.mul_comm (2 ^ a), show (2 : Int) ^ 27 = 134217728 by decide] at e2
  exact k_max (p2 a) e2 e1
theorem odd_small {t m : Int} {A B : Nat} (ht : t ≤ 67108864) (h0 : 0 < m) (ho : m % 2 = 1) (e : t * 2 ^ A = m * 2 ^ B) : m < 67108864 := by
  rcases Nat.lt_or_ge B A with c | c
  · exfalso
    obtain ⟨d, rfl⟩ : ∃ d, A = B + 1 + d := ⟨A - B - 1, by omega⟩
    rw [Int.pow_add, p2s, show t * (2 * 2 ^ B * 2 ^ d) = (2 * (t * 2 ^ d)) * 2 ^ B by ac_rfl] at e
    have := Int.eq_of_mul_eq_mul_right (Int.ne_of_gt (p2 B)) e
    generalize t * 2 ^ d = u at this
    omega
  · obtain ⟨d, rfl⟩ : ∃ d, B = A + d := ⟨B - A, by omega⟩
    rw [Int.pow_add, show m * (2 ^ A * 2 ^ d) = m * 2 ^ d * 2 ^ A by ac_rfl] at e
    have e2 := Int.eq_of_mul_eq_mul_right (Int.ne_of_gt (p2 A)) e
    have h1 := p2 d
    have h2 : m * 1 ≤ m * 2 ^ d := Int.mul_le_mul_of_nonneg_left (by omega) (by omega)
    omega
/-- Half as many bits. -/
def Hlf (v : Int) : Prop := v = 0 ∨ ∃ (x y : Nat) (t : Int), 2 ^ x * (v.natAbs : Int) = 2 ^ y * t ∧ t ≤ 67108864
theorem hlv_half {a h l : Int} (H : Hlv a h l) : Hlf h ∧ Hlf l := by
  by_cases h0 : a = 0
  · have := H.zero h0
    have := H.sum
    exact ⟨.inl (by omega), .inl (by omega)⟩
  · obtain ⟨x, j, s, _, _⟩ := H.spl h0
    have e : 2 ^ x * a - 2 ^ x * h = 2 ^ x * l := by rw [← Int.mul_sub]; congr 1; have := H.sum; omega
    obtain ⟨u1, u2, u3, u4⟩ := s
    rw [e] at u2 u4
    refine ⟨.inr ?_, .inr ?_⟩
    · obtain ⟨c, hc⟩ := u1
      have hj := p2 j
      rw [hc] at u3
      refine ⟨x, j + 27, (c.natAbs : Int), ?_, ?_⟩
      · rw [← natAbs_p2, hc, show (134217728 * 2 ^ j * c : Int) = 2 ^ (j + 27) * c by rw [k_split2, show (2 : Int) ^ 27 = 134217728 by decide]; ac_rfl, natAbs_p2]
      · rw [show (134217728 * 2 ^ j * c : Int) = 2 ^ (j + 27) * c by rw [k_split2, show (2 : Int) ^ 27 = 134217728 by decide]; ac_rfl, natAbs_p2, k_split2, show (2 : Int) ^ 27 = 134217728 by decide] at u3
        have : 134217728 * (c.natAbs : Int) * 2 ^ j ≤ 9007199254740992 * 2 ^ j := by
          rw [show 134217728 * (c.natAbs : Int) * 2 ^ j = 2 ^ j * 134217728 * (c.natAbs : Int) by ac_rfl]; exact u3
        have := Int.le_of_mul_le_mul_right this hj
        omega
    · obtain ⟨c, hc⟩ := u2
      rw [hc, natAbs_p2] at u4
      refine ⟨x, j, (c.natAbs : Int), by rw [← natAbs_p2, hc, natAbs_p2], ?_⟩
      exact Int.le_of_mul_le_mul_left (by rw [Int.mul_comm _ 67108864]; exact u4) (p2 j)
theorem pw_pow {e : Int} (h : -4194304 ≤ e) : pw e = 2 ^ (e + 4194304).toNat := rfl
theorem k_absE {v m K J : Int} {g : Bool} (hK : 0 < K) (hJ : 0 < J) (h0 : 0 < m) (e : v * K = sg g m * J) : (v.natAbs : Int) * K = m * J := by
  have hm := Int.mul_pos h0 hJ
  rcases Int.le_total 0 v with c | c
  · rw [Int.natAbs_of_nonneg c, e]
    cases g
    · rfl
    · exfalso
      have h1 := Int.mul_nonneg c (Int.le_of_lt hK)
      have h2 : sg true m * J = -(m * J) := by show -m * J = _; rw [Int.neg_mul]
      omega
  · have e1 : (v.natAbs : Int) = -v := by omega
    rw [e1, Int.neg_mul, e]
    cases g
    · exfalso
      have h1 := Int.mul_nonneg (show 0 ≤ -v by omega) (Int.le_of_lt hK)
      rw [Int.neg_mul] at h1
      have h2 : sg false m * J = m * J := rfl
      omega
    · show -(-m * J) = _
      rw [Int.neg_mul, Int.neg_neg]
theorem hlf_dy {v : Int} (H : Hlf v) {V : Int} (hV : V = v * pw (-1074)) {ng : Bool} {m e : Int} (hy : Dy V ng m e) : m < 67108864 := by
  rcases hy.form with ⟨c, _, _⟩ | ⟨h0, ho⟩
  · rw [c]; decide
  · rcases H with c | ⟨x, y, t, e1, e2⟩
    · exfalso
      have := hy.eq_zero.1 (by rw [hV, c, Int.zero_mul])
      omega
    · obtain ⟨k, hk⟩ : ∃ k : Nat, pw (-1074) = 2 ^ k := ⟨_, rfl⟩
      obtain ⟨j, hj⟩ : ∃ j : Nat, pw e = 2 ^ j := ⟨_, rfl⟩
      have h1 := hy.val
      rw [hV, hk, hj] at h1
      have h2 : (v.natAbs : Int) * 2 ^ k = m * 2 ^ j := k_absE (p2 k) (p2 j) h0 h1
      refine odd_small (A := y + k) (B := x + j) e2 h0 ho ?_
      rw [Int.pow_add, Int.pow_add, show t * (2 ^ y * 2 ^ k) = (2 ^ y * t) * 2 ^ k by ac_rfl, ← e1, show m * (2 ^ x * 2 ^ j) = 2 ^ x * (m * 2 ^ j) by ac_rfl, ← h2]
      ac_rfl
/-- A number of one digit at most, below 2^26. -/
theorem half_num {w : World} {ng : Bool} {o : Option Addr} {n c : Nat} {e V : Int} (h : DNum w (.agg #[.bool ng, .slice o n c, .int .i64 e]) V) (hs : ∀ ng m e, Dy V ng m e → m < 67108864) :
    n = 0 ∨ (n = 1 ∧ ∃ b f v, o = some ⟨b, f, none⟩ ∧ w.cell? ⟨b, f, none⟩ = some (.int .i64 v) ∧ v < 67108864) := by
  obtain ⟨ng', s, m, e', h1, hy, hN⟩ := h
  simp only [Value.agg.injEq, Array.mk.injEq, List.cons.injEq, and_true] at h1
  obtain ⟨_, h2, _⟩ := h1
  subst h2
  have hm := hs _ _ _ hy
  have hl := hN.len (k := 1) (by rw [show P 1 = 1073741824 by decide]; omega)
  obtain ⟨ao, n', cap, d, h3, hR, hNr, hv⟩ := hN
  simp only [Value.slice.injEq] at h3
  obtain ⟨rfl, rfl, rfl⟩ := h3
  rcases Nat.eq_zero_or_pos n with g | g
  · exact .inl g
  · have g1 : n = 1 := by omega
    subst g1
    obtain ⟨b, f, e1, _, hc⟩ := hR.spot (by omega)
    refine .inr ⟨rfl, b, f, d 0, e1, hc 0 (by omega), ?_⟩
    have : val d 1 = d 0 := by simp [val, P]
    omega
end Go.Proofs.YtcpjdgfnblkfpaaGreatDoor
