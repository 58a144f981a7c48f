/-
  Plain mathematics: sums of expansions, where no step is too great.
-/
import Derived.Test.YtcpjdgfnblkfpaaGreatDoorXSm
namespace Go.Proofs.YtcpjdgfnblkfpaaGreatDoor
open Go Go.RowKit Go.Proofs.YtcpjdgfnblkfpaaGreatDoor.M
set_option linter.unusedSimpArgs false
set_option linter.unusedVariables false

theorem maxV_ge : (2 : Int) ^ 2097 ≤ maxV := by
  have h : (2 : Int) ^ 2097 ≤ (V Ieee.double 9218868437227405311 : Int) := by decide +kernel
  exact h
theorem p2_up {b c : Nat} {x : Int} (h : (x.natAbs : Int) ≤ 2 ^ b) (hbc : b ≤ c) : (x.natAbs : Int) ≤ 2 ^ c := Int.le_trans h (p2le hbc)
/-- No float of a list is greater. -/
def LB (s : Ls) (b : Nat) : Prop := ∀ i, i < s.n → ((iV (s.d i)).natAbs : Int) ≤ 2 ^ b
theorem LB.add {s : Ls} {b : Nat} (h : LB s b) {x : Int} (hx : ((iV x).natAbs : Int) ≤ 2 ^ b) : LB (s.add x) b := by
  unfold Ls.add
  split
  · exact h
  · intro i hi
    show ((iV (upd s.d s.n x i)).natAbs : Int) ≤ _
    by_cases e : i = s.n
    · subst e; rw [upd_same]; exact hx
    · rw [upd_other _ _ e]; exact h i (by have : i < s.n + 1 := hi; omega)
theorem gq_bd {d : Nat → Int} {q : Int} {n b : Nat} (hd : ∀ i, i < n → rng (d i) ∧ pok (d i) = true) (hq : rng q) (pq : pok q = true) (bd : ∀ i, i < n → ((iV (d i)).natAbs : Int) ≤ 2 ^ b) (bq : ((iV q).natAbs : Int) ≤ 2 ^ b) (hb : b + 2 * n ≤ 2090) :
    ∀ k, k ≤ n → gx d q k = true ∧ ((iV (gq d q k)).natAbs : Int) ≤ 2 ^ (b + 2 * k) ∧ LB (gs d q k) b
  | 0, _ => ⟨rfl, bq, fun i hi => absurd hi (Nat.not_lt_zero _)⟩
  | k + 1, hk => by
    obtain ⟨h1, h2, h3⟩ := gq_bd hd hq pq bd bq hb k (by omega)
    obtain ⟨r1, r2⟩ := gq_fin hd hq pq k (by omega) h1
    obtain ⟨d1, d2⟩ := hd k (by omega)
    have b1 := bd k (by omega)
    have hM := maxV_ge
    have p1 : (2 : Int) ^ (b + 2 * k + 1) ≤ 2 ^ 2097 := p2le (by omega)
    have p2' : (2 : Int) ^ (b + 1) ≤ 2 ^ 2097 := p2le (by omega)
    rw [p2s] at p1 p2'
    obtain ⟨f1, f2⟩ := sum_fin r1 d1 r2 d2 (by omega) (by omega)
    have nr := fsum_nr r1 d1 f2
    have hx : gx d q (k + 1) = true := by
      show (gx d q k && pok (gl d q k)) = true
      rw [h1]; exact f2
    have e := (sL_exact r1 d1 f2).2.2
    have hl := nr_loss (fl_iV (gq d q k)) nr
    have h0 := nr.2 0 fl_zero
    have hle : (2 : Int) ^ b ≤ 2 ^ (b + 2 * k) := p2le (by omega)
    have p3 : (2 : Int) ^ (b + 2 * (k + 1)) = 4 * 2 ^ (b + 2 * k) := by
      rw [show b + 2 * (k + 1) = b + 2 * k + 1 + 1 by omega, p2s, p2s]; omega
    refine ⟨hx, ?_, ?_⟩
    · show ((iV (fsum (gq d q k) (d k))).natAbs : Int) ≤ _
      rw [p3]
      omega
    · show LB ((gs d q k).add (gl d q k)) b
      refine h3.add ?_
      show ((iV (sL (gq d q k) (d k))).natAbs : Int) ≤ _
      have : iV (sL (gq d q k) (d k)) = iV (gq d q k) + iV (d k) - iV (fsum (gq d q k) (d k)) := by omega
      rw [this]
      omega
theorem grw_bd {s : Ls} {q : Int} {b : Nat} (hs : s.fin) (hq : rng q) (pq : pok q = true) (bd : LB s b) (bq : ((iV q).natAbs : Int) ≤ 2 ^ b) (hb : b + 2 * s.n ≤ 2090) : gx s.d q s.n = true ∧ LB (grw s.n s.d q) (b + 2 * s.n) := by
  obtain ⟨h1, h2, h3⟩ := gq_bd hs hq pq bd bq hb s.n (Nat.le_refl _)
  refine ⟨h1, ?_⟩
  show LB ((gs s.d q s.n).add (gq s.d q s.n)) _
  exact LB.add (fun i hi => p2_up (h3 i hi) (by omega)) h2
theorem XV.fn {s : Ls} (h : XV s.d s.n) : s.fin := fun i hi => ⟨(h.fin i hi).1, (h.fin i hi).2.1⟩
/-- Each float of a list grown into an expansion. -/
theorem gaS_all {s : Ls} {f : Nat → Int} {m b L : Nat} (hs : XV s.d s.n) (hf : ∀ i, i < m → rng (f i) ∧ pok (f i) = true) (bs : LB s b) (bf : ∀ i, i < m → ((iV (f i)).natAbs : Int) ≤ 2 ^ b) (hL : s.n + m ≤ L) (hb : b + 2 * L * m ≤ 2090) :
    ∀ k, k ≤ m → gaX s f k = true ∧ XV (gaS s f k).d (gaS s f k).n ∧ LB (gaS s f k) (b + 2 * L * k) ∧ lsm (gaS s f k).d (gaS s f k).n = lsm s.d s.n + lsm f k
  | 0, _ => ⟨rfl, hs, bs, by show lsm s.d s.n = lsm s.d s.n + 0; omega⟩
  | k + 1, hk => by
    obtain ⟨h1, h2, h3, h4⟩ := gaS_all hs hf bs bf hL hb k (by omega)
    obtain ⟨f1, f2⟩ := hf k (by omega)
    have hn := gaS_le s f k
    have hmul : 2 * L * (k + 1) ≤ 2 * L * m := Nat.mul_le_mul_left _ (by omega)
    rw [Nat.mul_add, Nat.mul_one] at hmul
    obtain ⟨g1, g2⟩ := grw_bd h2.fn f1 f2 h3 (p2_up (bf k (by omega)) (by omega)) (by omega)
    rw [gaX_succ, gaS_succ, h1, g1, lsm_succ]
    refine ⟨rfl, grw_xv h2 f1 f2 g1, fun i hi => p2_up (g2 i hi) (by rw [Nat.mul_add, Nat.mul_one]; omega), ?_⟩
    rw [grw_sum h2.fn f1 f2 g1, h4]
    omega
theorem lsm_neg {f : Nat → Int} : ∀ {m}, (∀ i, i < m → rng (f i) ∧ pok (f i) = true) → lsm (fun i => neg (f i)) m = -lsm f m
  | 0, _ => rfl
  | m + 1, h => by
    rw [lsm_succ, lsm_succ, lsm_neg fun i hi => h i (by omega), (neg_facts (h m (by omega)).1 (h m (by omega)).2).2.2]
    omega
end Go.Proofs.YtcpjdgfnblkfpaaGreatDoor
