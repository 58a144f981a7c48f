/-
  Plain mathematics for package orient: floats that are multiples of one power of 2 and below another, and what sums and products make of them.
-/
import Derived.Test.YtcpjdgfnblkfpaaGreatDoorXOg
namespace Go.Proofs.YtcpjdgfnblkfpaaGreatDoor
open Go Go.RowKit Go.Proofs.YtcpjdgfnblkfpaaGreatDoor.M
set_option linter.unusedSimpArgs false
set_option linter.unusedVariables false

structure Fx (a b : Nat) (x : Int) : Prop where
  r : rng x
  p : pok x = true
  d : (2 ^ a : Int) ∣ iV x
  b : ((iV x).natAbs : Int) ≤ 2 ^ b
theorem Mz.fx {x : Int} (h : Mz x) : Fx 872 1224 x := ⟨h.1, h.2.1, h.2.2.1, h.2.2.2⟩
theorem Fx.up {a b b' : Nat} {x : Int} (h : Fx a b x) (c : b ≤ b') : Fx a b' x := ⟨h.r, h.p, h.d, p2_up h.b c⟩
theorem Fx.neg {a b : Nat} {x : Int} (h : Fx a b x) : Fx a b (neg x) ∧ iV (neg x) = -iV x := by
  obtain ⟨n1, n2, n3⟩ := neg_facts h.r h.p
  refine ⟨⟨n1, n2, ?_, ?_⟩, n3⟩
  · rw [n3]; exact Int.dvd_neg.2 h.d
  · rw [n3, Int.natAbs_neg]; exact h.b
theorem h_dbl {S x : Int} (h : Un S x) : (x.natAbs : Int) ≤ 2 * (S.natAbs : Int) := by
  have := h.1
  omega
theorem h_fin {a b m : Int} {k : Nat} (h1 : a ≤ 2 ^ k) (hk : k + 1 ≤ 2097) (hm : (2 : Int) ^ 2097 ≤ m) : 2 * a ≤ m := by
  have e := p2s k
  have f : (2 : Int) ^ (k + 1) ≤ 2 ^ 2097 := p2le hk
  omega
theorem Fx.sum {a b : Nat} {x y : Int} (hx : Fx a b x) (hy : Fx a b y) (hb : b + 1 ≤ 2097) : Fx a (b + 2) (fsum x y) ∧ Un (iV x + iV y) (iV (fsum x y)) := by
  obtain ⟨f1, f2⟩ := sum_fin hx.r hy.r hx.p hy.p (h_fin (b := 0) hx.b hb maxV_ge) (h_fin (b := 0) hy.b hb maxV_ge)
  have nr := fsum_nr hx.r hy.r f2
  have u := nr_Un nr
  refine ⟨⟨fsum_rng hx.r hy.r, f1, nr_dvd nr (Int.dvd_add hx.d hy.d), ?_⟩, u⟩
  have h2 := h_dbl u
  have e1 := hx.b
  have e2 := hy.b
  rw [show b + 2 = b + 1 + 1 by omega, p2s, p2s]
  omega
theorem h_mul {x y : Int} {b d : Nat} (h1 : (x.natAbs : Int) ≤ 2 ^ b) (h2 : (y.natAbs : Int) ≤ 2 ^ d) : ((x * y).natAbs : Int) ≤ 2 ^ (b + d) := by
  have := abs_mul_le h1 h2
  rwa [← Int.pow_add] at this
theorem Fx.prod {a b c d : Nat} {x y : Int} (hx : Fx a b x) (hy : Fx c d y) (h1 : 1074 ≤ a + c) (h2 : 1074 ≤ b + d) (h3 : b + d - 1074 ≤ 2097) :
    Fx (a + c - 1074) (b + d - 1074 + 1) (fprod x y) ∧ Un (iV x * iV y) (2 ^ 1074 * iV (fprod x y)) ∧ ∃ T, 2 ^ 1074 * T = iV x * iV y ∧ Un T (iV (fprod x y)) := by
  have dd : (2 ^ (a + c) : Int) ∣ iV x * iV y := by
    rw [Int.pow_add]
    exact Int.mul_dvd_mul hx.d hy.d
  obtain ⟨k, hk⟩ := dd
  have e0 : (2 : Int) ^ (a + c) = 2 ^ 1074 * 2 ^ (a + c - 1074) := by rw [← Int.pow_add, show 1074 + (a + c - 1074) = a + c by omega]
  have hT : 2 ^ 1074 * (2 ^ (a + c - 1074) * k) = iV x * iV y := by rw [hk, e0, Int.mul_assoc]
  have b1 := h_mul hx.b hy.b
  rw [← hT, natAbs_p2, show b + d = 1074 + (b + d - 1074) by omega, Int.pow_add] at b1
  have b2 : (((2 ^ (a + c - 1074) * k : Int)).natAbs : Int) ≤ 2 ^ (b + d - 1074) := Int.le_of_mul_le_mul_left b1 (p2 1074)
  have s := stp_prod hx.r hy.r hx.p hy.p hT
  have f : pok (fprod x y) = true := s.fin (Int.le_trans b2 (Int.le_trans (p2le h3) maxV_ge))
  have nr := s.nr f
  have u := nr_Un nr
  refine ⟨⟨fprod_rng hx.r hy.r, f, nr_dvd nr ⟨k, rfl⟩, ?_⟩, ?_, _, hT, u⟩
  · have := h_dbl u
    rw [p2s]
    omega
  · rw [← hT]
    exact u.scale (Int.le_of_lt (p2 1074))
theorem rg_rg {x : Int} (h : rng x) : rg (rg x) = rg x := by unfold rng rg at *; split <;> (try split) <;> omega
theorem Fx.abs {a b : Nat} {x : Int} (h : Fx a b x) : Fx a b (rg x) ∧ iV (rg x) = ((iV x).natAbs : Int) := by
  obtain ⟨q1, q2⟩ := q_rg h.r
  have e : iV (rg x) = ((iV x).natAbs : Int) := by
    rw [iV_abs, iV, decide_eq_false (by omega), rg_rg h.r]
    rfl
  refine ⟨⟨q1, ?_, ?_, ?_⟩, e⟩
  · rw [pok_rg' q1, rg_rg h.r, ← pok_rg' h.r]; exact h.p
  · rw [e]; exact Int.dvd_natAbs.2 h.d
  · rw [e, Int.natAbs_natCast]; exact h.b
/-- The filter's floats: differences, products, their sizes' sum, their difference. -/
structure FltN (u1 v1 u2 v2 : Int) : Prop where
  l : Fx 670 1379 (fprod u1 v2)
  r : Fx 670 1379 (fprod v1 u2)
  lu : Un (iV u1 * iV v2) (2 ^ 1074 * iV (fprod u1 v2))
  ru : Un (iV v1 * iV u2) (2 ^ 1074 * iV (fprod v1 u2))
  s : Fx 670 1381 (fsum (rg (fprod u1 v2)) (rg (fprod v1 u2)))
  su : Un (((iV (fprod u1 v2)).natAbs : Int) + ((iV (fprod v1 u2)).natAbs : Int)) (iV (fsum (rg (fprod u1 v2)) (rg (fprod v1 u2))))
  d : Fx 670 1381 (fsum (fprod u1 v2) (neg (fprod v1 u2)))
  du : Un (iV (fprod u1 v2) - iV (fprod v1 u2)) (iV (fsum (fprod u1 v2) (neg (fprod v1 u2))))
theorem fltN_of {u1 v1 u2 v2 : Int} (h1 : Fx 872 1226 u1) (h2 : Fx 872 1226 v1) (h3 : Fx 872 1226 u2) (h4 : Fx 872 1226 v2) : FltN u1 v1 u2 v2 := by
  obtain ⟨l, lu, _⟩ := h1.prod h4 (by decide) (by decide) (by decide)
  obtain ⟨r, ru, _⟩ := h2.prod h3 (by decide) (by decide) (by decide)
  obtain ⟨la, le⟩ := l.abs
  obtain ⟨ra, re⟩ := r.abs
  obtain ⟨s, su⟩ := la.sum ra (by decide)
  obtain ⟨nr, ne⟩ := r.neg
  obtain ⟨d, du⟩ := l.sum nr (by decide)
  rw [le, re] at su
  rw [ne] at du
  exact ⟨l, r, lu, ru, s, su, d, du⟩
theorem Mz.diff {p q : Int} (hp : Mz p) (hq : Mz q) : Fx 872 1226 (fsum p (neg q)) ∧ Un (iV p - iV q) (iV (fsum p (neg q))) := by
  obtain ⟨n, ne⟩ := hq.fx.neg
  obtain ⟨s, su⟩ := hp.fx.sum n (by decide)
  rw [ne] at su
  exact ⟨s, su⟩
end Go.Proofs.YtcpjdgfnblkfpaaGreatDoor
