/-
  Package expansion, plainly: a list that is added to, the steps of Grow and Scale.
-/
import Derived.Test.YtcpjdgfnblkfpaaGreatDoorELaw
import Derived.Test.YtcpjdgfnblkfpaaGreatDoorEHon
import Derived.Test.YtcpjdgfnblkfpaaGreatDoorNRow
import Derived.Test.YtcpjdgfnblkfpaaGreatDoorQM
namespace Go.Proofs.YtcpjdgfnblkfpaaGreatDoor
open Go Go.RowKit Go.Proofs.YtcpjdgfnblkfpaaGreatDoor.M
set_option linter.unusedSimpArgs false
set_option linter.unusedVariables false

/-- A list: how many, and which. -/
structure Ls where
  n : Nat
  d : Nat → Int
/-- To add a float: put behind the others, unless it is a nought. -/
def Ls.add (s : Ls) (b : Int) : Ls := if rg b = 0 then s else ⟨s.n + 1, upd s.d s.n b⟩
theorem Ls.add_le (s : Ls) (b : Int) : s.n ≤ (s.add b).n ∧ (s.add b).n ≤ s.n + 1 := by
  unfold Ls.add
  split
  · exact ⟨Nat.le_refl _, Nat.le_succ _⟩
  · exact ⟨Nat.le_succ _, Nat.le_refl _⟩
/-- The same lists, as far as they go. -/
def Ls.same (s t : Ls) : Prop := s.n = t.n ∧ ∀ i, i < s.n → s.d i = t.d i
theorem Ls.same.add {s t : Ls} (h : s.same t) (b : Int) : (s.add b).same (t.add b) := by
  unfold Ls.add
  split
  · exact h
  · refine ⟨by show s.n + 1 = t.n + 1; rw [h.1], fun i hi => ?_⟩
    show upd s.d s.n b i = upd t.d t.n b i
    by_cases e : i = s.n
    · subst e; rw [upd_same, h.1, upd_same]
    · rw [upd_other _ _ e, upd_other _ _ (by rw [← h.1]; exact e)]
      exact h.2 i (by have : i < s.n + 1 := hi; omega)
/-- Grow: what was gathered so far; what a step leaves; the list so far; were all exact? -/
def gq (d : Nat → Int) (q : Int) : Nat → Int
  | 0 => q
  | k + 1 => fsum (gq d q k) (d k)
def gl (d : Nat → Int) (q : Int) (k : Nat) : Int := sL (gq d q k) (d k)
def gs (d : Nat → Int) (q : Int) : Nat → Ls
  | 0 => ⟨0, d⟩
  | k + 1 => (gs d q k).add (gl d q k)
def gx (d : Nat → Int) (q : Int) : Nat → Bool
  | 0 => true
  | k + 1 => gx d q k && pok (gl d q k)
def grw (n : Nat) (d : Nat → Int) (q : Int) : Ls := (gs d q n).add (gq d q n)
theorem gs_le (d : Nat → Int) (q : Int) : ∀ k, (gs d q k).n ≤ k
  | 0 => Nat.le_refl _
  | k + 1 => by
    have h1 := gs_le d q k
    have h2 := ((gs d q k).add_le (gl d q k)).2
    show ((gs d q k).add _).n ≤ k + 1
    omega
theorem gs_tail (d : Nat → Int) (q : Int) : ∀ k i, k ≤ i → (gs d q k).d i = d i
  | 0, i, _ => rfl
  | k + 1, i, h => by
    have h1 := gs_le d q k
    show ((gs d q k).add _).d i = d i
    unfold Ls.add
    split
    · exact gs_tail d q k i (by omega)
    · show upd _ _ _ i = d i
      rw [upd_other _ _ (by omega)]
      exact gs_tail d q k i (by omega)
theorem gx_mono {d : Nat → Int} {q : Int} : ∀ {k j}, j ≤ k → gx d q k = true → gx d q j = true
  | 0, j, h, hx => by
    obtain rfl : j = 0 := by omega
    rfl
  | k + 1, j, h, hx => by
    by_cases e : j = k + 1
    · subst e; exact hx
    · have : (gx d q k && pok (gl d q k)) = true := hx
      rw [Bool.and_eq_true] at this
      exact gx_mono (by omega) this.1
theorem gq_fin {d : Nat → Int} {q : Int} {n : Nat} (hd : ∀ i, i < n → rng (d i) ∧ pok (d i) = true) (hq : rng q) (pq : pok q = true) : ∀ k, k ≤ n → gx d q k = true → rng (gq d q k) ∧ pok (gq d q k) = true
  | 0, _, _ => ⟨hq, pq⟩
  | k + 1, hk, hx => by
    have hx' : (gx d q k && pok (gl d q k)) = true := hx
    rw [Bool.and_eq_true] at hx'
    obtain ⟨r1, r2⟩ := gq_fin hd hq pq k (by omega) hx'.1
    obtain ⟨d1, d2⟩ := hd k (by omega)
    exact ⟨fsum_rng r1 d1, (sL_exact r1 d1 hx'.2).2.1⟩
theorem nought_order {b : Int} (hb : rng b) : (FloatKind.f64.format.order (wd b) 0 == some .eq) = decide (rg b = 0) := by
  have h := same_order hb (show rng 0 by unfold rng; omega)
  rw [show wd 0 = 0 by decide] at h
  rw [h]
  unfold same
  have hk : key 0 = 0 := by decide
  have c0 : ¬ cls 0 = 4 := by decide
  by_cases h4 : cls b = 4
  · have : rg b ≠ 0 := fun e => by
      have := q_cls hb
      rw [e] at this
      rw [← this] at h4
      exact c0 h4
    simp [h4, this]
  · have e : (key b = key 0) ↔ rg b = 0 := by
      rw [hk]
      unfold rng at hb
      unfold key rg
      split <;> omega
    by_cases hz : rg b = 0
    · simp [h4, c0, hz, e.2 hz]
    · have : ¬ key b = key 0 := fun q => hz (e.1 q)
      simp [h4, c0, hz, this]
end Go.Proofs.YtcpjdgfnblkfpaaGreatDoor
