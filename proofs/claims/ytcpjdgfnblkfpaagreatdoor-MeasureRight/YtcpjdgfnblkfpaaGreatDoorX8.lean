/-
  Package expansion: scale, by its contract.
-/
import Derived.Test.YtcpjdgfnblkfpaaGreatDoorX7
import Derived.Test.YtcpjdgfnblkfpaaGreatDoorEStep4
namespace Go.Proofs.YtcpjdgfnblkfpaaGreatDoor
open Go Go.RowKit Go.Proofs.YtcpjdgfnblkfpaaGreatDoor.M
set_option linter.unusedSimpArgs false
set_option linter.unusedVariables false

/-- add, of any list that a call of this package has made. -/
theorem xadd_L {B : Nat} {v : Value} {s : Ls} {b : Int} (w : World) (h : LsO B w v s) (hb : rng b) (hn : s.n ≤ 900000) (hB : B ≤ w.heap.size) :
    Calls Tryz.prog 117 #[v, .int .i64 b] w fun e w' => ∃ v', e = .returned v' ∧ LsO B w' v' (s.add b) ∧ Below B w w' := by
  rcases h with h | ⟨h0, ad, rfl⟩
  · refine (xadd_any w h hb hn hB).mono ?_
    rintro e w' ⟨v', h2, h3, h4⟩
    exact ⟨v', h2, .inl h3, (XGr.of_out h h4).below hB⟩
  · obtain ⟨sn, sd⟩ := s
    simp only at h0
    subst h0
    refine (xadd_E (d := sd) w hb).mono ?_
    rintro e w' ⟨v', h1, h2, h3⟩
    exact ⟨v', h1, h2.lower hB, XGr.below (v := v') (.inl h3) hB⟩
/-- Scale: what was gathered; the list; were all exact? Behind the first k + 1 floats. -/
def sq (d : Nat → Int) (b : Int) : Nat → Int
  | 0 => fprod (d 0) b
  | k + 1 => fsum (fprod (d (k + 1)) b) (fsum (sq d b k) (prL (d (k + 1)) b))
def ss (s : Ls) (d : Nat → Int) (b : Int) : Nat → Ls
  | 0 => s.add (prL (d 0) b)
  | k + 1 => ((ss s d b k).add (sL (sq d b k) (prL (d (k + 1)) b))).add (fL (fprod (d (k + 1)) b) (fsum (sq d b k) (prL (d (k + 1)) b)))
def sx (d : Nat → Int) (b : Int) : Nat → Bool
  | 0 => pX (d 0) b
  | k + 1 => sx d b k && (pX (d (k + 1)) b && (pok (sL (sq d b k) (prL (d (k + 1)) b)) && fX (fprod (d (k + 1)) b) (fsum (sq d b k) (prL (d (k + 1)) b))))
/-- What scale puts behind s, of n + 1 floats. -/
def scl (s : Ls) (d : Nat → Int) (b : Int) (n : Nat) : Ls := (ss s d b n).add (sq d b n)
theorem ss_le (s : Ls) (d : Nat → Int) (b : Int) : ∀ k, (ss s d b k).n ≤ s.n + 2 * k + 1
  | 0 => (s.add_le _).2
  | k + 1 => by
    have h1 := ss_le s d b k
    have h2 := ((ss s d b k).add_le (sL (sq d b k) (prL (d (k + 1)) b))).2
    have h3 := (((ss s d b k).add (sL (sq d b k) (prL (d (k + 1)) b))).add_le (fL (fprod (d (k + 1)) b) (fsum (sq d b k) (prL (d (k + 1)) b)))).2
    show (((ss s d b k).add _).add _).n ≤ _
    omega
theorem sx_succ (d : Nat → Int) (b : Int) (k : Nat) : sx d b (k + 1) = (sx d b k && (pX (d (k + 1)) b && (pok (sL (sq d b k) (prL (d (k + 1)) b)) && fX (fprod (d (k + 1)) b) (fsum (sq d b k) (prL (d (k + 1)) b))))) := rfl
theorem sq_succ (d : Nat → Int) (b : Int) (k : Nat) : sq d b (k + 1) = fsum (fprod (d (k + 1)) b) (fsum (sq d b k) (prL (d (k + 1)) b)) := rfl
theorem ss_succ (s : Ls) (d : Nat → Int) (b : Int) (k : Nat) : ss s d b (k + 1) = ((ss s d b k).add (sL (sq d b k) (prL (d (k + 1)) b))).add (fL (fprod (d (k + 1)) b) (fsum (sq d b k) (prL (d (k + 1)) b))) := rfl
theorem sx_mono {d : Nat → Int} {b : Int} : ∀ {k j}, j ≤ k → sx d b k = true → sx d b j = true
  | 0, j, h, hx => by
    obtain rfl : j = 0 := by omega
    exact hx
  | k + 1, j, h, hx => by
    by_cases e : j = k + 1
    · subst e; exact hx
    · rw [sx_succ, Bool.and_eq_true] at hx
      exact sx_mono (by omega) hx.1
theorem pX_fin {p q : Int} (hp : rng p) (hq : rng q) (h : pX p q = true) : pok (fprod p q) = true ∧ pok (prL p q) = true := by
  unfold pX at h
  rw [Bool.and_eq_true] at h
  exact ⟨(prL_args hp hq h.1).2.1, h.1⟩
theorem fX_fin {p q : Int} (hp : rng p) (hq : rng q) (h : fX p q = true) : pok (fsum p q) = true ∧ pok (fL p q) = true := by
  unfold fX at h
  rw [Bool.and_eq_true] at h
  exact ⟨(fL_args hp hq h.1).2, h.1⟩
theorem sq_fin {d : Nat → Int} {b : Int} {n : Nat} (hd : ∀ i, i ≤ n → rng (d i) ∧ pok (d i) = true) (hb : rng b) : ∀ k, k ≤ n → sx d b k = true → rng (sq d b k) ∧ pok (sq d b k) = true
  | 0, _, hx => ⟨fprod_rng (hd 0 (by omega)).1 hb, (pX_fin (hd 0 (by omega)).1 hb hx).1⟩
  | k + 1, hk, hx => by
    rw [sx_succ, Bool.and_eq_true, Bool.and_eq_true, Bool.and_eq_true] at hx
    obtain ⟨h1, h2, h3, h4⟩ := hx
    obtain ⟨r1, r2⟩ := sq_fin hd hb k (by omega) h1
    obtain ⟨d1, d2⟩ := hd (k + 1) hk
    have rp := prL_rng d1 hb
    have rt := fprod_rng d1 hb
    have rs := fsum_rng r1 rp
    rw [sq_succ]
    exact ⟨fsum_rng rt rs, (fX_fin rt rs h4).1⟩
end Go.Proofs.YtcpjdgfnblkfpaaGreatDoor
