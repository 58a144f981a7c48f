/-
  Mathematics of single operations and what they lose, over whole numbers: floats without an upper end (in units of the least one), the nearest one, Sterbenz, the error of a sum, TwoSum, FastTwoSum. No Go text in sight.
-/
namespace Go.Proofs.YtcpjdgfnblkfpaaGreatDoor.M
set_option linter.unusedVariables false

/-- A float, in units of the least one, with no upper end: 53 bits at most. -/
def Fl (n : Int) : Prop := ∃ k : Nat, (2 ^ k : Int) ∣ n ∧ (n.natAbs : Int) < 9007199254740992 * 2 ^ k
/-- A nearest float. -/
def Nr (S h : Int) : Prop := Fl h ∧ ∀ f, Fl f → (h - S).natAbs ≤ (f - S).natAbs
theorem p2 (k : Nat) : (0 : Int) < 2 ^ k := Int.pow_pos (by decide)
theorem p2s (k : Nat) : (2 : Int) ^ (k + 1) = 2 * 2 ^ k := by rw [Int.pow_succ, Int.mul_comm]
theorem p2dvd {j k : Nat} (h : j ≤ k) : (2 ^ j : Int) ∣ 2 ^ k := ⟨2 ^ (k - j), by rw [← Int.pow_add, Nat.add_sub_cancel' h]⟩
theorem p2le {j k : Nat} (h : j ≤ k) : (2 : Int) ^ j ≤ 2 ^ k := Int.le_of_dvd (p2 k) (p2dvd h)
theorem p2lt {j k : Nat} (h : (2 : Int) ^ j < 2 ^ k) : j < k := by
  rcases Nat.lt_or_ge j k with c | c
  · exact c
  · have := p2le c; omega
theorem Fl.neg {n : Int} (h : Fl n) : Fl (-n) := by
  obtain ⟨k, d, b⟩ := h
  exact ⟨k, (Int.dvd_neg).2 d, by rw [Int.natAbs_neg]; exact b⟩
theorem fl_zero : Fl 0 := ⟨0, ⟨0, by simp⟩, by simp⟩
/-- A multiple of 2^k of at most 53 bits. -/
theorem fl_of {n : Int} {k : Nat} (d : (2 ^ k : Int) ∣ n) (b : (n.natAbs : Int) ≤ 9007199254740992 * 2 ^ k) : Fl n := by
  by_cases c : (n.natAbs : Int) < 9007199254740992 * 2 ^ k
  · exact ⟨k, d, c⟩
  · have e : (n.natAbs : Int) = 9007199254740992 * 2 ^ k := by omega
    refine ⟨k + 1, ?_, ?_⟩
    · rw [← Int.dvd_natAbs, e, p2s]
      exact ⟨4503599627370496, by omega⟩
    · rw [p2s]; have := p2 k; omega
theorem Fl.dbl {n : Int} (h : Fl n) : Fl (2 * n) := by
  obtain ⟨k, ⟨c, rfl⟩, b⟩ := h
  refine ⟨k + 1, ⟨c, by rw [p2s, Int.mul_assoc]⟩, ?_⟩
  rw [p2s]
  omega
theorem Nr.neg {S h : Int} (n : Nr S h) : Nr (-S) (-h) := by
  refine ⟨n.1.neg, fun f hf => ?_⟩
  have := n.2 (-f) hf.neg
  omega
theorem nr_self {S h : Int} (hS : Fl S) (n : Nr S h) : h = S := by
  have := n.2 S hS
  omega
/-- What is no more than either of two floats, is their difference a float. -/
theorem fl_sub {x y : Int} (hx : Fl x) (hy : Fl y) (h1 : (x - y).natAbs ≤ x.natAbs) (h2 : (x - y).natAbs ≤ y.natAbs) : Fl (x - y) := by
  obtain ⟨j, dx, bx⟩ := hx
  obtain ⟨k, dy, by1⟩ := hy
  rcases Nat.le_total j k with c | c
  · exact ⟨j, Int.dvd_sub dx (Int.dvd_trans (p2dvd c) dy), by omega⟩
  · exact ⟨k, Int.dvd_sub (Int.dvd_trans (p2dvd c) dx) dy, by omega⟩
theorem fl_add {x y : Int} (hx : Fl x) (hy : Fl y) (h1 : (x + y).natAbs ≤ x.natAbs) (h2 : (x + y).natAbs ≤ y.natAbs) : Fl (x + y) := by
  have e : x + y = x - -y := by omega
  rw [e]
  exact fl_sub hx hy.neg (by omega) (by omega)
/-- The nearest float of a multiple of 2^k is one. -/
theorem nr_dvd_pos {S h : Int} {k : Nat} (n : Nr S h) (d : (2 ^ k : Int) ∣ S) (h0 : 0 ≤ S) : (2 ^ k : Int) ∣ h := by
  by_cases c : (S.natAbs : Int) ≤ 9007199254740992 * 2 ^ k
  · rw [nr_self (fl_of d c) n]; exact d
  · have hT : Fl (9007199254740992 * 2 ^ k) := fl_of ⟨9007199254740992, by rw [Int.mul_comm]⟩ (by have := p2 k; omega)
    have h1 := n.2 _ hT
    obtain ⟨j, dj, bj⟩ := n.1
    have hk := p2 k
    have hj := p2 j
    have : (2 : Int) ^ k < 2 ^ j := by omega
    exact Int.dvd_trans (p2dvd (Nat.le_of_lt (p2lt this))) dj
theorem nr_dvd {S h : Int} {k : Nat} (n : Nr S h) (d : (2 ^ k : Int) ∣ S) : (2 ^ k : Int) ∣ h := by
  rcases Int.le_total 0 S with c | c
  · exact nr_dvd_pos n d c
  · have := nr_dvd_pos n.neg ((Int.dvd_neg).2 d) (by omega)
    exact (Int.dvd_neg).1 this
/-- What a sum loses is a float. -/
theorem err_sum {a b h : Int} (ha : Fl a) (hb : Fl b) (n : Nr (a + b) h) : Fl (a + b - h) := by
  have e1 := n.2 a ha
  have e2 := n.2 b hb
  obtain ⟨j, da, ba⟩ := ha
  obtain ⟨k, db, bb⟩ := hb
  rcases Nat.le_total j k with c | c
  · have d := Int.dvd_add da (Int.dvd_trans (p2dvd c) db)
    exact ⟨j, Int.dvd_sub d (nr_dvd n d), by omega⟩
  · have d := Int.dvd_add (Int.dvd_trans (p2dvd c) da) db
    exact ⟨k, Int.dvd_sub d (nr_dvd n d), by omega⟩
/-- The step back of FastTwoSum is exact. -/
theorem back_pos {a b h : Int} (ha : Fl a) (hb : Fl b) (h0 : 0 ≤ a) (hab : b.natAbs ≤ a.natAbs) (n : Nr (a + b) h) : Fl (h - a) := by
  have ea := n.2 a ha
  have e2 := n.2 (2 * a) ha.dbl
  have ez := n.2 0 fl_zero
  by_cases hs : a ≤ 2 * h
  · exact fl_sub n.1 ha (by omega) (by omega)
  · have hS : Fl (a + b) := by
      obtain ⟨k, ⟨c, hc⟩, ba⟩ := ha
      cases k with
      | zero => exact ⟨0, ⟨a + b, by simp⟩, by simp at ba ⊢; omega⟩
      | succ k =>
        have hf : Fl (2 ^ k * c) := ⟨k, ⟨c, rfl⟩, by rw [p2s] at ba hc; rw [Int.mul_assoc] at hc; omega⟩
        have e3 := n.2 _ hf
        rw [p2s, Int.mul_assoc] at hc
        exact fl_add ⟨k + 1, ⟨c, by rw [p2s, Int.mul_assoc]; exact hc⟩, ba⟩ hb (by omega) (by omega)
    rw [nr_self hS n, show a + b - a = b by omega]
    exact hb
theorem back {a b h : Int} (ha : Fl a) (hb : Fl b) (hab : b.natAbs ≤ a.natAbs) (n : Nr (a + b) h) : Fl (h - a) := by
  rcases Int.le_total 0 a with c | c
  · exact back_pos ha hb c hab n
  · have n2 := n.neg
    rw [show -(a + b) = -a + -b by omega] at n2
    have := (back_pos ha.neg hb.neg (by omega) (by omega) n2).neg
    rwa [show -(-h - -a) = h - a by omega] at this
/-- Where a number lies. -/
theorem binade (S : Int) (h0 : 0 ≤ S) : ∃ k : Nat, S < 9007199254740992 * 2 ^ k ∧ (k = 0 ∨ 4503599627370496 * 2 ^ k ≤ S) := by
  have ex : ∀ n : Nat, S < 9007199254740992 * 2 ^ n → ∃ k : Nat, S < 9007199254740992 * 2 ^ k ∧ (k = 0 ∨ 4503599627370496 * 2 ^ k ≤ S) := by
    intro n
    induction n with
    | zero => intro h; exact ⟨0, h, .inl rfl⟩
    | succ n ih =>
      intro h
      by_cases c : S < 9007199254740992 * 2 ^ n
      · exact ih c
      · exact ⟨n + 1, h, .inr (by rw [p2s]; omega)⟩
  refine ex S.natAbs ?_
  have h1 : S.natAbs < 2 ^ S.natAbs := Nat.lt_two_pow_self
  have h2 : ((2 ^ S.natAbs : Nat) : Int) = 2 ^ S.natAbs := by simp
  have h3 := p2 S.natAbs
  omega
/-- What is lost is little. -/
theorem nr_rel_pos {S h : Int} (n : Nr S h) (h0 : 0 ≤ S) : 1000 * (h - S).natAbs ≤ S.natAbs := by
  obtain ⟨k, b, c⟩ := binade S h0
  have hk := p2 k
  have hm := Int.emod_nonneg S (show (2 : Int) ^ k ≠ 0 by omega)
  have hl := Int.emod_lt_of_pos S hk
  have hf : Fl (S - S % 2 ^ k) := by
    refine fl_of (k := k) ⟨S / 2 ^ k, by have := Int.emod_add_mul_ediv S (2 ^ k); omega⟩ ?_
    have : 0 ≤ S - S % 2 ^ k := by
      have := Int.emod_add_mul_ediv S (2 ^ k)
      have h2 : 0 ≤ 2 ^ k * (S / 2 ^ k) := Int.mul_nonneg (by omega) (Int.ediv_nonneg h0 (by omega))
      omega
    omega
  have e := n.2 _ hf
  rcases c with c | c
  · subst c
    have : S % 2 ^ 0 = 0 := by simp
    omega
  · omega
theorem nr_rel {S h : Int} (n : Nr S h) : 1000 * (h - S).natAbs ≤ S.natAbs := by
  rcases Int.le_total 0 S with c | c
  · exact nr_rel_pos n c
  · have := nr_rel_pos n.neg (by omega)
    omega
/-- TwoSum's steps: what is told as lost is what was lost. -/
theorem two_sum {a b h v u p q l : Int} (ha : Fl a) (hb : Fl b) (nh : Nr (a + b) h) (nv : Nr (h - a) v) (nu : Nr (h - v) u) (np : Nr (a - u) p) (nq : Nr (b - v) q) (nl : Nr (p + q) l) : l = a + b - h := by
  have hd := err_sum ha hb nh
  -- the step back, where it is exact
  have A : Fl (h - a) → l = a + b - h := by
    intro hx
    have e1 := nr_self hx nv
    subst e1
    rw [show h - (h - a) = a by omega] at nu
    have e2 := nr_self ha nu
    subst e2
    rw [show u - u = 0 by omega] at np
    have e3 := nr_self fl_zero np
    subst e3
    rw [show b - (h - u) = u + b - h by omega] at nq
    have e4 := nr_self hd nq
    subst e4
    rw [show 0 + (u + b - h) = u + b - h by omega] at nl
    exact nr_self hd nl
  by_cases hab : b.natAbs ≤ a.natAbs
  · exact A (back ha hb hab nh)
  by_cases hha : a.natAbs ≤ h.natAbs
  · -- h - v is exact
    have n1 : Nr (h + -a) v := by rw [show h + -a = h - a by omega]; exact nv
    have hx := (back nh.1 ha.neg (by omega) n1).neg
    rw [show -(v - h) = h - v by omega] at hx
    have e1 := nr_self hx nu
    subst e1
    have hy := (err_sum nh.1 ha.neg n1).neg
    rw [show -(h + -a - v) = a - (h - v) by omega] at hy
    have e2 := nr_self hy np
    subst e2
    have r1 := nr_rel nh
    have r2 := nv.2 b hb
    have hz : Fl (b - v) := fl_sub hb nv.1 (by omega) (by omega)
    have e3 := nr_self hz nq
    subst e3
    rw [show a - (h - v) + (b - v) = a + b - h by omega] at nl
    exact nr_self hd nl
  · -- then the sum is exact
    have e1 := nh.2 a ha
    have e2 := nh.2 (-a) ha.neg
    have hS : Fl (a + b) := fl_add ha hb (by omega) (by omega)
    have e3 := nr_self hS nh
    exact A (by rw [e3, show a + b - a = b by omega]; exact hb)
/-- FastTwoSum's steps, the first one not less. -/
theorem fast_sum {a b h v l : Int} (ha : Fl a) (hb : Fl b) (hab : b.natAbs ≤ a.natAbs) (nh : Nr (a + b) h) (nv : Nr (h - a) v) (nl : Nr (b - v) l) : l = a + b - h := by
  have hd := err_sum ha hb nh
  have e1 := nr_self (back ha hb hab nh) nv
  subst e1
  rw [show b - (h - a) = a + b - h by omega] at nl
  exact nr_self hd nl
end Go.Proofs.YtcpjdgfnblkfpaaGreatDoor.M
