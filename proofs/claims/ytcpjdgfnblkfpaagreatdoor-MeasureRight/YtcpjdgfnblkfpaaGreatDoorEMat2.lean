/-
  Mathematics of Split and TwoProd, over whole numbers. No Go text in sight.
-/
import Derived.Test.YtcpjdgfnblkfpaaGreatDoorEMath
namespace Go.Proofs.YtcpjdgfnblkfpaaGreatDoor.M
set_option linter.unusedVariables false

theorem nr_ge {S h T : Int} (n : Nr S h) (hT : Fl T) (c : T ≤ S) : T ≤ h := by
  have := n.2 T hT
  omega
theorem nr_le {S h T : Int} (n : Nr S h) (hT : Fl T) (c : S ≤ T) : h ≤ T := by
  have := n.2 T hT
  omega
theorem fl_p2 (i : Nat) {m : Nat} (hm : (m : Int) ≤ 9007199254740992) : Fl ((m : Int) * 2 ^ i) := by
  refine fl_of (k := i) ⟨m, by rw [Int.mul_comm]⟩ ?_
  have h1 : 0 ≤ (m : Int) * 2 ^ i := Int.mul_nonneg (by omega) (Int.le_of_lt (p2 i))
  have h2 : (m : Int) * 2 ^ i ≤ 9007199254740992 * 2 ^ i := Int.mul_le_mul_of_nonneg_right hm (Int.le_of_lt (p2 i))
  omega
/-- A float that is not less than 2^52 units is whole in them. -/
theorem fl_units {h : Int} {i : Nat} (f : Fl h) (c : 4503599627370496 * 2 ^ i ≤ (h.natAbs : Int)) : (2 ^ i : Int) ∣ h := by
  obtain ⟨j, d, b⟩ := f
  have hi := p2 i
  have hj := p2 j
  cases i with
  | zero => exact ⟨h, by simp⟩
  | succ i =>
    rw [p2s] at c
    have : (2 : Int) ^ i < 2 ^ j := by omega
    exact Int.dvd_trans (p2dvd (p2lt this)) d
/-- A multiple of a unit that is near. -/
theorem near_mult (S : Int) (i : Nat) : ∃ T : Int, (2 ^ i : Int) ∣ T ∧ 2 * (T - S).natAbs ≤ (2 ^ i : Int) := by
  have hi := p2 i
  have hm := Int.emod_nonneg S (show (2 : Int) ^ i ≠ 0 by omega)
  have hl := Int.emod_lt_of_pos S hi
  have e := Int.emod_add_mul_ediv S (2 ^ i)
  generalize S % 2 ^ i = t at *
  by_cases c : 2 * t ≤ 2 ^ i
  · exact ⟨S - t, ⟨S / 2 ^ i, by omega⟩, by omega⟩
  · exact ⟨S - t + 2 ^ i, ⟨S / 2 ^ i + 1, by rw [Int.mul_add, Int.mul_one]; omega⟩, by omega⟩
theorem nr_err {S h : Int} {i : Nat} (n : Nr S h) (c : (S.natAbs : Int) ≤ 9007199254740992 * 2 ^ i) : 2 * ((h - S).natAbs : Int) ≤ 2 ^ i := by
  obtain ⟨T, d, e⟩ := near_mult S i
  have hi := p2 i
  have hT : Fl T := by
    by_cases c2 : (T.natAbs : Int) ≤ 9007199254740992 * 2 ^ i
    · exact fl_of d c2
    · exfalso
      obtain ⟨t, rfl⟩ := d
      have h1 : (9007199254740992 : Int) < t.natAbs := by
        rw [Int.natAbs_mul] at c2
        have e2 : ((2 ^ i : Int).natAbs : Int) = 2 ^ i := by omega
        push_cast at c2
        rcases Int.lt_or_le 9007199254740992 (t.natAbs : Int) with g | g
        · exact g
        · exfalso
          have := Int.mul_le_mul_of_nonneg_left g (Int.le_of_lt hi)
          rw [e2] at c2
          omega
      have h2 : (2 ^ i : Int) * 9007199254740993 ≤ ((2 ^ i * t).natAbs : Int) := by
        rw [Int.natAbs_mul]
        have e2 : ((2 ^ i : Int).natAbs : Int) = 2 ^ i := by omega
        rw [Int.natCast_mul, e2]
        exact Int.mul_le_mul_of_nonneg_left (by omega) (Int.le_of_lt hi)
      generalize 2 ^ i * t = T at *
      omega
  have := n.2 T hT
  omega
/-- Split's steps on a float of 53 bits in units of 2^j, the sign aside. -/
structure Spl (a h : Int) (j : Nat) : Prop where
  up : (134217728 * 2 ^ j : Int) ∣ h
  lo : (2 ^ j : Int) ∣ a - h
  top : (h.natAbs : Int) ≤ 9007199254740992 * 2 ^ j
  low : ((a - h).natAbs : Int) ≤ 67108864 * 2 ^ j
theorem mult_le {a q : Int} {m : Int} (hq : 0 < q) (d : q ∣ a) (h : a < m * q) : a ≤ m * q - q := by
  obtain ⟨c, rfl⟩ := d
  rw [Int.mul_comm q c] at h ⊢
  have h1 : c < m := Int.lt_of_mul_lt_mul_right h (by omega)
  have h2 : (c + 1) * q ≤ m * q := Int.mul_le_mul_of_nonneg_right (by omega) (by omega)
  rw [Int.add_mul, Int.one_mul] at h2
  omega
theorem split_pos {a c d h l : Int} {j : Nat} (da : (2 ^ j : Int) ∣ a) (a0 : 4503599627370496 * 2 ^ j ≤ a) (a1 : a < 9007199254740992 * 2 ^ j)
    (nc : Nr (134217729 * a) c) (nd : Nr (c - a) d) (nh : Nr (c - d) h) (nl : Nr (a - h) l) : h = c - d ∧ l = a - h ∧ Spl a h j := by
  have hj := p2 j
  have a2 : a ≤ 9007199254740992 * 2 ^ j - 2 ^ j := mult_le hj da a1
  have a3 : a = 4503599627370496 * 2 ^ j ∨ 4503599627370496 * 2 ^ j + 2 ^ j ≤ a := by
    by_cases c0 : a = 4503599627370496 * 2 ^ j
    · exact .inl c0
    · right
      have d2 : (2 ^ j : Int) ∣ -a := (Int.dvd_neg).2 da
      have := mult_le hj d2 (show -a < -4503599627370496 * 2 ^ j by omega)
      omega
  have e27 : (2 : Int) ^ (j + 27) = 134217728 * 2 ^ j := by rw [Int.pow_add, Int.mul_comm]; rfl
  have e28 : (2 : Int) ^ (j + 28) = 268435456 * 2 ^ j := by rw [Int.pow_add, Int.mul_comm]; rfl
  have L79 : Fl (604462909807314587353088 * 2 ^ j) := by
    have := fl_p2 (j + 27) (m := 4503599627370496) (by decide)
    rw [e27] at this
    rwa [show ((4503599627370496 : Nat) : Int) * (134217728 * 2 ^ j) = 604462909807314587353088 * 2 ^ j by rw [← Int.mul_assoc]; rfl] at this
  -- the product
  have c1 := nr_ge nc L79 (by omega)
  have ec := nr_err (i := j + 28) nc (by rw [e28]; omega)
  rw [e28] at ec
  have dc : (134217728 * 2 ^ j : Int) ∣ c := by rw [← e27]; exact fl_units nc.1 (by rw [e27]; omega)
  -- where a is a power of 2 nothing is lost
  have cz : a = 4503599627370496 * 2 ^ j → c = 134217729 * a := by
    intro h0
    refine nr_self ?_ nc
    subst h0
    have := fl_p2 (j + 52) (m := 134217729) (by decide)
    rw [show (2 : Int) ^ (j + 52) = 4503599627370496 * 2 ^ j by rw [Int.pow_add, Int.mul_comm]; rfl] at this
    exact this
  have c2 : 604462909807314587353088 * 2 ^ j ≤ c - a := by
    rcases a3 with g | g
    · have := cz g; omega
    · omega
  have d1 := nr_ge nd L79 c2
  have ed := nr_err (i := j + 27) nd (by rw [e27]; omega)
  rw [e27] at ed
  have dd : (134217728 * 2 ^ j : Int) ∣ d := by rw [← e27]; exact fl_units nd.1 (by rw [e27]; omega)
  have dcd := Int.dvd_sub dc dd
  have hx : Fl (c - d) := by
    refine fl_of (k := j + 27) (by rw [e27]; exact dcd) ?_
    rw [e27]; omega
  have eh := nr_self hx nh
  have top : ((c - d).natAbs : Int) ≤ 9007199254740992 * 2 ^ j := by
    -- a multiple of 2^27 units within 2^26 of what is below 2^53
    by_cases g : c - d ≤ 9007199254740992 * 2 ^ j
    · omega
    · exfalso
      have d2 : (134217728 * 2 ^ j : Int) ∣ -(c - d) := (Int.dvd_neg).2 dcd
      have := mult_le (q := 134217728 * 2 ^ j) (m := -67108864) (by omega) d2 (by omega)
      omega
  have dal : (2 ^ j : Int) ∣ a - (c - d) := Int.dvd_sub da (Int.dvd_trans ⟨134217728, by rw [Int.mul_comm]⟩ dcd)
  have hl : Fl (a - (c - d)) := fl_of (k := j) dal (by omega)
  rw [eh] at nl ⊢
  have el := nr_self hl nl
  exact ⟨rfl, el, dcd, dal, top, by omega⟩
theorem Spl.neg {a h : Int} {j : Nat} (s : Spl a h j) : Spl (-a) (-h) j :=
  ⟨(Int.dvd_neg).2 s.up, by rw [show -a - -h = -(a - h) by omega]; exact (Int.dvd_neg).2 s.lo, by rw [Int.natAbs_neg]; exact s.top, by rw [show -a - -h = -(a - h) by omega, Int.natAbs_neg]; exact s.low⟩
theorem split_norm {a c d h l : Int} {j : Nat} (da : (2 ^ j : Int) ∣ a) (a0 : 4503599627370496 * 2 ^ j ≤ (a.natAbs : Int)) (a1 : (a.natAbs : Int) < 9007199254740992 * 2 ^ j)
    (nc : Nr (134217729 * a) c) (nd : Nr (c - a) d) (nh : Nr (c - d) h) (nl : Nr (a - h) l) : h = c - d ∧ l = a - h ∧ Spl a h j := by
  rcases Int.le_total 0 a with g | g
  · exact split_pos da (by omega) (by omega) nc nd nh nl
  · have n1 := nc.neg
    rw [show -(134217729 * a) = 134217729 * -a by omega] at n1
    have n2 := nd.neg
    rw [show -(c - a) = -c - -a by omega] at n2
    have n3 := nh.neg
    rw [show -(c - d) = -c - -d by omega] at n3
    have n4 := nl.neg
    rw [show -(a - h) = -a - -h by omega] at n4
    obtain ⟨e1, e2, s⟩ := split_pos ((Int.dvd_neg).2 da) (by omega) (by omega) n1 n2 n3 n4
    have := s.neg
    rw [Int.neg_neg, Int.neg_neg] at this
    exact ⟨by omega, by omega, this⟩
end Go.Proofs.YtcpjdgfnblkfpaaGreatDoor.M
