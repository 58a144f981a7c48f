/-
  Mathematics of TwoProd, over whole numbers: scaling, Dekker's steps. No Go text in sight.
-/
import Derived.Test.YtcpjdgfnblkfpaaGreatDoorEMat2
namespace Go.Proofs.YtcpjdgfnblkfpaaGreatDoor.M
set_option linter.unusedVariables false

theorem natAbs_p2 (i : Nat) (t : Int) : ((2 ^ i * t).natAbs : Int) = 2 ^ i * (t.natAbs : Int) := by
  have hi := p2 i
  rw [Int.natAbs_mul, Int.natCast_mul, show ((2 ^ i : Int).natAbs : Int) = 2 ^ i by omega]
theorem Fl.down {i : Nat} {t : Int} (h : Fl (2 ^ i * t)) : Fl t := by
  obtain ⟨k, d, b⟩ := h
  rw [natAbs_p2] at b
  rcases Nat.le_total i k with c | c
  · obtain ⟨e, rfl⟩ : ∃ e, k = i + e := ⟨k - i, by omega⟩
    rw [Int.pow_add] at d b
    refine ⟨e, Int.dvd_of_mul_dvd_mul_left (by have := p2 i; omega) d, ?_⟩
    have e2 : (9007199254740992 : Int) * (2 ^ i * 2 ^ e) = 2 ^ i * (9007199254740992 * 2 ^ e) := by rw [← Int.mul_assoc, ← Int.mul_assoc, Int.mul_comm _ (2 ^ i)]
    rw [e2] at b
    exact Int.lt_of_mul_lt_mul_left b (Int.le_of_lt (p2 i))
  · refine ⟨0, ⟨t, by simp⟩, ?_⟩
    have h1 : (9007199254740992 : Int) * 2 ^ k ≤ 2 ^ i * 9007199254740992 := by rw [Int.mul_comm]; exact Int.mul_le_mul_of_nonneg_right (p2le c) (by decide)
    have h2 := Int.lt_of_mul_lt_mul_left (Int.lt_of_lt_of_le b h1) (Int.le_of_lt (p2 i))
    simpa using h2
theorem Fl.up {t : Int} (h : Fl t) (i : Nat) : Fl (2 ^ i * t) := by
  obtain ⟨k, ⟨c, rfl⟩, b⟩ := h
  refine ⟨i + k, ⟨c, by rw [Int.pow_add, Int.mul_assoc]⟩, ?_⟩
  rw [natAbs_p2, Int.pow_add]
  have e2 : (9007199254740992 : Int) * (2 ^ i * 2 ^ k) = 2 ^ i * (9007199254740992 * 2 ^ k) := by rw [← Int.mul_assoc, ← Int.mul_assoc, Int.mul_comm _ (2 ^ i)]
  rw [e2]
  exact Int.mul_lt_mul_of_pos_left b (p2 i)
theorem nr_scale {S h : Int} (n : Nr S h) (i : Nat) : Nr (2 ^ i * S) (2 ^ i * h) := by
  have hi := p2 i
  have key : ∀ g : Int, Fl g → ((2 ^ i * h - 2 ^ i * S).natAbs : Int) ≤ ((2 ^ i * g - 2 ^ i * S).natAbs : Int) := by
    intro g hg
    rw [← Int.mul_sub, ← Int.mul_sub, natAbs_p2, natAbs_p2]
    exact Int.mul_le_mul_of_nonneg_left (by have := n.2 g hg; omega) (Int.le_of_lt hi)
  refine ⟨n.1.up i, fun f hf => ?_⟩
  by_cases d : (2 ^ i : Int) ∣ f
  · obtain ⟨g, rfl⟩ := d
    have := key g hf.down
    omega
  · -- f is small: the next whole number of units on S's side is a float, and nearer
    obtain ⟨j, dj, bj⟩ := hf
    have hji : j < i := by
      rcases Nat.lt_or_ge j i with c | c
      · exact c
      · exact absurd (Int.dvd_trans (p2dvd c) dj) d
    have hfb : (f.natAbs : Int) < 4503599627370496 * 2 ^ i := by
      have := p2le (show j + 1 ≤ i by omega)
      rw [p2s] at this
      omega
    have em := Int.emod_add_mul_ediv f (2 ^ i)
    have m0 := Int.emod_nonneg f (show (2 : Int) ^ i ≠ 0 by omega)
    have m1 := Int.emod_lt_of_pos f hi
    obtain ⟨e, he⟩ : ∃ e, f / 2 ^ i = e := ⟨_, rfl⟩
    rw [he] at em
    have small : ∀ g : Int, ((2 ^ i * g).natAbs : Int) ≤ 4503599627370496 * 2 ^ i + 2 ^ i → Fl g := by
      intro g hg
      rw [natAbs_p2] at hg
      refine fl_of (k := 0) ⟨g, by simp⟩ ?_
      have : (2 : Int) ^ i * (g.natAbs : Int) ≤ 2 ^ i * 4503599627370497 := by omega
      have := Int.le_of_mul_le_mul_left this hi
      simp
      omega
    rcases Int.lt_or_le e S with c | c
    · have h1 := key (e + 1) (small (e + 1) (by rw [Int.mul_add, Int.mul_one]; omega))
      have h2 : (2 : Int) ^ i * (e + 1) ≤ 2 ^ i * S := Int.mul_le_mul_of_nonneg_left (by omega) (Int.le_of_lt hi)
      rw [Int.mul_add, Int.mul_one] at h1 h2
      omega
    · have h1 := key e (small e (by omega))
      have h2 : (2 : Int) ^ i * S ≤ 2 ^ i * e := Int.mul_le_mul_of_nonneg_left (by omega) (Int.le_of_lt hi)
      omega
theorem norm_steps (j : Nat) : ∀ (n : Nat) (a : Int), ((a.natAbs : Int) < 9007199254740992 * 2 ^ j) → (4503599627370496 * 2 ^ j ≤ 2 ^ n * (a.natAbs : Int)) → ∃ x : Nat, 4503599627370496 * 2 ^ j ≤ ((2 ^ x * a).natAbs : Int) ∧ ((2 ^ x * a).natAbs : Int) < 9007199254740992 * 2 ^ j := by
  intro n
  induction n with
  | zero =>
    intro a h1 h2
    rw [Int.pow_zero, Int.one_mul] at h2
    exact ⟨0, by rw [Int.pow_zero, Int.one_mul]; exact ⟨h2, h1⟩⟩
  | succ n ih =>
    intro a h1 h2
    by_cases c : 4503599627370496 * 2 ^ j ≤ (a.natAbs : Int)
    · exact ⟨0, by rw [Int.pow_zero, Int.one_mul]; exact ⟨c, h1⟩⟩
    · have e : ((2 * a).natAbs : Int) = 2 * (a.natAbs : Int) := by omega
      obtain ⟨x, g⟩ := ih (2 * a) (by omega) (by rw [e, ← Int.mul_assoc, Int.mul_comm (2 ^ n) 2, ← p2s]; exact h2)
      rw [← Int.mul_assoc, Int.mul_comm (2 ^ x) 2, ← p2s] at g
      exact ⟨x + 1, g⟩
/-- A float other than 0, brought to 53 bits. -/
theorem fl_norm {a : Int} (h : Fl a) (h0 : a ≠ 0) : ∃ x j : Nat, (2 ^ j : Int) ∣ 2 ^ x * a ∧ 4503599627370496 * 2 ^ j ≤ ((2 ^ x * a).natAbs : Int) ∧ ((2 ^ x * a).natAbs : Int) < 9007199254740992 * 2 ^ j := by
  obtain ⟨j, d, b⟩ := h
  have hj := p2 j
  have h1 : (2 ^ j : Int) ≤ (a.natAbs : Int) := Int.le_of_dvd (by omega) (Int.dvd_natAbs.2 d)
  obtain ⟨x, g⟩ := norm_steps j 52 a b (by rw [show (2 : Int) ^ 52 = 4503599627370496 by decide]; omega)
  exact ⟨x, j, Int.dvd_mul_of_dvd_right d, g⟩
/-- Split's steps on any float. -/
theorem split_fl {a c d h l : Int} (ha : Fl a) (h0 : a ≠ 0) (nc : Nr (134217729 * a) c) (nd : Nr (c - a) d) (nh : Nr (c - d) h) (nl : Nr (a - h) l) :
    l = a - h ∧ ∃ x j : Nat, Spl (2 ^ x * a) (2 ^ x * h) j ∧ 4503599627370496 * 2 ^ j ≤ ((2 ^ x * a).natAbs : Int) ∧ ((2 ^ x * a).natAbs : Int) < 9007199254740992 * 2 ^ j := by
  obtain ⟨x, j, g1, g2, g3⟩ := fl_norm ha h0
  have n1 := nr_scale nc x
  rw [show (2 : Int) ^ x * (134217729 * a) = 134217729 * (2 ^ x * a) by rw [← Int.mul_assoc, Int.mul_comm (2 ^ x), Int.mul_assoc]] at n1
  have n2 := nr_scale nd x
  rw [Int.mul_sub] at n2
  have n3 := nr_scale nh x
  rw [Int.mul_sub] at n3
  have n4 := nr_scale nl x
  rw [Int.mul_sub] at n4
  obtain ⟨e1, e2, s⟩ := split_norm g1 g2 g3 n1 n2 n3 n4
  rw [← Int.mul_sub] at e2
  exact ⟨Int.eq_of_mul_eq_mul_left (by have := p2 x; omega) e2, x, j, s, g2, g3⟩
theorem abs_mul_le {x y : Int} {X Y : Int} (hx : (x.natAbs : Int) ≤ X) (hy : (y.natAbs : Int) ≤ Y) : ((x * y).natAbs : Int) ≤ X * Y := by
  rw [Int.natAbs_mul, Int.natCast_mul]
  exact Int.mul_le_mul hx hy (by omega) (by omega)
theorem abs_mul_ge {x y : Int} {X Y : Int} (hX : 0 ≤ X) (hY : 0 ≤ Y) (hx : X ≤ (x.natAbs : Int)) (hy : Y ≤ (y.natAbs : Int)) : X * Y ≤ ((x * y).natAbs : Int) := by
  rw [Int.natAbs_mul, Int.natCast_mul]
  exact Int.mul_le_mul hx hy hY (by omega)
theorem prod2 (c d : Int) (i j : Nat) : (c * 2 ^ i) * (d * 2 ^ j) = c * d * 2 ^ (i + j) := by
  rw [Int.pow_add, Int.mul_assoc, Int.mul_assoc]
  congr 1
  rw [← Int.mul_assoc, ← Int.mul_assoc, Int.mul_comm (2 ^ i) d]
theorem dr0 (a b c d : Int) : a + c + (b + d) = a + b + c + d := by omega
theorem dr1 (a b c d : Int) : a + b + c + d = a + (b + d) + c := by omega
theorem dr2 (a b c d : Int) : a + b + c + d = a + b + (c + d) := by omega
theorem dr3 (h a b c d : Int) : d - (h - a - b - c) = a + b + c + d - h := by omega
theorem dk1 {H AB PR QB PS g : Int} (e : AB = PR + QB + PS) (h : 2 * ((H - AB).natAbs : Int) ≤ 9007199254740992 * g) (q : (QB.natAbs : Int) ≤ 604462909807314587353088 * g) (s : (PS.natAbs : Int) ≤ 604462909807314587353088 * g) : ((H - PR).natAbs : Int) ≤ 9007199254740992 * (4503599627370496 * g) := by omega
theorem dk2 {H AB PR QR AS g : Int} (e : AB = PR + QR + AS) (h : 2 * ((H - AB).natAbs : Int) ≤ 9007199254740992 * g) (q : (AS.natAbs : Int) ≤ 604462909807314587353088 * g) : ((H - PR - QR).natAbs : Int) ≤ 9007199254740992 * (134217728 * g) := by omega
theorem dk3 {H AB PR QR PS QS g : Int} (e : AB = PR + QR + PS + QS) (h : 2 * ((H - AB).natAbs : Int) ≤ 9007199254740992 * g) (q : (QS.natAbs : Int) ≤ 4503599627370496 * g) : ((H - PR - QR - PS).natAbs : Int) ≤ 9007199254740992 * g := by omega
theorem dk4 {H AB PR QR PS QS g : Int} (e : AB = PR + QR + PS + QS) (h : 2 * ((H - AB).natAbs : Int) ≤ 9007199254740992 * g) : ((QS - (H - PR - QR - PS)).natAbs : Int) ≤ 9007199254740992 * g := by omega
theorem dk5 {H AB G : Int} (n : Nr AB H) (f : Fl G) (h : G ≤ (AB.natAbs : Int)) : G ≤ (H.natAbs : Int) := by
  rcases Int.le_total 0 AB with c | c
  · have := nr_ge n f (by omega); omega
  · have := nr_le n f.neg (by omega); omega
theorem dk6 {x c d g : Int} (hg : 0 < g) (h : (x.natAbs : Int) ≤ c * g) (hcd : c ≤ d) : (x.natAbs : Int) ≤ d * g := Int.le_trans h (Int.mul_le_mul_of_nonneg_right hcd (Int.le_of_lt hg))
theorem dk7 {x c d e g : Int} (hg : 0 < g) (h : (x.natAbs : Int) ≤ c * g) (hcd : c ≤ d * e) : (x.natAbs : Int) ≤ d * (e * g) := by rw [← Int.mul_assoc]; exact dk6 hg h hcd
/-- Dekker's steps: floats of 53 bits and their halves. -/
theorem dekker {A B P R H x1 t1 x2 t2 x3 t3 x4 l : Int} {i j : Nat} (sa : Spl A P i) (sb : Spl B R j) (a0 : 4503599627370496 * 2 ^ i ≤ (A.natAbs : Int)) (a1 : (A.natAbs : Int) < 9007199254740992 * 2 ^ i)
    (b0 : 4503599627370496 * 2 ^ j ≤ (B.natAbs : Int)) (b1 : (B.natAbs : Int) < 9007199254740992 * 2 ^ j)
    (nH : Nr (A * B) H) (n1 : Nr (P * R) x1) (m1 : Nr (H - x1) t1) (n2 : Nr ((A - P) * R) x2) (m2 : Nr (t1 - x2) t2) (n3 : Nr (P * (B - R)) x3) (m3 : Nr (t2 - x3) t3) (n4 : Nr ((A - P) * (B - R)) x4) (m4 : Nr (x4 - t3) l) : l = A * B - H := by
  obtain ⟨Q, hQ⟩ : ∃ Q, A - P = Q := ⟨_, rfl⟩
  obtain ⟨S, hS⟩ : ∃ S, B - R = S := ⟨_, rfl⟩
  obtain ⟨u1, u2, u3, u4⟩ := sa
  obtain ⟨v1, v2, v3, v4⟩ := sb
  rw [hQ] at u2 u4 n2 n4
  rw [hS] at v2 v4 n3 n4
  have hi := p2 i
  have hj := p2 j
  have hg := p2 (i + j)
  -- sizes
  have zAB := abs_mul_ge (by omega) (by omega) a0 b0
  rw [prod2] at zAB
  have yAB := abs_mul_le (Int.le_of_lt a1) (Int.le_of_lt b1)
  rw [prod2] at yAB
  have yQS := abs_mul_le u4 v4
  rw [prod2] at yQS
  have yQR := abs_mul_le u4 v3
  rw [prod2] at yQR
  have yPS := abs_mul_le u3 v4
  rw [prod2] at yPS
  have yPR := abs_mul_le u3 v3
  rw [prod2] at yPR
  have yQB := abs_mul_le u4 (Int.le_of_lt b1)
  rw [prod2] at yQB
  have yAS := abs_mul_le (Int.le_of_lt a1) v4
  rw [prod2] at yAS
  -- units
  have dPR : (18014398509481984 * 2 ^ (i + j) : Int) ∣ P * R := by
    have := Int.mul_dvd_mul u1 v1
    rw [prod2] at this
    exact this
  have dQR : (134217728 * 2 ^ (i + j) : Int) ∣ Q * R := by
    have := Int.mul_dvd_mul u2 v1
    rw [show (2 : Int) ^ i * (134217728 * 2 ^ j) = 134217728 * 2 ^ (i + j) by rw [← Int.mul_assoc, Int.mul_comm (2 ^ i), Int.mul_assoc, ← Int.pow_add]] at this
    exact this
  have dPS : (134217728 * 2 ^ (i + j) : Int) ∣ P * S := by
    have := Int.mul_dvd_mul u1 v2
    rw [show 134217728 * (2 : Int) ^ i * 2 ^ j = 134217728 * 2 ^ (i + j) by rw [Int.mul_assoc, ← Int.pow_add]] at this
    exact this
  have dQS : (2 ^ (i + j) : Int) ∣ Q * S := by
    have := Int.mul_dvd_mul u2 v2
    rwa [← Int.pow_add] at this
  have eA : A = P + Q := by omega
  have eB : B = R + S := by omega
  have e1 : A * B = P * R + Q * R + P * S + Q * S := by
    rw [eA, eB, Int.add_mul, Int.mul_add, Int.mul_add]; exact dr0 _ _ _ _
  have e2 : Q * B = Q * R + Q * S := by rw [eB, Int.mul_add]
  have e3 : A * S = P * S + Q * S := by rw [eA, Int.add_mul]
  have e4 : A * B = P * R + Q * B + P * S := by rw [e1, e2]; exact dr1 _ _ _ _
  have e5 : A * B = P * R + Q * R + A * S := by rw [e1, e3]; exact dr2 _ _ _ _
  clear eA eB hQ hS e2 e3
  generalize P * R = PR at *
  generalize Q * R = QR at *
  generalize P * S = PS at *
  generalize Q * S = QS at *
  generalize A * S = AS at *
  generalize Q * B = QB at *
  generalize A * B = AB at *
  obtain ⟨g, hgg⟩ : ∃ g : Int, (2 : Int) ^ (i + j) = g := ⟨_, rfl⟩
  have w27 : (2 : Int) ^ (i + j + 27) = 134217728 * g := by rw [Int.pow_add, hgg, Int.mul_comm]; rfl
  have w52 : (2 : Int) ^ (i + j + 52) = 4503599627370496 * g := by rw [Int.pow_add, hgg, Int.mul_comm]; rfl
  have w53 : (2 : Int) ^ (i + j + 53) = 9007199254740992 * g := by rw [Int.pow_add, hgg, Int.mul_comm]; rfl
  have w54 : (2 : Int) ^ (i + j + 54) = 18014398509481984 * g := by rw [Int.pow_add, hgg, Int.mul_comm]; rfl
  rw [hgg] at zAB yAB yQS yQR yPS yPR yQB yAS dPR dQR dPS dQS hg
  -- the product
  have eH := nr_err (i := i + j + 53) nH (by rw [w53]; exact dk7 hg yAB (by decide))
  rw [w53] at eH
  have L104 : Fl (20282409603651670423947251286016 * g) := by
    have := fl_p2 (i + j + 52) (m := 4503599627370496) (by decide)
    rw [w52] at this
    rwa [show ((4503599627370496 : Nat) : Int) * (4503599627370496 * g) = 20282409603651670423947251286016 * g by rw [← Int.mul_assoc]; rfl] at this
  have h104 : 20282409603651670423947251286016 * g ≤ (H.natAbs : Int) := dk5 nH L104 zAB
  have dH : (4503599627370496 * g : Int) ∣ H := by rw [← w52]; exact fl_units nH.1 (by rw [w52, ← Int.mul_assoc]; exact h104)
  have dvA : ∀ {c d x : Int}, (c * d * g : Int) ∣ x → (d * g : Int) ∣ x := fun {c d x} h => Int.dvd_trans ⟨c, by rw [Int.mul_assoc, Int.mul_comm]⟩ h
  -- the steps
  have f1 := nr_self (fl_of (k := i + j + 54) (by rw [w54]; exact dPR) (by rw [w54]; exact dk7 hg yPR (by decide))) n1
  subst f1
  have d1 : (4503599627370496 * g : Int) ∣ H - x1 := Int.dvd_sub dH (dvA (c := 4) dPR)
  have f2 := nr_self (fl_of (k := i + j + 52) (by rw [w52]; exact d1) (by rw [w52]; exact dk1 e4 eH yQB yPS)) m1
  subst f2
  have f3 := nr_self (fl_of (k := i + j + 27) (by rw [w27]; exact dQR) (by rw [w27]; exact dk7 hg yQR (by decide))) n2
  subst f3
  have d2 : (134217728 * g : Int) ∣ H - x1 - x2 := Int.dvd_sub (dvA (c := 33554432) d1) dQR
  have f4 := nr_self (fl_of (k := i + j + 27) (by rw [w27]; exact d2) (by rw [w27]; exact dk2 e5 eH yAS)) m2
  subst f4
  have f5 := nr_self (fl_of (k := i + j + 27) (by rw [w27]; exact dPS) (by rw [w27]; exact dk7 hg yPS (by decide))) n3
  subst f5
  have d3 : (g : Int) ∣ H - x1 - x2 - x3 := by
    have := Int.dvd_sub d2 dPS
    exact Int.dvd_trans ⟨134217728, by rw [Int.mul_comm]⟩ this
  have f6 := nr_self (fl_of (k := i + j) (by rw [hgg]; exact d3) (by rw [hgg]; exact dk3 e1 eH yQS)) m3
  subst f6
  have f7 := nr_self (fl_of (k := i + j) (by rw [hgg]; exact dQS) (by rw [hgg]; exact dk6 hg yQS (by decide))) n4
  subst f7
  have d4 : (g : Int) ∣ x4 - (H - x1 - x2 - x3) := Int.dvd_sub dQS d3
  have f8 := nr_self (fl_of (k := i + j) (by rw [hgg]; exact d4) (by rw [hgg]; exact dk4 e1 eH)) m4
  rw [f8, e1]
  exact dr3 _ _ _ _ _
end Go.Proofs.YtcpjdgfnblkfpaaGreatDoor.M
