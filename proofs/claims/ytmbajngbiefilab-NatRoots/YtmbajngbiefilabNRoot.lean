/-
  Package nat: root, Root, by contracts: for every number.
-/
import Derived.Test.YtmbajngbiefilabNW4
import Derived.Test.YtmbajngbiefilabNLaw
import Derived.Test.YtmbajngbiefilabNPow
import Derived.Test.YtmbajngbiefilabND1
import Derived.Deep.LoopGhost
namespace Go.Proofs.Ytmbajngbiefilab
open Go Go.RowKit Go.Proofs.Ytmbajngbiefilab.M
set_option linter.unusedSimpArgs false
set_option linter.unusedVariables false

/-- The square root, cut: the greatest s with s s <= A. -/
def IsRoot (A s : Int) : Prop := 0 ≤ s ∧ s * s ≤ A ∧ A < (s + 1) * (s + 1)
theorem root_above {A s : Int} (hA : 0 ≤ A) (hs : 0 < s) (h : A < s * s) : ∀ r, r * r ≤ A → r < s := fun r hr => by
  rcases Int.lt_or_le r s with q | q
  · exact q
  · have := Int.mul_le_mul q q (by omega) (by omega)
    omega
/-- s is not below the root. -/
def Abv (A s : Int) : Prop := ∀ r, 0 ≤ r → r * r ≤ A → r ≤ s
theorem abv_start {A : Int} (hA : 0 ≤ A) {k : Nat} (h : A < 2 ^ (2 * k)) : Abv A (2 ^ k) := fun r h0 hr => by
  rcases Int.lt_or_le (2 ^ k) r with q | q
  · have h1 := Int.mul_le_mul (Int.le_of_lt q) (Int.le_of_lt q) (Int.le_of_lt (two_pos k)) h0
    rw [← Int.pow_add, ← Nat.two_mul] at h1
    omega
  · exact q
theorem abv_next {A s : Int} (hs : 0 < s) (h : Abv A s) : Abv A ((s + A / s) / 2) := fun r h0 hr => newton_above hs hr
theorem abv_done {A s : Int} (hs : 0 < s) (h : Abv A s) (hst : s ≤ (s + A / s) / 2) : IsRoot A s := by
  refine ⟨by omega, newton_stop hs hst, ?_⟩
  rcases Int.lt_or_le A ((s + 1) * (s + 1)) with q | q
  · exact q
  · have := h (s + 1) (by omega) q
    omega
theorem Num.parts {w : World} {v : Value} {V : Int} (h : Num w v V) {k : Nat} (hV : V < P k) : ∃ ao n cap d, v = .slice ao n cap ∧ Row w ao n cap d ∧ Nrm d n ∧ val d n = V ∧ n ≤ k := by
  obtain ⟨ao, n, cap, rfl⟩ := h.shape
  have hl := h.len hV
  obtain ⟨ao', n', cap', d, e, hR, h2, h3⟩ := h
  simp only [Value.slice.injEq] at e
  obtain ⟨rfl, rfl, rfl⟩ := e
  exact ⟨ao, n, cap, d, rfl, hR, h2, h3, hl⟩
theorem divide_num {w : World} {x y : Value} {A B : Int} (hx : Num w x A) (hy : Num w y B) (hA : A < P 5000) (hB : 0 < B) :
    Calls Try.prog 27 #[x, y] w fun e w' => ∃ v1 v2, e = .returned (.tuple #[v1, v2]) ∧ Ans2 w w' (A / B) v1 (A % B) v2 := by
  obtain ⟨ao, n, ca, d, rfl, hR, h2, rfl, hl⟩ := hx.parts hA
  obtain ⟨bo, m, cb, e, rfl, kR, k2, rfl⟩ := hy
  have hm : 0 < m := by
    by_cases h : 0 < m
    · exact h
    · obtain rfl : m = 0 := by omega
      exact absurd hB (Int.lt_irrefl 0)
  exact divide_any _ _ _ _ _ _ _ _ _ hR kR h2 k2 hl hm
theorem sum_num {w : World} {x y : Value} {A B : Int} (hx : Num w x A) (hy : Num w y B) (hA : A < P 5000) (hB : B < P 5000) :
    Calls Try.prog 21 #[x, y] w fun e w' => ∃ v, e = .returned v ∧ Ans w w' (A + B) v := by
  obtain ⟨ao, n, ca, d, rfl, hR, h2, rfl, hl⟩ := hx.parts hA
  obtain ⟨bo, m, cb, e, rfl, kR, k2, rfl, kl⟩ := hy.parts hB
  exact sum_any _ _ _ _ _ _ _ _ _ hR kR h2.1 k2.1 (by omega) (by omega)
theorem lower_num {w : World} {x : Value} {A : Int} (hx : Num w x A) (hA : A < P 6000) (k : Nat) (hk : (k : Int) < 9223372036854775808) :
    Calls Try.prog 28 #[x, .int .i64 k] w fun e w' => ∃ v, e = .returned v ∧ Ans w w' (A / 2 ^ k) v := by
  obtain ⟨ao, n, ca, d, rfl, hR, h2, rfl, hl⟩ := hx.parts hA
  exact lower_any _ _ _ _ _ _ hR h2.1 (by omega) hk
theorem lower_half {w : World} {x : Value} {A : Int} (hx : Num w x A) (hA : A < P 6000) :
    Calls Try.prog 28 #[x, .int .i64 1] w fun e w' => ∃ v, e = .returned v ∧ Ans w w' (A / 2) v := lower_num hx hA 1 (by decide)
theorem compare_num {w : World} {x y : Value} {A B : Int} (hx : Num w x A) (hy : Num w y B) :
    Calls Try.prog 22 #[x, y] w fun e w' => e = .returned (.int .i64 (ord A B)) ∧ Below w.heap.size w w' := by
  obtain ⟨ao, n, ca, d, rfl, hR, h2, rfl⟩ := hx
  obtain ⟨bo, m, cb, e, rfl, kR, k2, rfl⟩ := hy
  exact compare_any _ _ _ _ _ _ _ _ _ hR kR h2 k2
theorem raise_num {w : World} {x : Value} {A : Int} (hx : Num w x A) (hA : A < P 5000) (k : Nat) (hk : k ≤ 1000000) :
    Calls Try.prog 26 #[x, .int .i64 k] w fun e w' => ∃ v, e = .returned v ∧ Ans w w' (A * 2 ^ k) v := by
  obtain ⟨ao, n, ca, d, rfl, hR, h2, rfl, hl⟩ := hx.parts hA
  exact raise_any _ _ _ _ _ _ hR h2.1 (by omega) hk
theorem difference_num {w : World} {x y : Value} {A B : Int} (hx : Num w x A) (hy : Num w y B) (hA : A < P 5000) (hle : B ≤ A) :
    Calls Try.prog 18 #[x, y] w fun e w' => ∃ v, e = .returned v ∧ Ans w w' (A - B) v := by
  obtain ⟨ao, n, ca, d, rfl, hR, h2, rfl, hl⟩ := hx.parts hA
  obtain ⟨bo, m, cb, e, rfl, kR, k2, rfl⟩ := hy
  exact difference_any _ _ _ _ _ _ _ _ _ hR kR h2.1 k2.1 (by omega) (nrm_le_len k2 h2.1 hle) hle
theorem bitLength_num {w : World} {x : Value} {A : Int} (hx : Num w x A) (hA : A < P 5000) :
    Calls Try.prog 23 #[x] w fun e w' => e = .returned (.int .i64 (blen A)) ∧ w' = w := by
  obtain ⟨ao, n, ca, d, rfl, hR, h2, rfl, hl⟩ := hx.parts hA
  exact bitLength_any _ _ _ _ _ hR h2 (by omega)

/-- A root that is answered. -/
def RootA (w w' : World) (A : Int) (v : Value) : Prop := ∃ s, Ans w w' s v ∧ IsRoot A s
theorem root_bnd {A s : Int} (hA : A < P 2000) (hA0 : 0 ≤ A) (hs : 0 < s) (h3 : s < P 3000) : A / s < P 5000 ∧ s < P 5000 ∧ s + A / s < P 6000 := by
  have h1 : A / s ≤ A := Int.ediv_le_self _ hA0
  have p1 := P_le (show 2000 ≤ 3000 by decide)
  have p2 := P_le (show 3000 ≤ 5000 by decide)
  have p3 : P 3000 + P 3000 ≤ P 6000 := by
    have h := P_le (show 3001 ≤ 6000 by decide)
    have e : P 3001 = P 3000 * 1073741824 := P_succ 3000
    have := P_pos 3000
    generalize P 3000 = X at *
    generalize P 6000 = Y at *
    generalize P 3001 = Z at *
    omega
  generalize P 3000 = X at *
  generalize P 6000 = Y at *
  generalize P 5000 = Z at *
  generalize P 2000 = T at *
  refine ⟨?_, ?_, ?_⟩ <;> omega
/-- Where a root's rounds stand: s is in new memory, and not below the root. -/
def RootR (w0 : World) (A : Int) (v : Value) (s : Int) (wr : World) : Prop := Ans w0 wr s v ∧ 0 < s ∧ Abv A s ∧ s < P 3000
set_option maxRecDepth 100000 in
set_option maxHeartbeats 1000000 in
theorem root_any (ao : Option Addr) (n ca : Nat) (A : Int) (w : World) (ha : Num w (.slice ao n ca) A) (hA : A < P 2000) :
    Calls Try.prog 17 #[.slice ao n ca] w fun e w' => ∃ v, e = .returned v ∧ RootA w w' A v := by
  have hA0 := ha.nonneg
  have hz := ha.zero
  have hn := ha.len hA
  have HA5 : Hid (A < P 5000) := Int.lt_of_lt_of_le hA (P_le (by decide))
  have HA : Hid (A < P 2000) := hA
  clear hA
  by_cases h0 : n = 0
  · subst h0
    have HZ : Hid (IsRoot A 0) := by have : A = 0 := hz.2 rfl; subst this; exact ⟨by omega, by omega, by omega⟩
    clear hz
    go_enter Try.func17, Try.ntmps17
    go_wp2
    go_ret
    exact ⟨_, rfl, 0, Ans.nil (bel_refl _), HZ.out⟩
  · have e0 : ((n : Int) == 0) = false := by simp; omega
    have hAp : 0 < A := by
      rcases Int.lt_or_eq_of_le hA0 with q | q
      · exact q
      · exact absurd (hz.1 q.symm) h0
    have hbl : blen A ≤ 60000 := blen_le (by rw [show (2 : Int) ^ 60000 = P 2000 from (P_two 2000).symm]; exact HA.out)
    obtain ⟨k, hk⟩ : ∃ k : Nat, (((blen A : Nat) : Int) + 1) / 2 = k := ⟨(blen A + 1) / 2, by omega⟩
    have hk1 : k ≤ 30000 := by omega
    have HAB : Hid (Abv A (2 ^ k)) := abv_start hA0 (by
      have h1 := blen_lt A
      have h2 : (2 : Int) ^ blen A ≤ 2 ^ (2 * k) := two_le (by omega)
      omega)
    have HP3 : Hid ((2 : Int) ^ k < P 3000) := by
      have h1 : (2 : Int) ^ k < 2 ^ (30 * 3000) := two_lt (by omega)
      rw [← P_two] at h1; exact h1
    have HR0 : ∀ w1 v, Ans w w1 (1 * 2 ^ k) v → RootR w A v (2 ^ k) w1 := fun w1 v h => ⟨by rw [Int.one_mul] at h; exact h, two_pos k, HAB.out, HP3.out⟩
    have P1 : Hid ((1 : Int) < P 5000) := Int.lt_of_lt_of_le (show (1 : Int) < P 1 by decide) (P_le (by decide))
    clear hz
    go_enter Try.func17, Try.ntmps17
    go_wp2_with fail
    refine (bitLength_num (ha.alloc _) HA5.out).mono ?_
    rintro e w1 ⟨rfl, rfl⟩
    go_wp2_with fail
    refine (raise_num (num1 w 1 (by decide) (by decide) rfl) P1.out k (by omega)).mono ?_
    rintro e w2 ⟨v, rfl, hv⟩
    have hR2 := HR0 w2 v (hv.from (bel_alloc _ _))
    clear hv HR0
    go_wp2
    go_loopg [3] (((2 : Int) ^ k).toNat) (fun g v wr => ∃ s : Int, RootR w A v s wr ∧ g = s.toNat)
    case atStart => exact ⟨_, hR2, rfl⟩
    case round =>
      clear hR2
      obtain ⟨s, hR, hgk⟩ := hrel
      have HGK : Hid (gk = s.toNat) := hgk
      clear hgk
      obtain ⟨hs, hs0, hab, hs3⟩ := hR
      obtain ⟨B1, B2, B3⟩ := root_bnd HA.out hA0 hs0 hs3
      have HB1 : Hid (A / s < P 5000) := B1
      have HB2 : Hid (s < P 5000) := B2
      have HB3 : Hid (s + A / s < P 6000) := B3
      have HAb : Hid (Abv A s) := hab
      have HS3 : Hid (s < P 3000) := hs3
      clear B1 B2 B3 hab hs3
      go_wp2_with fail
      refine (divide_num (ha.keeps hs.below) hs.num HA5.out hs0).mono ?_
      rintro e w3 ⟨q, r, rfl, hq, hr, _⟩
      have b3 := hq.below
      go_wp2_with fail
      refine (sum_num (hs.num.keeps b3) hq.num HB2.out HB1.out).mono ?_
      rintro e w4 ⟨v4, rfl, h4⟩
      go_wp2_with fail
      refine (lower_half h4.num HB3.out).mono ?_
      rintro e w5 ⟨v5, rfl, h5⟩
      have b45 := bel_trans h4.below h5.below
      have hs5 := (hs.num.keeps b3).keeps b45
      go_wp2_with fail
      refine (compare_num h5.num hs5).mono ?_
      rintro e w6 ⟨rfl, b6⟩
      have b36 := bel_trans (bel_trans b3 b45) b6
      by_cases hge : s ≤ (s + A / s) / 2
      · have hd : decide (0 ≤ ord ((s + A / s) / 2) s) = true := decide_eq_true (by have := ord_ge hge; omega)
        go_wp2
        go_ret
        exact ⟨_, rfl, s, hs.stays b36, abv_done hs0 HAb.out hge⟩
      · have hd : decide (0 ≤ ord ((s + A / s) / 2) s) = false := decide_eq_false (by rw [ord_lt (by omega)]; omega)
        have hn0 : 0 < (s + A / s) / 2 := by
          have := abv_next hs0 HAb.out 1 (by omega) (by omega)
          omega
        have HN : Hid (RootR w A v5 ((s + A / s) / 2) w6) := ⟨((h5.from h4.below).from (bel_trans hs.below b3)).stays b6, hn0, abv_next hs0 HAb.out, by
          have := HS3.out
          generalize P 3000 = X at *
          omega⟩
        have HLT : Hid (((s + A / s) / 2).toNat < s.toNat) := by show _ < _; omega
        go_wp2
        go_roundg (((s + A / s) / 2).toNat)
        case measure => rw [HGK.out]; exact HLT.out
        case rel => exact ⟨_, HN.out, rfl⟩

set_option maxRecDepth 100000 in
set_option maxHeartbeats 400000 in
theorem root_num {w : World} {x : Value} {A : Int} (hx : Num w x A) (hA : A < P 2000) :
    Calls Try.prog 6 #[x] w fun e w' => ∃ v1 v2, e = .returned (.tuple #[v1, v2, .int .i64 0]) ∧ ∃ s, IsRoot A s ∧ Ans2 w w' s v1 (A - s * s) v2 := by
  have hx' := hx
  have HA5 : Hid (A < P 5000) := Int.lt_of_lt_of_le hA (P_le (by decide))
  obtain ⟨ao, n, ca, d, rfl, hR, h2, rfl⟩ := hx
  have ok := Num.ok h2 hA
  have HA : Hid (val d n < P 2000) := hA
  clear hA
  go_enter Try.func6, Try.ntmps6
  go_wp2_with fail
  refine (valid_any _ _ _ _ _ hR).mono ?_
  rintro e w' ⟨rfl, rfl⟩
  go_wp2_with fail
  refine (root_any _ _ _ _ _ hx' HA.out).mono ?_
  rintro e w1 ⟨v1, rfl, s, h1, hroot⟩
  have hs0 := hroot.1
  have hs1 := hroot.2.1
  have HSB : Hid (s < P 100000) := by
    have h3 : s ≤ val d n := by
      rcases Int.lt_or_eq_of_le hs0 with q | q
      · have : 1 * s ≤ s * s := mul_le_r (by omega) hs0
        omega
      · rw [← q]; exact val_nonneg h2.1
    exact Int.lt_of_le_of_lt h3 (Int.lt_of_lt_of_le HA.out (P_le (by decide)))
  go_wp2_with fail
  refine (product_num h1.num h1.num HSB.out HSB.out).mono ?_
  rintro e w2 ⟨v2, rfl, h3⟩
  go_wp2_with fail
  refine (difference_num (hx'.keeps (bel_trans h1.below h3.below)) h3.num HA5.out hs1).mono ?_
  rintro e w3 ⟨v3, rfl, h4⟩
  have b13 := bel_trans h3.below h4.below
  go_wp2
  go_ret3
  refine ⟨_, _, rfl, s, hroot, h1.stays b13, h4.from (bel_trans h1.below h3.below), ?_⟩
  intro c hc hc2
  obtain ⟨t1, d1, hO1, _⟩ := h1
  obtain ⟨t4, d4, hO4, _⟩ := h4
  have e1 := (World.ownsRow.lt hO1 c hc).2
  have e2 := own_ge hO4 c hc2
  have := h3.below.size
  omega
end Go.Proofs.Ytmbajngbiefilab
