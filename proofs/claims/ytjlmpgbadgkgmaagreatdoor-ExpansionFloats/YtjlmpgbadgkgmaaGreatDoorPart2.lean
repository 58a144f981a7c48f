/-
  Parts of the proof, one behind another.
-/
import Derived.Test.YtjlmpgbadgkgmaaGreatDoorPart1
import Derived.Lib.BitFns
import Derived.Lib.ItoaNum
import Derived.Laws.Bits64b
import Derived.Deep.AppendLies
import Derived.Deep.RegionHeld3
import Derived.Deep.RegionLaw
/-
  Plain mathematics of the number of bits: the least k with V < 2^k. No Go text in sight.
-/
namespace Go.Proofs.YtjlmpgbadgkgmaaGreatDoor.M
open Go
set_option linter.unusedSimpArgs false
set_option linter.unusedVariables false

/-- The number of bits. -/
def blen (V : Int) : Nat := if V ≤ 0 then 0 else Nat.log2 V.toNat + 1
theorem blen_zero : blen 0 = 0 := by decide
theorem blen_lt (V : Int) : V < 2 ^ blen V := by
  unfold blen
  split
  · show V < 1; omega
  · have h := @Nat.lt_log2_self V.toNat
    have e : ((V.toNat : Nat) : Int) < ((2 ^ (Nat.log2 V.toNat + 1) : Nat) : Int) := Int.ofNat_lt.2 h
    rw [Int.toNat_of_nonneg (by omega)] at e
    simpa using e
theorem blen_pos {V : Int} (h : 0 < V) : 1 ≤ blen V ∧ 2 ^ (blen V - 1) ≤ V := by
  unfold blen
  rw [if_neg (by omega)]
  refine ⟨by omega, ?_⟩
  have h1 := Nat.log2_self_le (n := V.toNat) (by omega)
  have e : ((2 ^ Nat.log2 V.toNat : Nat) : Int) ≤ ((V.toNat : Nat) : Int) := Int.ofNat_le.2 h1
  rw [Int.toNat_of_nonneg (by omega)] at e
  simpa using e
theorem two_lt_iff {j k : Nat} (h : (2 : Int) ^ j < 2 ^ k) : j < k := by
  rcases Nat.lt_or_ge j k with h1 | h1
  · exact h1
  · have := two_le h1; omega
theorem blen_le {V : Int} {k : Nat} (h : V < 2 ^ k) : blen V ≤ k := by
  by_cases h0 : 0 < V
  · obtain ⟨h1, h2⟩ := blen_pos h0
    have := two_lt_iff (show (2 : Int) ^ (blen V - 1) < 2 ^ k by omega)
    omega
  · unfold blen; rw [if_pos (by omega)]; omega
theorem blen_ge {V : Int} {k : Nat} (h : 2 ^ k ≤ V) : k < blen V := by
  have h1 := blen_lt V
  exact two_lt_iff (by omega)
theorem blen_of {V : Int} {k : Nat} (h1 : 2 ^ k ≤ V) (h2 : V < 2 ^ (k + 1)) : blen V = k + 1 := by
  have a := blen_ge h1
  have b := blen_le h2
  omega
theorem bitLen_eq {x : Int} (h0 : 0 ≤ x) (h1 : x < 18446744073709551616) : (Lib.bitLen x.toNat : Int) = blen x := by
  by_cases hx : x = 0
  · subst hx; decide
  · obtain ⟨a, b, c⟩ := Lib.bitLenAux_bounds 64 x.toNat (by omega) (by omega)
    have e : blen x = Lib.bitLen x.toNat := by
      have hb : Lib.bitLen x.toNat = Lib.bitLenAux 64 x.toNat := rfl
      rw [← hb] at a b c
      obtain ⟨k, hk⟩ : ∃ k, Lib.bitLen x.toNat = k + 1 := ⟨Lib.bitLen x.toNat - 1, by omega⟩
      rw [hk] at b c ⊢
      have b' : ((2 ^ k : Nat) : Int) ≤ ((x.toNat : Nat) : Int) := Int.ofNat_le.2 (by simpa using b)
      have c' : ((x.toNat : Nat) : Int) < ((2 ^ (k + 1) : Nat) : Int) := Int.ofNat_lt.2 c
      rw [Int.toNat_of_nonneg h0] at b' c'
      exact blen_of (by simpa using b') (by simpa using c')
    rw [e]
theorem blen_val {d : Nat → Int} {n : Nat} (h : Nrm d (n + 1)) : blen (val d (n + 1)) = 30 * n + blen (d n) := by
  have hd := h.1 n (by omega)
  have ht : d n ≠ 0 := by rcases h.2 with e | e; (· omega); (· simpa using e)
  have hp : 0 < d n := by omega
  obtain ⟨a, b⟩ := blen_pos hp
  have c := blen_lt (d n)
  have v0 := val_nonneg (h.1.le (Nat.le_succ n))
  have v1 := val_lt (h.1.le (Nat.le_succ n))
  have pp := P_pos n
  obtain ⟨k, hk⟩ : ∃ k, blen (d n) = k + 1 := ⟨blen (d n) - 1, by omega⟩
  rw [hk] at b c ⊢
  rw [show 30 * n + (k + 1) = (30 * n + k) + 1 by omega]
  have e1 : (2 : Int) ^ (30 * n + k) = 2 ^ k * P n := by rw [Int.pow_add, P_two, Int.mul_comm]
  have e2 : (2 : Int) ^ (30 * n + k + 1) = 2 ^ (k + 1) * P n := by rw [show 30 * n + k + 1 = 30 * n + (k + 1) by omega, Int.pow_add, P_two, Int.mul_comm]
  have f1 : (2 : Int) ^ k * P n ≤ d n * P n := Int.mul_le_mul_of_nonneg_right (by simpa using b) (by omega)
  have f2 : (d n + 1) * P n ≤ 2 ^ (k + 1) * P n := Int.mul_le_mul_of_nonneg_right (by omega) (by omega)
  rw [Int.add_mul] at f2
  apply blen_of
  · rw [e1, val_succ]; omega
  · rw [e2, val_succ]; omega
end Go.Proofs.YtjlmpgbadgkgmaaGreatDoor.M

/-
  math/bits.Len64 and Len; nat's width, bitLength, Bits, by contracts.
-/
namespace Go.Proofs.YtjlmpgbadgkgmaaGreatDoor
open Go Go.RowKit Go.Proofs.YtjlmpgbadgkgmaaGreatDoor.M
set_option linter.unusedSimpArgs false
set_option linter.unusedVariables false

theorem len_close (x q : Int) (s : Nat) (h : q.toNat < Lib.len8tab.size) (hq0 : 0 ≤ q) (hq : q ≤ 255) (hs : s ≤ 56) (hb : Lib.bitLen x.toNat = s + Lib.bitLen q.toNat) :
    wrap64 ((s : Int) + wrap64 ((Lib.len8tab[q.toNat]'h).toNat : Int)) = (Lib.bitLen x.toNat : Int) := by
  have e := Lib.len8_of q hq0 hq
  have l := Lib.bitLen_le8' q hq0 hq
  unfold Lib.len8 at e
  rw [getElem?_pos Lib.len8tab q.toNat h] at e
  simp only [Option.getD_some] at e
  rw [e, hb]
  unfold wrap64
  omega
theorem len_close0 (x : Int) (h : x.toNat < Lib.len8tab.size) (hq0 : 0 ≤ x) (hq : x ≤ 255) :
    wrap64 (wrap64 ((Lib.len8tab[x.toNat]'h).toNat : Int)) = (Lib.bitLen x.toNat : Int) := by
  have := len_close x x 0 h hq0 hq (by omega) (by omega)
  simpa using this
theorem len_q (x q : Int) (s : Nat) (h0 : 0 ≤ x) (h1 : x ≤ 18446744073709551615) (hx : ((2 ^ s : Nat) : Int) ≤ x) (e : q = x / ((2 ^ s : Nat) : Int)) : Lib.bitLen x.toNat = s + Lib.bitLen q.toNat := by
  rw [Lib.bitLen_shift s x.toNat (by omega) (by omega), e]
  congr 2
  obtain ⟨n, rfl⟩ := Int.eq_ofNat_of_zero_le h0
  rw [← Int.natCast_ediv, Int.toNat_natCast, Int.toNat_natCast]
set_option maxHeartbeats 4000000 in
set_option maxRecDepth 100000 in
theorem len64 (x : Int) (w : World) (h0 : 0 ≤ x) (h1 : x ≤ 18446744073709551615) :
    Calls Tryz.prog 56 #[.int .u64 x] w fun e w' => e = .returned (.int .i64 (Lib.bitLen x.toNat)) ∧ w' = w := by
  have hs : Lib.len8tab.size = 256 := by decide +kernel
  go_enter Tryz.func56, Tryz.ntmps56
  go_wp2
  all_goals go_ret
  · exact ⟨ret_int (len_close x _ 56 _ (by omega) (by omega) (by omega) (len_q x _ 56 h0 h1 (by omega) (by omega))), rfl⟩
  · exact ⟨ret_int (len_close x _ 48 _ (by omega) (by omega) (by omega) (len_q x _ 48 h0 h1 (by omega) (by omega))), rfl⟩
  · exact ⟨ret_int (len_close x _ 40 _ (by omega) (by omega) (by omega) (len_q x _ 40 h0 h1 (by omega) (by omega))), rfl⟩
  · exact ⟨ret_int (len_close x _ 32 _ (by omega) (by omega) (by omega) (len_q x _ 32 h0 h1 (by omega) (by omega))), rfl⟩
  · exact ⟨ret_int (len_close x _ 24 _ (by omega) (by omega) (by omega) (len_q x _ 24 h0 h1 (by omega) (by omega))), rfl⟩
  · exact ⟨ret_int (len_close x _ 16 _ (by omega) (by omega) (by omega) (len_q x _ 16 h0 h1 (by omega) (by omega))), rfl⟩
  · exact ⟨ret_int (len_close x _ 8 _ (by omega) (by omega) (by omega) (len_q x _ 8 h0 h1 (by omega) (by omega))), rfl⟩
  · exact ⟨ret_int (len_close0 x _ (by omega) (by omega)), rfl⟩
theorem len_any (x : Int) (w : World) (h0 : 0 ≤ x) (h1 : x ≤ 18446744073709551615) :
    Calls Tryz.prog 33 #[.int .u64 x] w fun e w' => e = .returned (.int .i64 (blen x)) ∧ w' = w := by
  go_enter Tryz.func33, Tryz.ntmps33
  go_wp2_with (go_at_call 56; refine (len64 _ _ (by omega) (by omega)).mono ?_; rintro e w' ⟨rfl, rfl⟩)
  go_ret
  exact ⟨ret_int (bitLen_eq h0 (by omega)), rfl⟩
end Go.Proofs.YtjlmpgbadgkgmaaGreatDoor

/-
  The statements' own helpers: Same, digits, alive, by contracts.
-/
namespace Go.Proofs.YtjlmpgbadgkgmaaGreatDoor
open Go Go.RowKit Go.Proofs.YtjlmpgbadgkgmaaGreatDoor.M
set_option linter.unusedSimpArgs false
set_option linter.unusedVariables false

instance (n : Nat) (a b : Nat → Int) : Decidable (∀ i, i < n → a i = b i) := by infer_instance
/-- Are two lists one? -/
def sameB (a b : Nat → Int) (n m : Nat) : Bool := decide (n = m ∧ ∀ i, i < n → a i = b i)
theorem sameB_of {a b : Nat → Int} {n m : Nat} (ha : Nrm a n) (hb : Nrm b m) (h : val a n = val b m) : sameB a b n m = true := by
  unfold sameB; exact decide_eq_true (nrm_inj ha hb h)
set_option maxHeartbeats 1000000 in
theorem same_any (ao bo : Option Addr) (n m ca cb : Nat) (a b : Nat → Int) (w : World) (ha : Row w ao n ca a) (hb : Row w bo m cb b) :
    Calls Tryz.prog 11 #[.slice ao n ca, .slice bo m cb] w fun e w' => e = .returned (.bool (sameB a b n m)) ∧ Below w.heap.size w w' := by
  have hla := ha.le
  have hma := ha.max
  have hlb := hb.le
  have hmb := hb.max
  by_cases hnm : n = m
  · subst hnm
    go_enter Tryz.func11, Tryz.ntmps11
    go_wp2
    go_loopw [5] (fun i wr => ∃ k : Nat, k ≤ n ∧ i = .int .i64 k ∧ Hid (∀ i, i < k → a i = b i) ∧ Below w.heap.size w wr) (fun i _ => n - (intOf i).toNat)
    case atStart => exact ⟨0, Nat.zero_le _, rfl, fun i _ => by omega, bel_refl _⟩
    case round =>
      obtain ⟨k, hk, rfl, HS, hbw⟩ := hrel
      by_cases hlt : k < n
      · obtain ⟨ba, fa, rfl, hba, hca⟩ := ha.spot (by omega)
        obtain ⟨bb, fb, rfl, hbb, hcb⟩ := hb.spot (by omega)
        have c1 := (hbw.cell (p := ⟨ba, fa + k, none⟩) hba).trans (hca k hlt)
        have c2 := (hbw.cell (p := ⟨bb, fb + k, none⟩) hbb).trans (hcb k hlt)
        by_cases he : a k = b k
        · have he' : (a k != b k) = false := by simp [he]
          have HE : Hid (a k = b k) := he
          clear he
          go_wp2
          go_quiet (fail)
          go_wp2
          go_roundw
          case rel => exact ⟨k + 1, by omega, by go_num, fun i x => by by_cases e : i = k; (· rw [e]; exact HE.out); (· exact HS.out i (by omega)), bDrewN hbw _⟩
          case measure => simp [intOf]; omega
        · have he' : (a k != b k) = true := by simp [he]
          go_wp2
          go_quiet (fail)
          go_wp2
          go_ret
          exact ⟨ret_bool (decide_eq_false (fun q => he (q.2 k hlt))).symm, bDrewN hbw _⟩
      · obtain rfl : k = n := by omega
        go_wp2
        go_ret
        exact ⟨ret_bool (decide_eq_true (⟨rfl, HS.out⟩ : k = k ∧ ∀ i, i < k → a i = b i)).symm, hbw⟩
  · go_enter Tryz.func11, Tryz.ntmps11
    go_wp2
    go_ret
    exact ⟨ret_bool (decide_eq_false (fun q => hnm q.1)).symm, bel_refl _⟩
theorem same_yes (ao bo : Option Addr) (n m ca cb : Nat) (a b : Nat → Int) (w : World) (ha : Row w ao n ca a) (hb : Row w bo m cb b) (na : Nrm a n) (nb : Nrm b m) (hv : val a n = val b m) :
    Calls Tryz.prog 11 #[.slice ao n ca, .slice bo m cb] w fun e w' => e = .returned (.bool true) ∧ Below w.heap.size w w' := by
  refine (same_any ao bo n m ca cb a b w ha hb).mono ?_
  rintro e w' ⟨rfl, h⟩
  exact ⟨ret_bool (sameB_of na nb hv), h⟩
theorem same_num {w : World} {x y : Value} {V : Int} (hx : Num w x V) (hy : Num w y V) :
    Calls Tryz.prog 11 #[x, y] w fun e w' => e = .returned (.bool true) ∧ Below w.heap.size w w' := by
  obtain ⟨ao, n, ca, d, rfl, hR, h2, h3⟩ := hx
  obtain ⟨bo, m, cb, e, rfl, kR, k2, k3⟩ := hy
  exact same_yes _ _ _ _ _ _ _ _ _ hR kR h2 k2 (h3.trans k3.symm)
theorem Num.ok {d : Nat → Int} {n : Nat} (h : Nrm d n) (hV : val d n < P 2000) : okB d n = true := by
  refine okB_yes ?_ h
  by_cases hk : n ≤ 2000
  · exact hk
  · have a := val_top h.1 (by omega) h.2
    have b := P_le (show 2000 ≤ n - 1 by omega)
    omega
theorem Fit.ans {w w' : World} {V er : Int} {v : Value} (h : Fit w w' V v er) (hV : V < P 2000) : er = 0 ∧ Ans w w' V v := by
  rcases h.2 with ⟨_, h1, h2⟩ | ⟨h1, _⟩
  · exact ⟨h1, h2⟩
  · omega
theorem P2000_big : 1152921504606846976 < P 2000 := by
  have h1 := P_le (show 3 ≤ 2000 by decide)
  have h2 : P 3 = 1073741824 * 1073741824 * 1073741824 := by decide
  omega

end Go.Proofs.YtjlmpgbadgkgmaaGreatDoor

/-
  Plain mathematics of long division (a digit guessed from the highest ones), of square roots from above, of common divisors from the highest bits. No Go text in sight.
-/
namespace Go.Proofs.YtjlmpgbadgkgmaaGreatDoor.M
open Go
set_option linter.unusedSimpArgs false
set_option linter.unusedVariables false

theorem mul_le_r {a b c : Int} (h : a ≤ b) (hc : 0 ≤ c) : a * c ≤ b * c := Int.mul_le_mul_of_nonneg_right h hc
theorem mul_le_l {a b c : Int} (h : a ≤ b) (hc : 0 ≤ c) : c * a ≤ c * b := Int.mul_le_mul_of_nonneg_left h hc

/-- The guess is too great by what the second digit tells. -/
theorem knuth_dec {U V p v1 v2 vl head u2 ul times left : Int} (hV : V = (v1 * 1073741824 + v2) * p + vl) (hvl : 0 ≤ vl) (hU : U = (head * 1073741824 + u2) * p + ul) (hul : ul < p)
    (hp : 0 < p) (hh : head = times * v1 + left) (ht : 0 ≤ times) (h : left * 1073741824 + u2 < times * v2) : U < times * V := by
  have h1 : (left * 1073741824 + u2 + 1) * p ≤ times * v2 * p := mul_le_r (by omega) (by omega)
  have h2 : 0 ≤ times * vl := Int.mul_nonneg ht hvl
  have e1 : times * V = times * v1 * 1073741824 * p + times * v2 * p + times * vl := by rw [hV]; grind
  have e2 : U = times * v1 * 1073741824 * p + (left * 1073741824 + u2 + 1) * p - p + ul := by rw [hU, hh]; grind
  omega
/-- A guess whose rest is a digit too long is not too great. -/
theorem knuth_long {U V p v1 v2 vl head u2 ul times left : Int} (hV : V = (v1 * 1073741824 + v2) * p + vl) (hvl : vl < p) (hv2 : v2 < 1073741824) (hU : U = (head * 1073741824 + u2) * p + ul) (hul : 0 ≤ ul) (hu2 : 0 ≤ u2)
    (hp : 0 < p) (hh : head = times * v1 + left) (ht : 0 ≤ times) (ht2 : times < 1073741824) (h : 1073741824 ≤ left) : times * V ≤ U := by
  have h0 : v2 * p ≤ 1073741823 * p := mul_le_r (by omega) (by omega)
  have e0 : (v1 + 1) * (1073741824 * p) = v1 * 1073741824 * p + 1073741823 * p + p := by grind
  have e1 : V = v1 * 1073741824 * p + v2 * p + vl := by rw [hV]; grind
  have h1 : times * V ≤ times * ((v1 + 1) * (1073741824 * p)) := mul_le_l (by omega) ht
  have h2 : (times * v1 + times) * (1073741824 * p) ≤ head * (1073741824 * p) := mul_le_r (by omega) (by omega)
  have h3 : 0 ≤ u2 * p := Int.mul_nonneg hu2 (by omega)
  have e2 : U = head * (1073741824 * p) + u2 * p + ul := by rw [hU]; grind
  have e3 : times * ((v1 + 1) * (1073741824 * p)) = (times * v1 + times) * (1073741824 * p) := by grind
  omega
/-- A guess that the second digit lets stand is too great by one at most. -/
theorem knuth_short {U V p v1 v2 vl head u2 ul times left : Int} (hV : V = (v1 * 1073741824 + v2) * p + vl) (hvl0 : 0 ≤ vl) (hvl : vl < p) (hv1 : 1 ≤ v1) (hv2 : 0 ≤ v2) (hU : U = (head * 1073741824 + u2) * p + ul) (hul : 0 ≤ ul)
    (hp : 0 < p) (hh : head = times * v1 + left) (ht : 0 ≤ times) (ht2 : times < 1073741824) (h : times * v2 ≤ left * 1073741824 + u2) : (times - 1) * V ≤ U := by
  have h1 : times * vl ≤ times * p := mul_le_l (by omega) ht
  have h2 : times * v2 * p ≤ (left * 1073741824 + u2) * p := mul_le_r h (by omega)
  have h3 : times * p ≤ 1073741824 * p := mul_le_r (by omega) (by omega)
  have h4 : 1 * (1073741824 * p) ≤ v1 * (1073741824 * p) := mul_le_r hv1 (by omega)
  have h5 : 0 ≤ v2 * p := Int.mul_nonneg hv2 (by omega)
  have e0 : V = v1 * (1073741824 * p) + v2 * p + vl := by rw [hV]; grind
  have e1 : (times - 1) * V = times * v1 * 1073741824 * p + times * v2 * p + times * vl - V := by rw [hV]; grind
  have e2 : U = times * v1 * 1073741824 * p + (left * 1073741824 + u2) * p + ul := by rw [hU, hh]; grind
  omega

/-- Quotient and rest are told by what they must be. -/
theorem div_of {a b q r : Int} (h : a = q * b + r) (h0 : 0 ≤ r) (h1 : r < b) : q = a / b ∧ r = a % b := by
  have hb : 0 < b := by omega
  subst h
  rw [Int.add_comm, Int.add_mul_ediv_right _ _ (by omega), Int.ediv_eq_zero_of_lt h0 h1, Int.add_mul_emod_self_right, Int.emod_eq_of_lt h0 h1]
  omega

/-- A step from above stays above. -/
theorem newton_above {a s t : Int} (hs : 0 < s) (ht : t * t ≤ a) : t ≤ (s + a / s) / 2 := by
  have h1 : 0 ≤ (s - t) * (s - t) := by
    rcases Int.le_total 0 (s - t) with h | h
    · exact Int.mul_nonneg h h
    · have h := Int.mul_nonneg (show 0 ≤ t - s by omega) (show 0 ≤ t - s by omega)
      rwa [show (t - s) * (t - s) = (s - t) * (s - t) by grind] at h
  have e1 : (s - t) * (s - t) = t * t - (2 * t - s) * s := by grind
  have h2 : (2 * t - s) * s ≤ a := by omega
  have h3 : 2 * t - s ≤ a / s := (Int.le_ediv_iff_mul_le hs).2 h2
  omega
theorem newton_stop {a s : Int} (hs : 0 < s) (h : s ≤ (s + a / s) / 2) : s * s ≤ a := by
  have h1 : s ≤ a / s := by omega
  exact (Int.le_ediv_iff_mul_le hs).1 h1
theorem root_unique {a s t : Int} (hs : 0 ≤ s) (ht : 0 ≤ t) (h1 : s * s ≤ a) (h2 : a < (s + 1) * (s + 1)) (h3 : t * t ≤ a) (h4 : a < (t + 1) * (t + 1)) : s = t := by
  rcases Int.lt_trichotomy s t with h | h | h
  · have h5 : (s + 1) * (s + 1) ≤ t * (s + 1) := mul_le_r (show s + 1 ≤ t by omega) (show 0 ≤ s + 1 by omega)
    have h6 : t * (s + 1) ≤ t * t := mul_le_l (show s + 1 ≤ t by omega) ht
    omega
  · exact h
  · have h5 : (t + 1) * (t + 1) ≤ s * (t + 1) := mul_le_r (show t + 1 ≤ s by omega) (show 0 ≤ t + 1 by omega)
    have h6 : s * (t + 1) ≤ s * s := mul_le_l (show t + 1 ≤ s by omega) hs
    omega

/-- Euclid's steps put together (sg is 1 or -1): what they say of x and y, the heads x0 and y0. -/
structure Steps (x0 y0 x y fA fB nA nB sg : Int) : Prop where
  sgn : sg = 1 ∨ sg = -1
  ex : x = sg * (fA * x0 - fB * y0)
  ey : y = sg * (nB * y0 - nA * x0)
  det : fA * nB - fB * nA = sg
  fA0 : 0 ≤ fA
  fB0 : 0 ≤ fB
  nA0 : 0 ≤ nA
  nB1 : 1 ≤ nB
theorem Steps.back_x {x0 y0 x y fA fB nA nB sg : Int} (h : Steps x0 y0 x y fA fB nA nB sg) : nB * x + fB * y = x0 := by
  have hs := h.sgn
  rw [h.ex, h.ey]
  have hd := h.det
  rcases hs with rfl | rfl <;> grind
theorem Steps.back_y {x0 y0 x y fA fB nA nB sg : Int} (h : Steps x0 y0 x y fA fB nA nB sg) : nA * x + fA * y = y0 := by
  have hs := h.sgn
  rw [h.ex, h.ey]
  have hd := h.det
  rcases hs with rfl | rfl <;> grind
theorem Steps.start (x0 y0 : Int) : Steps x0 y0 x0 y0 1 0 0 1 1 := ⟨.inl rfl, by omega, by omega, by omega, by omega, by omega, by omega, by omega⟩
theorem Steps.step {x0 y0 x y fA fB nA nB sg : Int} (h : Steps x0 y0 x y fA fB nA nB sg) {q : Int} (hq : 1 ≤ q) :
    Steps x0 y0 y (x - q * y) nA nB (fA + q * nA) (fB + q * nB) (-sg) := by
  have h1 := Int.mul_nonneg (show 0 ≤ q by omega) h.nA0
  have h2 : 1 * nB ≤ q * nB := mul_le_r hq (by have := h.nB1; omega)
  have hf := h.fA0
  have hg := h.fB0
  have hn := h.nB1
  refine ⟨by rcases h.sgn with e | e <;> omega, ?_, ?_, ?_, h.nA0, by omega, by omega, by omega⟩
  · rw [h.ey]; grind
  · rw [h.ey, h.ex]; grind
  · have := h.det; grind
/-- What is sure of the heads is sure of the whole numbers. -/
theorem Steps.whole {x0 y0 x y fA fB nA nB sg S al be : Int} (h : Steps x0 y0 x y fA fB nA nB sg) (hS : 0 < S) (ha0 : 0 ≤ al) (ha : al < S) (hb0 : 0 ≤ be) (hb : be < S)
    (hab : nA ≤ nB) (hfb : fA ≤ fB) (hy : nB ≤ y) (hx : nB + fB ≤ x - y) :
    0 < sg * (nB * (y0 * S + be) - nA * (x0 * S + al)) ∧ sg * (nB * (y0 * S + be) - nA * (x0 * S + al)) < sg * (fA * (x0 * S + al) - fB * (y0 * S + be)) := by
  have hn := h.nB1
  have hf := h.fB0
  have k1 : nB * be ≤ nB * (S - 1) := mul_le_l (by omega) (by omega)
  have k2 : nA * al ≤ nA * (S - 1) := mul_le_l (by omega) h.nA0
  have k3 : nA * (S - 1) ≤ nB * (S - 1) := mul_le_r hab (by omega)
  have k4 : 0 ≤ nB * be := Int.mul_nonneg (by omega) hb0
  have k5 : 0 ≤ nA * al := Int.mul_nonneg h.nA0 ha0
  have k6 : nB * S ≤ y * S := mul_le_r hy (by omega)
  have k7 : (nB + fB) * S ≤ (x - y) * S := mul_le_r hx (by omega)
  have m1 : fB * be ≤ fB * (S - 1) := mul_le_l (by omega) hf
  have m2 : fA * al ≤ fA * (S - 1) := mul_le_l (by omega) h.fA0
  have m3 : fA * (S - 1) ≤ fB * (S - 1) := mul_le_r hfb (by omega)
  have m4 : 0 ≤ fB * be := Int.mul_nonneg hf hb0
  have m5 : 0 ≤ fA * al := Int.mul_nonneg h.fA0 ha0
  have ex := h.ex
  have ey := h.ey
  have e1 : nB * (y0 * S + be) - nA * (x0 * S + al) = (nB * y0 - nA * x0) * S + nB * be - nA * al := by grind
  have e2 : fA * (x0 * S + al) - fB * (y0 * S + be) = (fA * x0 - fB * y0) * S + fA * al - fB * be := by grind
  have e3 : nB * (S - 1) = nB * S - nB := by grind
  have e4 : fB * (S - 1) = fB * S - fB := by grind
  have e5 : (nB + fB) * S = nB * S + fB * S := by grind
  have e6 : (x - y) * S = x * S - y * S := by grind
  rw [e1, e2]
  rcases h.sgn with rfl | rfl
  · have e7 : (nB * y0 - nA * x0) * S = y * S := by rw [ey]; grind
    have e8 : (fA * x0 - fB * y0) * S = x * S := by rw [ex]; grind
    constructor <;> omega
  · have e7 : (nB * y0 - nA * x0) * S = - (y * S) := by rw [ey]; grind
    have e8 : (fA * x0 - fB * y0) * S = - (x * S) := by rw [ex]; grind
    constructor <;> omega
theorem gcd_comb {a b a' b' p q r s t u v w : Int} (h1 : a' = p * a + q * b) (h2 : b' = r * a + s * b) (h3 : a = t * a' + u * b') (h4 : b = v * a' + w * b') : Int.gcd a' b' = Int.gcd a b := by
  have d1 : ∀ x y z k l : Int, x ∣ y → x ∣ z → x ∣ k * y + l * z := fun x y z k l hy hz => Int.dvd_add (Int.dvd_mul_of_dvd_right hy) (Int.dvd_mul_of_dvd_right hz)
  apply Nat.dvd_antisymm
  · apply Int.dvd_gcd
    · have := d1 _ _ _ t u (Int.gcd_dvd_left a' b') (Int.gcd_dvd_right a' b'); rw [← h3] at this; exact this
    · have := d1 _ _ _ v w (Int.gcd_dvd_left a' b') (Int.gcd_dvd_right a' b'); rw [← h4] at this; exact this
  · apply Int.dvd_gcd
    · have := d1 _ _ _ p q (Int.gcd_dvd_left a b) (Int.gcd_dvd_right a b); rw [← h1] at this; exact this
    · have := d1 _ _ _ r s (Int.gcd_dvd_left a b) (Int.gcd_dvd_right a b); rw [← h2] at this; exact this
end Go.Proofs.YtjlmpgbadgkgmaaGreatDoor.M

/-
  A call that writes one block of its caller's (Wr), and what stays; slices that are written in their place.
-/
namespace Go.Proofs.YtjlmpgbadgkgmaaGreatDoor
open Go Go.RowKit Go.Proofs.YtjlmpgbadgkgmaaGreatDoor.M
set_option linter.unusedSimpArgs false
set_option linter.unusedVariables false

/-- w' is w with new blocks, and with writes to block g alone. -/
structure Wr (g : Nat) (w w' : World) : Prop where
  os : w'.os = w.os
  tape : w'.tape = w.tape
  output : w'.output = w.output
  size : w.heap.size ≤ w'.heap.size
  block : ∀ k, k < w.heap.size → k ≠ g → w'.heap[k]? = w.heap[k]?
theorem Wr.refl (g : Nat) (w : World) : Wr g w w := ⟨rfl, rfl, rfl, Nat.le_refl _, fun _ _ _ => rfl⟩
theorem Wr.trans {g : Nat} {a b c : World} (h : Wr g a b) (k : Wr g b c) : Wr g a c :=
  ⟨k.os.trans h.os, k.tape.trans h.tape, k.output.trans h.output, Nat.le_trans h.size k.size, fun i hi hg => (k.block i (Nat.lt_of_lt_of_le hi h.size) hg).trans (h.block i hi hg)⟩
theorem Wr.setCell {g : Nat} {a w : World} (h : Wr g a w) (o : Nat) (u : Value) : Wr g a (w.setCell ⟨g, o, none⟩ u) :=
  ⟨h.os, h.tape, h.output, by simp [World.setCell]; exact h.size, fun k hk hg => (Below.heap_setCell _ _ _ _ hg).trans (h.block k hk hg)⟩
theorem Wr.drew {g : Nat} {a w : World} (h : Wr g a w) : Wr g a w.drew := ⟨h.os, h.tape, h.output, h.size, h.block⟩
theorem Wr.drewN {g : Nat} {a w : World} (h : Wr g a w) (n : Nat) : Wr g a (w.drewN n) := ⟨h.os, h.tape, h.output, h.size, h.block⟩
theorem Below.wr {B g : Nat} {a w : World} (h : Below B a w) (hB : w.heap.size ≤ B) : Wr g w w → Below B a w := fun _ => h
theorem wr_of {g : Nat} {a w : World} (h : Below a.heap.size a w) : Wr g a w := ⟨h.os, h.tape, h.output, h.size, fun k hk _ => h.block k hk⟩
theorem Wr.below {B g : Nat} {a w w' : World} (h : Wr g w w') (hb : Below B a w) (hB : B ≤ w.heap.size) (hg : B ≤ g) : Below B a w' :=
  hb.trans ⟨h.os, h.tape, h.output, h.size, fun k hk => h.block k (by omega) (by omega)⟩
theorem Wr.cell {g : Nat} {w w' : World} (h : Wr g w w') {p : Addr} (hp : p.block < w.heap.size) (hg : p.block ≠ g) : w'.cell? p = w.cell? p := World.cell?_of_block (w := w) (h.block p.block hp hg)
/-- A slice that is read, not of block g. -/
structure RowX (g : Nat) (w : World) (ao : Option Addr) (n cap : Nat) (d : Nat → Int) : Prop where
  le : n ≤ cap
  max : cap ≤ 9223372036854775807
  spot : 0 < n → ∃ b off, ao = some ⟨b, off, none⟩ ∧ b < w.heap.size ∧ b ≠ g ∧ ∀ i, i < n → w.cell? ⟨b, off + i, none⟩ = some (.int .i64 (d i))
theorem RowX.keeps {g : Nat} {w w' : World} {ao : Option Addr} {n cap : Nat} {d : Nat → Int} (h : RowX g w ao n cap d) (hw : Wr g w w') : RowX g w' ao n cap d :=
  ⟨h.le, h.max, fun hn => by
    obtain ⟨b, off, rfl, hlt, hg, hc⟩ := h.spot hn
    exact ⟨b, off, rfl, Nat.lt_of_lt_of_le hlt hw.size, hg, fun i hi => (hw.cell (p := ⟨b, off + i, none⟩) hlt hg).trans (hc i hi)⟩⟩
theorem RowX.of {g : Nat} {w : World} {ao : Option Addr} {n cap : Nat} {d : Nat → Int} (h : Row w ao n cap d) (hg : w.heap.size ≤ g) : RowX g w ao n cap d :=
  ⟨h.le, h.max, fun hn => by
    obtain ⟨b, off, rfl, hlt, hc⟩ := h.spot hn
    exact ⟨b, off, rfl, hlt, by omega, hc⟩⟩
theorem Out.store {B : Nat} {w : World} {g n cap : Nat} {d : Nat → Int} (h : Out B w (.slice (some ⟨g, 0, none⟩) n cap) n d) {i : Nat} (hi : i < n) (x : Int) :
    Out B (w.setCell ⟨g, i, none⟩ (.int .i64 x)) (.slice (some ⟨g, 0, none⟩) n cap) n (upd d i x) := by
  have h1 := (World.ownsRow.stored h i (.int .i64 x)).1
  unfold Out
  have e : vals (upd d i x) n = (vals d n).set i (.int .i64 x) := by
    refine (vals_ext (by simp [vals_length]) fun j hj => ?_).symm
    by_cases hji : j = i
    · subst hji; rw [upd_same, List.getElem?_set_self (by rw [vals_length]; exact hj)]
    · rw [upd_other d x hji, List.getElem?_set_ne (by omega), vals_get d hj]
  rw [e]; exact h1
theorem Out.spot {B : Nat} {w : World} {ao : Option Addr} {n cap : Nat} {d : Nat → Int} (h : Out B w (.slice ao n cap) n d) (hn : 0 < n) : ∃ g, ao = some ⟨g, 0, none⟩ ∧ B ≤ g ∧ g < w.heap.size := by
  rcases h.2 with ⟨_, h0⟩ | ⟨g, cap', cur, hv, hB, hg, _⟩
  · omega
  · simp only [Value.slice.injEq] at hv
    exact ⟨g, hv.1, hB, (Array.getElem?_eq_some_iff.1 hg).1⟩
theorem Out.cell {B : Nat} {w : World} {g n cap : Nat} {d : Nat → Int} (h : Out B w (.slice (some ⟨g, 0, none⟩) n cap) n d) {i : Nat} (hi : i < n) : w.cell? ⟨g, i, none⟩ = some (.int .i64 (d i)) := by
  rw [World.ownsRow.cellAt h i (by omega), vals_get d hi]
theorem Out.frozen {B : Nat} {w : World} {g n cap : Nat} {d : Nat → Int} (h : Out B w (.slice (some ⟨g, 0, none⟩) n cap) n d) (i : Nat) : w.frozen? ⟨g, i, none⟩ = false := World.ownsRow.frozenAt h i

theorem or_30 {m x : Int} (hx : 0 ≤ x ∧ x < 1073741824) (hm : 0 ≤ m) (hb : m < 4294967296) : bits .or .i64 (m * 1073741824) x = m * 1073741824 + x := by
  have h := or_add x m 30 hx.1 hx.2 hm (by show x + m * 1073741824 < _; omega)
  have e : ∀ a b : Int, bits .or .i64 a b = bits .or .i64 b a := fun a b => by rw [bits_or64, bits_or64, Nat.or_comm]
  rw [e, show m * 1073741824 = m * 2 ^ 30 from rfl, h]; omega
theorem val_cons (f : Nat → Int) (k : Nat) : val f (k + 1) = f 0 + 1073741824 * val (fun i => f (i + 1)) k := by
  have h := val_split f 1 k
  rw [Nat.add_comm 1 k] at h
  rw [h]
  have e : (fun i => f (1 + i)) = fun i => f (i + 1) := by funext i; rw [Nat.add_comm]
  rw [e]
  show 0 + f 0 * 1 + 1 * 1073741824 * _ = _
  omega
/-- One digit of a quotient by a small number. -/
theorem short_step {d r : Nat → Int} {at_ k : Nat} {D left : Int} (h : val (fun i => d (at_ + 1 + i)) k = D * val (fun i => r (at_ + 1 + i)) k + left) :
    val (fun i => d (at_ + i)) (k + 1) = D * val (fun i => upd r at_ ((left * 1073741824 + d at_) / D) (at_ + i)) (k + 1) + (left * 1073741824 + d at_) % D := by
  rw [val_cons, val_cons]
  have e1 : (fun i => d (at_ + (i + 1))) = fun i => d (at_ + 1 + i) := by funext i; rw [Nat.add_assoc, Nat.add_comm 1 i]
  have e2 : val (fun i => upd r at_ ((left * 1073741824 + d at_) / D) (at_ + (i + 1))) k = val (fun i => r (at_ + 1 + i)) k := val_congr fun i _ => by rw [upd_other r _ (by omega), Nat.add_assoc, Nat.add_comm 1 i]
  rw [e1, e2, h]
  show d (at_ + 0) + _ = D * (upd r at_ _ (at_ + 0) + _) + _
  rw [Nat.add_zero, upd_same]
  have e3 := Int.mul_ediv_add_emod (left * 1073741824 + d at_) D
  grind
end Go.Proofs.YtjlmpgbadgkgmaaGreatDoor

/-
  plumblaw2's Keep: lists of answers that are kept, in memory: what it is (Kp), Add, by its contract.
-/
namespace Go.Proofs.YtjlmpgbadgkgmaaGreatDoor
open Go Go.RowKit Go.Proofs.YtjlmpgbadgkgmaaGreatDoor.M
set_option linter.unusedSimpArgs false
set_option linter.unusedVariables false

/-- One put in another's place. -/
def updV {α : Type} (v : Nat → α) (i : Nat) (x : α) : Nat → α := fun j => if j = i then x else v j
theorem updV_same {α : Type} (v : Nat → α) (i : Nat) (x : α) : updV v i x i = x := by simp [updV]
theorem updV_other {α : Type} (v : Nat → α) {i j : Nat} (x : α) (h : j ≠ i) : updV v i x j = v j := by simp [updV, h]
/-- The first m of v. -/
def valsV (v : Nat → Value) (m : Nat) : List Value := (List.range m).map v
theorem valsV_length (v : Nat → Value) (m : Nat) : (valsV v m).length = m := by simp [valsV]
theorem valsV_get (v : Nat → Value) {m i : Nat} (h : i < m) : (valsV v m)[i]? = some (v i) := by simp [valsV, h]
theorem valsV_snoc (v : Nat → Value) (m : Nat) (x : Value) : valsV v m ++ [x] = valsV (updV v m x) (m + 1) := by
  apply List.ext_getElem?
  intro i
  by_cases h : i < m
  · rw [List.getElem?_append_left (by rw [valsV_length]; exact h), valsV_get v h, valsV_get _ (by omega), updV_other v x (by omega)]
  · by_cases e : i = m
    · subst e; rw [List.getElem?_append_right (by rw [valsV_length]; omega), valsV_length, valsV_get _ (by omega), updV_same]; simp
    · rw [List.getElem?_eq_none (by simp [valsV_length]; omega), List.getElem?_eq_none (by rw [valsV_length]; omega)]
/-- A list of slices that is the call's own. -/
def OutV (B : Nat) (w : World) (x : Value) (m : Nat) (v : Nat → Value) : Prop := w.ownsRow B 22 1 x m (valsV v m)
theorem OutV.shape {B : Nat} {w : World} {x : Value} {m : Nat} {v : Nat → Value} (h : OutV B w x m v) : ∃ xo xc, x = .slice xo m xc ∧ m ≤ xc ∧ xc ≤ 9223372036854775807 ∧ (0 < m → ∃ g, xo = some ⟨g, 0, none⟩) := by
  rcases h.2 with ⟨rfl, rfl⟩ | ⟨g, cap, cur, rfl, hb, hg, hn, hm, _⟩
  · exact ⟨none, 0, rfl, Nat.le_refl _, by decide, fun h => by omega⟩
  · exact ⟨_, cap, rfl, hn, by unfold maxLen at hm; exact hm, fun _ => ⟨g, rfl⟩⟩
theorem OutV.of_block {B : Nat} {w w' : World} {x : Value} {m : Nat} {v : Nat → Value} (h : OutV B w x m v) (hb : ∀ g, x.ownBlock = some g → w'.heap[g]? = w.heap[g]?) : OutV B w' x m v := by
  refine ⟨h.1, ?_⟩
  rcases h.2 with hn | ⟨g, cap, cur, rfl, hbb, hg, rest⟩
  · exact .inl hn
  · exact .inr ⟨g, cap, cur, rfl, hbb, (hb g rfl).trans hg, rest⟩
theorem Out.of_block {B : Nat} {w w' : World} {x : Value} {n : Nat} {d : Nat → Int} (h : Out B w x n d) (hb : ∀ g, x.ownBlock = some g → w'.heap[g]? = w.heap[g]?) : Out B w' x n d := by
  refine ⟨h.1, ?_⟩
  rcases h.2 with hn | ⟨g, cap, cur, rfl, hbb, hg, rest⟩
  · exact .inl hn
  · exact .inr ⟨g, cap, cur, rfl, hbb, (hb g rfl).trans hg, rest⟩
theorem Out.typed {B : Nat} {w : World} {x : Value} {n : Nat} {d : Nat → Int} (h : Out B w x n d) {g : Nat} (hg : x.ownBlock = some g) : ∃ cur z, w.heap[g]? = some (.cells cur 3 z) := by
  rcases h.2 with ⟨rfl, _⟩ | ⟨g', cap, cur, rfl, hbb, hg', rest⟩
  · simp [Value.ownBlock] at hg
  · simp only [Value.ownBlock, Option.some.injEq] at hg; subst hg; exact ⟨cur, _, hg'⟩
theorem OutV.typed {B : Nat} {w : World} {x : Value} {n : Nat} {v : Nat → Value} (h : OutV B w x n v) {g : Nat} (hg : x.ownBlock = some g) : ∃ cur z, w.heap[g]? = some (.cells cur 22 z) := by
  rcases h.2 with ⟨rfl, _⟩ | ⟨g', cap, cur, rfl, hbb, hg', rest⟩
  · simp [Value.ownBlock] at hg
  · simp only [Value.ownBlock, Option.some.injEq] at hg; subst hg; exact ⟨cur, _, hg'⟩
theorem OutV.ge {B : Nat} {w : World} {x : Value} {n : Nat} {v : Nat → Value} (h : OutV B w x n v) {g : Nat} (hg : x.ownBlock = some g) : B ≤ g ∧ g < w.heap.size := by
  rcases h.2 with ⟨rfl, _⟩ | ⟨g', cap, cur, rfl, hbb, hg', rest⟩
  · simp [Value.ownBlock] at hg
  · simp only [Value.ownBlock, Option.some.injEq] at hg; subst hg; exact ⟨hbb, (Array.getElem?_eq_some_iff.1 hg').1⟩
theorem Out.ge {B : Nat} {w : World} {x : Value} {n : Nat} {v : Nat → Int} (h : Out B w x n v) {g : Nat} (hg : x.ownBlock = some g) : B ≤ g ∧ g < w.heap.size := by
  rcases h.2 with ⟨rfl, _⟩ | ⟨g', cap, cur, rfl, hbb, hg', rest⟩
  · simp [Value.ownBlock] at hg
  · simp only [Value.ownBlock, Option.some.injEq] at hg; subst hg; exact ⟨hbb, (Array.getElem?_eq_some_iff.1 hg').1⟩
/-- All blocks are left as they are but those of lists of slices and of Keep itself. -/
structure Ik (B : Nat) (w w' : World) : Prop where
  below : Below B w w'
  block : ∀ (g : Nat) (cur : Array Value) (t : TypeId) z, t ≠ 22 → t ≠ 26 → w.heap[g]? = some (Obj.cells cur t z) → w'.heap[g]? = w.heap[g]?
theorem Ik.refl (B : Nat) (w : World) : Ik B w w := ⟨Below.refl _ _, fun _ _ _ _ _ _ _ => rfl⟩
theorem Ik.trans {B : Nat} {a b c : World} (h : Ik B a b) (k : Ik B b c) : Ik B a c :=
  ⟨h.below.trans k.below, fun g cur t z t1 t2 hg => (k.block g cur t z t1 t2 ((h.block g cur t z t1 t2 hg).trans hg)).trans (h.block g cur t z t1 t2 hg)⟩
theorem Ik.of {B : Nat} {a b : World} (h : Below a.heap.size a b) (hB : B ≤ a.heap.size) : Ik B a b :=
  ⟨h.mono hB, fun g cur t z _ _ hg => h.block g (Array.getElem?_eq_some_iff.1 hg).1⟩
theorem Out.ik {B B' : Nat} {w w' : World} {x : Value} {n : Nat} {d : Nat → Int} (h : Out B w x n d) (k : Ik B' w w') : Out B w' x n d :=
  h.of_block fun g hg => by obtain ⟨cur, z, hc⟩ := h.typed hg; exact k.block g cur _ z (by decide) (by decide) hc
/-- Blocks that were there are left, but those of lists of slices and of Keep itself. -/
def Fr (w w' : World) : Prop := ∀ (g : Nat) (cur : Array Value) (t : TypeId) z, t ≠ 22 → t ≠ 26 → w.heap[g]? = some (Obj.cells cur t z) → w'.heap[g]? = w.heap[g]?
theorem Ik.fr {B : Nat} {w w' : World} (h : Ik B w w') : Fr w w' := h.block
theorem Fr.of {w w' : World} (h : Below w.heap.size w w') : Fr w w' := fun g cur t z _ _ hg => h.block g (Array.getElem?_eq_some_iff.1 hg).1
theorem Fr.trans {a b c : World} (h : Fr a b) (k : Fr b c) : Fr a c := fun g cur t z t1 t2 hg => (k g cur t z t1 t2 ((h g cur t z t1 t2 hg).trans hg)).trans (h g cur t z t1 t2 hg)
theorem Fr.wr {w w' w'' : World} {g : Nat} (h : Fr w w') (hw : Wr g w' w'') (hg : w.heap.size ≤ g) (hs : w.heap.size ≤ w'.heap.size) : Fr w w'' := fun k cur t z t1 t2 hk => by
  have hlt := (Array.getElem?_eq_some_iff.1 hk).1
  exact (hw.block k (by omega) (by omega)).trans (h k cur t z t1 t2 hk)
/-- What is kept: m answers v, what they were (u), of n digits d. -/
structure Kp (B : Nat) (w : World) (k m : Nat) (v u : Nat → Value) (n : Nat → Nat) (d : Nat → Nat → Int) : Prop where
  blk : ∃ x y, w.heap[k]? = some (Obj.cells #[x, y] 26 (0, 0)) ∧ OutV B w x m v ∧ OutV B w y m u ∧ ∀ g, x.ownBlock = some g → y.ownBlock ≠ some g
  ge : B ≤ k
  ans : ∀ i, i < m → Out B w (v i) (n i) (d i)
  was : ∀ i, i < m → Out B w (u i) (n i) (d i)
  len : ∀ i, i < m → n i ≤ 100000
  apart : ∀ i j, i < m → j < m → i ≠ j → ∀ g, (v i).ownBlock = some g → (v j).ownBlock ≠ some g
theorem Kp.keeps {B : Nat} {w w' : World} {k m : Nat} {v u : Nat → Value} {n : Nat → Nat} {d : Nat → Nat → Int} (h : Kp B w k m v u n d) (hb : Below w.heap.size w w') : Kp B w' k m v u n d := by
  obtain ⟨⟨x, y, hk, hx, hy, hxy⟩, hge, hans, hwas, hlen, hapart⟩ := h
  exact ⟨⟨x, y, (hb.block k (Array.getElem?_eq_some_iff.1 hk).1).trans hk, hx.of_block fun g hg => hb.block g (hx.ge hg).2, hy.of_block fun g hg => hb.block g (hy.ge hg).2, hxy⟩, hge, fun i hi => (hans i hi).stays hb, fun i hi => (hwas i hi).stays hb, hlen, hapart⟩
theorem info_slice : (Tryz.prog.info? 22).map (fun i => (i.zero, i.size, i.bytes)) = some (some (.slice none 0 0), 1, 24) := by kernel_rfl
theorem cell_one (w : World) (x : Value) (t : TypeId) {g : Nat} (hg : g = w.heap.size) : (w.alloc (.cells #[x] t)).cell? ⟨g, 0, none⟩ = some x := by
  subst hg
  rw [cell_of_row _ _ 0 _ _ _ (heap_alloc_new w _)]; rfl
/-- 'append(xs, x)' of a list of slices. -/
theorem wpList_appV {w : World} {ops : Array Oper} {rest : List Oper} {o : Oper} {a : Act} {Q : Exit → Act → World → Prop} (hgd : o.guard = none) (s x : Operand)
    (ho : o.op = .call { callee := .builtin .append, args := #[s, x], argTypes := #[24, 24] }) (B : Nat) (v : Value) (m : Nat) (f : Nat → Value) (hs : a.eval s = v) (hO : OutV B w v m f)
    (g : Nat) (y : Value) (hx : a.eval x = .slice (some ⟨g, 0, none⟩) 1 1) (hy : w.cell? ⟨g, 0, none⟩ = some y) (h1 : y.oneCell' = true) (hlen : m ≤ 1000) (hB : B ≤ w.heap.size)
    (h : ∀ v' w', OutV B w' v' (m + 1) (updV f m y) → w.grownBy w' v.ownBlock → (v'.ownBlock = v.ownBlock ∨ v'.ownBlock = some w.heap.size) → wpList Tryz.prog ops Q rest (a.put o.dst v') w') : wpList Tryz.prog ops Q (o :: rest) a w := by
  obtain ⟨i0, hi, hz0, hz1, hz2⟩ := info_parts info_slice
  refine wpList_append_own_at w hgd s x 24 ho B 22 i0 (.slice none 0 0) 1 24 Tryz.underlying24 hi hz0 hz1 hz2 rfl (by decide) v m (valsV f m) hs hO ⟨g, 0, none⟩ 1 1 [y] hx rfl ?_ (by simpa using h1) (by unfold maxLen; omega) (by omega) hB ?_
  · intro j u hu
    have hj : j = 0 := by have := (List.getElem?_eq_some_iff.1 hu).1; simp at this; exact this
    subst hj
    simp at hu
    subst hu
    rw [add_none]; exact hy
  · intro v' w' h1 h2 _ h3
    rw [valsV_snoc] at h1
    exact h v' w' h1 h2 h3
theorem Ik.grownV {B : Nat} {a w w' : World} {row : Option Nat} (h : Ik B a w) (hg : w.grownBy w' row) (hB : B ≤ w.heap.size) (hr : ∀ g, row = some g → B ≤ g ∧ ∃ (cur : Array Value) (z : Nat × Nat), w.heap[g]? = some (Obj.cells cur 22 z)) : Ik B a w' := by
  refine ⟨h.below.grown hg hB fun k hk => (hr k hk).1, fun g cur t z t1 t2 hc => ?_⟩
  have e := (h.block g cur t z t1 t2 hc).trans hc
  refine (hg.block g (Array.getElem?_eq_some_iff.1 e).1 fun he => ?_).trans (h.block g cur t z t1 t2 hc)
  obtain ⟨_, cur', z', hc'⟩ := hr g he.symm
  rw [e] at hc'
  simp only [Option.some.injEq, Obj.cells.injEq] at hc'
  exact t1 hc'.2.1
theorem Ik.alloc {B : Nat} {a w : World} (h : Ik B a w) (hB : B ≤ w.heap.size) (o : Obj) : Ik B a (w.alloc o) :=
  ⟨h.below.alloc hB o, fun g cur t z t1 t2 hc => by
    have e := (h.block g cur t z t1 t2 hc).trans hc
    exact (Below.heap_alloc _ _ _ (Array.getElem?_eq_some_iff.1 e).1).trans (h.block g cur t z t1 t2 hc)⟩
theorem Ik.setK {B : Nat} {a w : World} (h : Ik B a w) {k : Nat} {cs : Array Value} {z : Nat × Nat} (hk : w.heap[k]? = some (Obj.cells cs 26 z)) (hB : B ≤ k) (o : Nat) (u : Value) : Ik B a (w.setCell ⟨k, o, none⟩ u) :=
  ⟨h.below.setCell hB u, fun g cur t z' t1 t2 hc => by
    have e := (h.block g cur t z' t1 t2 hc).trans hc
    refine (Below.heap_setCell _ _ _ _ fun he => ?_).trans (h.block g cur t z' t1 t2 hc)
    change g = k at he
    subst he
    rw [e] at hk
    simp only [Option.some.injEq, Obj.cells.injEq] at hk
    exact t2 hk.2.1⟩
theorem grown_out {B : Nat} {w w' : World} {row : Option Nat} {x : Value} {m : Nat} {v : Nat → Value} (h : OutV B w x m v) (hg : w.grownBy w' row) (hne : ∀ g, x.ownBlock = some g → row ≠ some g) : OutV B w' x m v :=
  h.of_block fun g hgx => hg.block g (h.ge hgx).2 fun e => hne g hgx e.symm
theorem OutV.alloc {B : Nat} {w : World} {x : Value} {m : Nat} {v : Nat → Value} (h : OutV B w x m v) (o : Obj) : OutV B (w.alloc o) x m v := h.of_block fun g hg => Below.heap_alloc _ _ _ (h.ge hg).2
theorem OutV.setK {B : Nat} {w : World} {x : Value} {m : Nat} {v : Nat → Value} (h : OutV B w x m v) {k : Nat} {cs : Array Value} {z : Nat × Nat} (hk : w.heap[k]? = some (Obj.cells cs 26 z)) (o : Nat) (u : Value) : OutV B (w.setCell ⟨k, o, none⟩ u) x m v :=
  h.of_block fun g hg => Below.heap_setCell _ _ _ _ fun he => by
    change g = k at he
    subst he
    obtain ⟨cur, z', hc⟩ := h.typed hg
    rw [hk] at hc
    simp at hc
theorem keep_at {w : World} {k : Nat} {x y : Value} (hk : w.heap[k]? = some (Obj.cells #[x, y] 26 (0, 0))) : w.cell? ⟨k, 0, none⟩ = some x ∧ w.cell? ⟨k, 1, none⟩ = some y ∧ w.frozen? ⟨k, 0, none⟩ = false ∧ w.frozen? ⟨k, 1, none⟩ = false :=
  ⟨by rw [cell_of_row w k 0 _ _ _ hk]; rfl, by rw [cell_of_row w k 1 _ _ _ hk]; rfl, frozen_of_row w k 0 _ _ hk, frozen_of_row w k 1 _ _ hk⟩

/-- The two lists of what is kept, as they lie: x of m, y of m'. -/
structure KX (B : Nat) (w : World) (k : Nat) (x y : Value) (m : Nat) (v : Nat → Value) (m' : Nat) (u : Nat → Value) : Prop where
  blk : w.heap[k]? = some (Obj.cells #[x, y] 26 (0, 0))
  ox : OutV B w x m v
  oy : OutV B w y m' u
  ne : ∀ g, x.ownBlock = some g → y.ownBlock ≠ some g
  ge : B ≤ k
theorem KX.keeps {B : Nat} {w w' : World} {k : Nat} {x y : Value} {m : Nat} {v : Nat → Value} {m' : Nat} {u : Nat → Value} (h : KX B w k x y m v m' u) (hb : Below w.heap.size w w') : KX B w' k x y m v m' u :=
  ⟨(hb.block k (Array.getElem?_eq_some_iff.1 h.blk).1).trans h.blk, h.ox.of_block fun g hg => hb.block g (h.ox.ge hg).2, h.oy.of_block fun g hg => hb.block g (h.oy.ge hg).2, h.ne, h.ge⟩
theorem KX.lt {B : Nat} {w : World} {k : Nat} {x y : Value} {m : Nat} {v : Nat → Value} {m' : Nat} {u : Nat → Value} (h : KX B w k x y m v m' u) : k < w.heap.size := (Array.getElem?_eq_some_iff.1 h.blk).1
theorem set_keep0 {w : World} {k : Nat} {x y x' : Value} (hk : w.heap[k]? = some (Obj.cells #[x, y] 26 (0, 0))) : (w.setCell ⟨k, 0, none⟩ x').heap[k]? = some (Obj.cells #[x', y] 26 (0, 0)) := by
  rw [heap_setCell_same w k 0 _ _ _ hk]; rfl
theorem set_keep1 {w : World} {k : Nat} {x y y' : Value} (hk : w.heap[k]? = some (Obj.cells #[x, y] 26 (0, 0))) : (w.setCell ⟨k, 1, none⟩ y').heap[k]? = some (Obj.cells #[x, y'] 26 (0, 0)) := by
  rw [heap_setCell_same w k 1 _ _ _ hk]; rfl
theorem KX.stepX {B : Nat} {w w2 : World} {k : Nat} {x y x' : Value} {m : Nat} {v v' : Nat → Value} {m' : Nat} {u : Nat → Value} (h : KX B w k x y m v m' u) (hB : B ≤ w.heap.size)
    (hg : w.grownBy w2 x.ownBlock) (hX : OutV B w2 x' (m + 1) v') (hat : x'.ownBlock = x.ownBlock ∨ x'.ownBlock = some w.heap.size) :
    w2.heap[k]? = some (Obj.cells #[x, y] 26 (0, 0)) ∧ KX B (w2.setCell ⟨k, 0, none⟩ x') k x' y (m + 1) v' m' u ∧ Ik B w (w2.setCell ⟨k, 0, none⟩ x') := by
  have hk2 : w2.heap[k]? = some (Obj.cells #[x, y] 26 (0, 0)) := (hg.block k h.lt fun e => by
    obtain ⟨cur, z, hc⟩ := h.ox.typed e.symm
    rw [h.blk] at hc
    simp at hc).trans h.blk
  have oy2 := grown_out h.oy hg fun g hgy e => h.ne g e hgy
  refine ⟨hk2, ⟨set_keep0 hk2, hX.setK hk2 _ _, oy2.setK hk2 _ _, fun g e => ?_, h.ge⟩, ((Ik.refl B w).grownV hg hB fun g e => ⟨(h.ox.ge e).1, h.ox.typed e⟩).setK hk2 h.ge _ _⟩
  rcases hat with q | q
  · exact h.ne g (q.symm.trans e)
  · intro hy'
    rw [e] at q
    have := (h.oy.ge hy').2
    simp at q
    omega
theorem KX.stepY {B : Nat} {w w2 : World} {k : Nat} {x y y' : Value} {m : Nat} {v : Nat → Value} {m' : Nat} {u u' : Nat → Value} (h : KX B w k x y m v m' u) (hB : B ≤ w.heap.size)
    (hg : w.grownBy w2 y.ownBlock) (hY : OutV B w2 y' (m' + 1) u') (hat : y'.ownBlock = y.ownBlock ∨ y'.ownBlock = some w.heap.size) :
    w2.heap[k]? = some (Obj.cells #[x, y] 26 (0, 0)) ∧ KX B (w2.setCell ⟨k, 1, none⟩ y') k x y' m v (m' + 1) u' ∧ Ik B w (w2.setCell ⟨k, 1, none⟩ y') := by
  have hk2 : w2.heap[k]? = some (Obj.cells #[x, y] 26 (0, 0)) := (hg.block k h.lt fun e => by
    obtain ⟨cur, z, hc⟩ := h.oy.typed e.symm
    rw [h.blk] at hc
    simp at hc).trans h.blk
  have ox2 := grown_out h.ox hg fun g hgx e => h.ne g hgx e
  refine ⟨hk2, ⟨set_keep1 hk2, ox2.setK hk2 _ _, hY.setK hk2 _ _, fun g e e' => ?_, h.ge⟩, ((Ik.refl B w).grownV hg hB fun g e => ⟨(h.oy.ge e).1, h.oy.typed e⟩).setK hk2 h.ge _ _⟩
  rcases hat with q | q
  · exact h.ne g e (q.symm.trans e')
  · rw [e'] at q
    have := (h.ox.ge e).2
    simp at q
    omega
/-- 'append' of ints, as it runs, and where the new slice lies. -/
theorem run_app {w : World} (ty : TypeId) (B : Nat) (v : Value) (n : Nat) (d : Nat → Int) (hO : Out B w v n d) (bo : Option Addr) (m cb : Nat) (e : Nat → Int) (hR : Row w bo m cb e) (hlen : n + m ≤ 1000000) (hB : B ≤ w.heap.size) :
    ∃ v' w', (Builtin.append_ #[22, 22] ty #[v, .slice bo m cb]).run Tryz.prog w = .ok v' w' ∧ Out B w' v' (n + m) (cat d n e) ∧ w.grownBy w' v.ownBlock ∧ (v'.ownBlock = v.ownBlock ∨ v'.ownBlock = some w.heap.size) := by
  obtain ⟨i0, hi, hz0, hz1, hz2⟩ := info_parts info_int
  cases bo with
  | none =>
    have hc := hR.nl rfl
    have hl := hR.le
    subst hc
    obtain rfl : m = 0 := by omega
    have hr := run_append_owned_none (P := Tryz.prog) w B 22 ty 3 i0 1 Tryz.underlying22 hi v n (vals d n) hO
    exact ⟨v, w, hr, hO.congr fun i hi => by simp [cat]; omega, ⟨rfl, rfl, rfl, Nat.le_refl _, fun _ _ _ => rfl⟩, .inl rfl⟩
  | some ad =>
    obtain ⟨v', w', hr, h2, h3, _, h5⟩ := run_append_own_at (P := Tryz.prog) w B 22 ty 3 i0 (.int .i64 0) 1 8 Tryz.underlying22 hi hz0 hz1 hz2 rfl (by decide) v n (vals d n) hO ad m cb (vals e m) (by rw [vals_length]; omega)
      (fun j u hu => by
        have hj : j < m := by have := (List.getElem?_eq_some_iff.1 hu).1; rwa [vals_length] at this
        obtain ⟨b, off, hb, _, hc⟩ := hR.spot (by omega)
        obtain rfl := Option.some.inj hb
        rw [vals_get e hj] at hu
        rw [add_none, hc j hj]; exact hu) (vals_one e m) (by unfold maxLen; omega) (by omega) hB
    rw [vals_cat] at h2
    exact ⟨v', w', hr, h2, h3, h5⟩
theorem wp_app {w : World} {o : Oper} {a : Act} {K : Act → World → Prop} {Q : Exit → Act → World → Prop} (s x : Operand) (ho : o.op = .call { callee := .builtin .append, args := #[s, x], argTypes := #[22, 22] })
    (B : Nat) (v : Value) (n : Nat) (d : Nat → Int) (hs : a.eval s = v) (hO : Out B w v n d) (bo : Option Addr) (m cb : Nat) (e : Nat → Int) (hx : a.eval x = .slice bo m cb) (hR : Row w bo m cb e) (hlen : n + m ≤ 1000000) (hB : B ≤ w.heap.size)
    (h : ∀ v' w', Out B w' v' (n + m) (cat d n e) → w.grownBy w' v.ownBlock → (v'.ownBlock = v.ownBlock ∨ v'.ownBlock = some w.heap.size) → K (a.put o.dst v') w') : o.wp Tryz.prog a w K Q := by
  obtain ⟨v', w', hr, h2, h3, h4⟩ := run_app o.type B v n d hO bo m cb e hR hlen hB
  unfold Oper.wp execOp
  simp only [ho, resolve, invoke, builtin, Sem.run_bind, Sem.run_pure, Result.andThen_ok, List.map_toArray, List.map_cons, List.map_nil, hs, hx, hr]
  exact h v' w' h2 h3 h4
theorem step_app {w : World} {ops : Array Oper} {o : Oper} {a : Act} {K : Act → World → Prop} {Q : Exit → Act → World → Prop} {E : Prop} (hgd : o.guard = none) (s x : Operand) (ho : o.op = .call { callee := .builtin .append, args := #[s, x], argTypes := #[22, 22] })
    (B : Nat) (v : Value) (n : Nat) (d : Nat → Int) (hs : a.eval s = v) (hO : Out B w v n d) (bo : Option Addr) (m cb : Nat) (e : Nat → Int) (hx : a.eval x = .slice bo m cb) (hR : Row w bo m cb e) (hlen : n + m ≤ 1000000) (hB : B ≤ w.heap.size)
    (h : ∀ v' w', Out B w' v' (n + m) (cat d n e) → w.grownBy w' v.ownBlock → (v'.ownBlock = v.ownBlock ∨ v'.ownBlock = some w.heap.size) → K (a.put o.dst v') w') : if Region.wanted o (yielded ops a.tmps) = true then Oper.wp Tryz.prog o a w K Q else E := by
  rw [if_pos (show Region.wanted o (yielded ops a.tmps) = true by simp [Region.wanted, hgd])]
  exact wp_app s x ho B v n d hs hO bo m cb e hx hR hlen hB h
theorem step_appV {w : World} {ops : Array Oper} {o : Oper} {a : Act} {K : Act → World → Prop} {Q : Exit → Act → World → Prop} {E : Prop} (hgd : o.guard = none) (s x : Operand)
    (ho : o.op = .call { callee := .builtin .append, args := #[s, x], argTypes := #[24, 24] }) (B : Nat) (v : Value) (m : Nat) (f : Nat → Value) (hs : a.eval s = v) (hO : OutV B w v m f)
    (g : Nat) (y : Value) (hx : a.eval x = .slice (some ⟨g, 0, none⟩) 1 1) (hy : w.cell? ⟨g, 0, none⟩ = some y) (h1 : y.oneCell' = true) (hlen : m ≤ 1000) (hB : B ≤ w.heap.size)
    (h : ∀ v' w', OutV B w' v' (m + 1) (updV f m y) → w.grownBy w' v.ownBlock → (v'.ownBlock = v.ownBlock ∨ v'.ownBlock = some w.heap.size) → K (a.put o.dst v') w') : if Region.wanted o (yielded ops a.tmps) = true then Oper.wp Tryz.prog o a w K Q else E := by
  rw [if_pos (show Region.wanted o (yielded ops a.tmps) = true by simp [Region.wanted, hgd])]
  obtain ⟨i0, hi, hz0, hz1, hz2⟩ := info_parts info_slice
  obtain ⟨v', w', hr, h2, h3, _, h5⟩ := run_append_own_at (P := Tryz.prog) w B 24 o.type 22 i0 (.slice none 0 0) 1 24 Tryz.underlying24 hi hz0 hz1 hz2 rfl (by decide) v m (valsV f m) hO ⟨g, 0, none⟩ 1 1 [y] rfl
    (fun j u hu => by
      have hj : j = 0 := by have := (List.getElem?_eq_some_iff.1 hu).1; simp at this; exact this
      subst hj
      simp at hu
      subst hu
      rw [add_none]; exact hy) (by simpa using h1) (by unfold maxLen; omega) (by omega) hB
  rw [valsV_snoc] at h2
  unfold Oper.wp execOp
  simp only [ho, resolve, invoke, builtin, Sem.run_bind, Sem.run_pure, Result.andThen_ok, List.map_toArray, List.map_cons, List.map_nil, hs, hx, hr]
  exact h v' w' h2 h3 h5

theorem Kp.more {B : Nat} {w w7 : World} {k m ln : Nat} {v u : Nat → Value} {n : Nat → Nat} {d : Nat → Nat → Int} {x y l c : Value} {ld : Nat → Int} (h : Kp B w k m v u n d) (hi : Ik B w w7)
    (hk : KX B w7 k x y (m + 1) (updV v m l) (m + 1) (updV u m c)) (hl : Out B w l ln ld) (hc : Out B w7 c ln ld) (hn : ln ≤ 100000) (hap : ∀ i, i < m → ∀ g, (v i).ownBlock = some g → l.ownBlock ≠ some g) :
    Kp B w7 k (m + 1) (updV v m l) (updV u m c) (updV n m ln) (updV d m ld) := by
  refine ⟨⟨x, y, hk.blk, hk.ox, hk.oy, hk.ne⟩, hk.ge, fun i hi' => ?_, fun i hi' => ?_, fun i hi' => ?_, fun i j hi' hj hij g => ?_⟩
  · by_cases e : i = m
    · subst e; simp only [updV_same]; exact hl.ik hi
    · rw [updV_other _ _ e, updV_other _ _ e, updV_other _ _ e]; exact (h.ans i (by omega)).ik hi
  · by_cases e : i = m
    · subst e; simp only [updV_same]; exact hc
    · rw [updV_other _ _ e, updV_other _ _ e, updV_other _ _ e]; exact (h.was i (by omega)).ik hi
  · by_cases e : i = m
    · subst e; simp only [updV_same]; exact hn
    · rw [updV_other _ _ e]; exact h.len i (by omega)
  · by_cases e : i = m
    · subst e
      rw [updV_same, updV_other _ _ (fun q => hij q.symm)]
      exact fun hg hg' => hap j (by omega) g hg' hg
    · rw [updV_other _ _ e]
      by_cases e' : j = m
      · subst e'; rw [updV_same]; exact hap i (by omega) g
      · rw [updV_other _ _ e']; exact h.apart i j (by omega) (by omega) hij g
/-- A list that is read, whatever is kept besides. -/
def Rd (B : Nat) (w : World) (xo : Option Addr) (n xc : Nat) (d : Nat → Int) : Prop := ∀ w', Ik B w w' → Row w' xo n xc d
theorem Out.rd {B : Nat} {w : World} {xo : Option Addr} {n xc : Nat} {d : Nat → Int} (h : Out B w (.slice xo n xc) n d) : Rd B w xo n xc d := fun w' k => by
  obtain ⟨_, _, e, hR⟩ := (h.ik k).row
  simp only [Value.slice.injEq] at e
  obtain ⟨rfl, _, rfl⟩ := e
  exact hR
theorem Rd.ik {B : Nat} {w w' : World} {xo : Option Addr} {n xc : Nat} {d : Nat → Int} (h : Rd B w xo n xc d) (k : Ik B w w') : Rd B w' xo n xc d := fun w2 k2 => h w2 (k.trans k2)
theorem Rd.row {B : Nat} {w : World} {xo : Option Addr} {n xc : Nat} {d : Nat → Int} (h : Rd B w xo n xc d) : Row w xo n xc d := h w (Ik.refl _ _)
theorem Rd.of0 {w0 w : World} {xo : Option Addr} {n xc : Nat} {d : Nat → Int} (h : Row w0 xo n xc d) (hb : Below w0.heap.size w0 w) : Rd w0.heap.size w xo n xc d := fun w' k => h.keeps (hb.trans k.below)
theorem Rd.congr {B : Nat} {w : World} {xo : Option Addr} {n xc : Nat} {d e : Nat → Int} (h : Rd B w xo n xc d) (he : ∀ i, i < n → d i = e i) : Rd B w xo n xc e := fun w' k => (h w' k).congr he

set_option maxHeartbeats 4000000 in
set_option maxRecDepth 100000 in
theorem keepAdd_any (B k m : Nat) (v u : Nat → Value) (n : Nat → Nat) (d : Nat → Nat → Int) (w : World) (h : Kp B w k m v u n d)
    (lo : Option Addr) (ln lc : Nat) (ld : Nat → Int) (hl : Out B w (.slice lo ln lc) ln ld) (wo : Option Addr) (wc : Nat) (hw : Rd B w wo ln wc ld) (hn : ln ≤ 100000) (hB : B ≤ w.heap.size)
    (hap : ∀ i, i < m → ∀ g, (v i).ownBlock = some g → (Value.slice lo ln lc).ownBlock ≠ some g) :
    Calls Tryz.prog 40 #[.pointer (some ⟨k, 0, none⟩), .slice lo ln lc, .slice wo ln wc] w fun e w' => e = .returned (.bool true) ∧ Ik B w w' ∧
      ((m < 400 ∧ ∃ c, (∀ g, c.ownBlock = some g → w.heap.size ≤ g) ∧ Kp B w' k (m + 1) (updV v m (.slice lo ln lc)) (updV u m c) (updV n m ln) (updV d m ld)) ∨ Kp B w' k m v u n d) := by
  have HK : Hid (Kp B w k m v u n d) := h
  have HA : Hid (∀ i, i < m → ∀ g, (v i).ownBlock = some g → (Value.slice lo ln lc).ownBlock ≠ some g) := hap
  clear hap
  obtain ⟨x, y, hk, hx, hy, hxy⟩ := h.blk
  have HX : Hid (KX B w k x y m v m u) := ⟨hk, hx, hy, hxy, h.ge⟩
  obtain ⟨xo, xc, rfl, hxl, hxm, hxs⟩ := hx.shape
  obtain ⟨yo, yc, rfl, hyl, hym, hys⟩ := hy.shape
  obtain ⟨ck0, ck1, fk0, fk1⟩ := keep_at hk
  have HL : Hid (Out B w (.slice lo ln lc) ln ld) := hl
  have HW : Hid (Rd B w wo ln wc ld) := hw
  clear hk hxs hys hx hy hl hw h hxy
  by_cases h4 : m < 400
  · go_enter Tryz.func40, Tryz.ntmps40
    go_wp2_with (first
      | (at_builtin
         refine wpList_appV rfl _ _ rfl B _ m v rfl (HX.out.ox.alloc _) _ _ rfl (cell_one _ _ _ rfl) rfl (by omega) (by simp; omega) ?_
         intro x' w2 hX2 hg2 hat2
         obtain ⟨xo2, xc2, rfl, _, _, _⟩ := hX2.shape
         obtain ⟨hk2, HS2, hik2⟩ := (HX.out.keeps (bel_alloc _ _)).stepX (by simp; omega) hg2 hX2 hat2
         obtain ⟨ck20, ck21, fk20, fk21⟩ := keep_at hk2))
    replace hik2 := ((Ik.refl B w).alloc hB _).trans hik2
    clear ck0 ck1 fk0 fk1 hk2 hX2 hg2 hat2 fk20 fk21 ck20 ck21
    generalize w2.setCell ⟨k, 0, none⟩ (.slice xo2 (m + 1) xc2) = w3 at HS2 hik2 ⊢
    obtain ⟨ck0, ck1, fk0, fk1⟩ := keep_at HS2.blk
    have HS3 : Hid (KX B w3 k (.slice xo2 (m + 1) xc2) (.slice yo m yc) (m + 1) (updV v m (.slice lo ln lc)) m u) := HS2
    have HI3 : Hid (Ik B w w3) := hik2
    clear HS2 hik2
    obtain ⟨_, _, e1, r1⟩ := (HL.out.ik HI3.out).row
    have r2 := (HW.out.ik HI3.out).row
    simp only [Value.slice.injEq] at e1
    obtain ⟨rfl, _, rfl⟩ := e1
    have hB3 : B ≤ w3.heap.size := Nat.le_trans hB HI3.out.below.size
    go_region_law (first
        | ((have _t := ck4; refine step_appV (by rfl) _ _ (by rfl) B _ m u (by rfl) ((HX4.out.keeps (bel_alloc _ _)).oy) w4.heap.size (.slice co ln cc) (by rfl) (cell_one _ _ _ rfl) rfl (by omega) (by simp; omega) ?_; intro y' w6 hY6 hg6 hat6; obtain ⟨yo6, yc6, rfl, _, _, _⟩ := hY6.shape; obtain ⟨hk6, hx6, hik6⟩ := (HX4.out.keeps (bel_alloc _ _)).stepY (by simp; omega) hg6 hY6 hat6; obtain ⟨ck60, ck61, fk60, fk61⟩ := keep_at hk6))
        | ((refine step_app (by rfl) _ _ (by rfl) w3.heap.size _ 0 (fun _ => 0) (by rfl) (Out.nil _ _ _) wo ln wc ld (by rfl) (r2.keeps (bel_refl _).drew) (by omega) (Nat.le_refl _) ?_; intro c w4 hO4' hg4 _; have hO4 := hO4'.lower hB3; have hb4 := bel_trans (bel_refl w3).drew (grown_below hg4); have HX4 : Hid (KX B w4 k (.slice xo2 (m + 1) xc2) (.slice yo m yc) (m + 1) (updV v m (.slice lo ln lc)) m u) := HS3.out.keeps hb4; have ck4 := (keep_at HX4.out.blk).2.1; rw [Nat.zero_add] at hO4; have hB4 := Nat.le_trans hB3 hb4.size; obtain ⟨co, cc, rfl, rc⟩ := hO4.row; have HN4 : Hid (∀ g, (Value.slice co ln cc).ownBlock = some g → w3.heap.size ≤ g) := own_ge hO4'; have HB4 : Hid (Below w3.heap.size w3 w4) := hb4; have HO4 : Hid (Out B w4 (.slice co ln cc) ln (cat (fun _ => 0) 0 ld)) := hO4; have ck4a := (keep_at (HX4.out.keeps (bel_alloc _ (.cells #[.slice co ln cc] 22))).blk).2.1; clear hb4 hO4 hg4 hO4')))
    all_goals
      have hi7 := ((Ik.of HB4.out hB3).alloc hB4 _).trans hik6
      have hiw := HI3.out.trans hi7
      have kp := Kp.more HK.out hiw hx6 HL.out (((HO4.out.ik ((Ik.refl B w4).alloc hB4 _)).ik hik6).congr fun i hi => by simp [cat]) hn HA.out
      have HKP : Hid (Kp B (w6.setCell ⟨k, 1, none⟩ (.slice yo6 (m + 1) yc6)) k (m + 1) (updV v m (.slice lo ln lc)) (updV u m (.slice co ln cc)) (updV n m ln) (updV d m ld)) := kp
      have HIW : Hid (Ik B w (w6.setCell ⟨k, 1, none⟩ (.slice yo6 (m + 1) yc6))) := hiw
      obtain ⟨_, _, e1, s1⟩ := (HL.out.ik hiw).row
      have s2 := (HW.out.ik hiw).row
      simp only [Value.slice.injEq] at e1
      obtain ⟨rfl, _, rfl⟩ := e1
      clear kp hiw hi7 hx6 hik6 hk6 ck60 ck61 fk60 fk61 hY6 hg6 hat6 ck4 ck4a ck0 ck1 fk0 fk1
      generalize w6.setCell ⟨k, 1, none⟩ (.slice yo6 (m + 1) yc6) = w7 at HKP HIW s1 s2 ⊢
      go_wp2_with fail
      refine (same_any lo wo ln ln lc wc ld ld _ s1 s2).mono ?_
      rintro e w8 ⟨rfl, hb8⟩
      go_wp2
      go_ret
      exact ⟨ret_bool (decide_eq_true ⟨rfl, fun _ _ => rfl⟩), HIW.out.trans (Ik.of hb8 (Nat.le_trans hB HIW.out.below.size)), .inl ⟨h4, _, fun g hg => Nat.le_trans HI3.out.below.size (HN4.out g hg), HKP.out.keeps hb8⟩⟩
  · go_enter Tryz.func40, Tryz.ntmps40
    go_wp2_with fail
    obtain ⟨_, _, e1, r1⟩ := HL.out.row
    have r2 := HW.out.row
    simp only [Value.slice.injEq] at e1
    obtain ⟨rfl, _, rfl⟩ := e1
    refine (same_any lo wo ln ln lc wc ld ld w r1 r2).mono ?_
    rintro e w' ⟨rfl, hb⟩
    go_wp2
    go_ret
    exact ⟨ret_bool (decide_eq_true ⟨rfl, fun _ _ => rfl⟩), Ik.of hb hB, .inr (HK.out.keeps hb)⟩
end Go.Proofs.YtjlmpgbadgkgmaaGreatDoor
