/-
  Package nat: Shl, Pow, by contracts: for every number, every exponent.
-/
import Derived.Test.YtmbajngbiefilabDoorNPow
namespace Go.Proofs.YtmbajngbiefilabDoor
open Go Go.RowKit Go.Proofs.YtmbajngbiefilabDoor.M
set_option linter.unusedSimpArgs false
set_option linter.unusedVariables false

theorem P2000_two : P 2000 = 2 ^ 60000 := P_two 2000
theorem shl_long {A : Int} {k : Nat} (hA : 0 < A) (h : 60000 < k + blen A) : P 2000 ≤ A * 2 ^ k := by
  obtain ⟨c1, c2⟩ := blen_pos hA
  rw [P2000_two]
  have h1 : (2 : Int) ^ 60000 ≤ 2 ^ (blen A - 1 + k) := two_le (by omega)
  rw [Int.pow_add] at h1
  exact Int.le_trans h1 (Int.mul_le_mul_of_nonneg_right c2 (Int.le_of_lt (two_pos k)))
theorem shl_short {A : Int} {k : Nat} (h : k + blen A ≤ 60000) : A * 2 ^ k < P 2000 := by
  rw [P2000_two]
  have h1 : (2 : Int) ^ (blen A + k) ≤ 2 ^ 60000 := two_le (by omega)
  rw [Int.pow_add] at h1
  have h2 : A * 2 ^ k < 2 ^ blen A * 2 ^ k := Int.mul_lt_mul_of_pos_right (blen_lt A) (two_pos k)
  exact Int.lt_of_lt_of_le h2 h1
set_option maxRecDepth 100000 in
set_option maxHeartbeats 400000 in
theorem shl_num {w : World} {x : Value} {A : Int} (hx : Num w x A) (hA : A < P 2000) (k : Nat) (hk : k < 4611686018427387904 * 2) :
    Calls Tryd.prog 6 #[x, .int .i64 k] w fun e w' => ∃ v er, e = .returned (.tuple #[v, .int .i64 er]) ∧ Fit w w' (A * 2 ^ k) v er := by
  obtain ⟨ao, n, ca, d, rfl, hR, h2, rfl⟩ := hx
  have ok := Num.ok h2 hA
  have hn2 := (okB_out ok).1
  have HA : Hid (val d n < P 2000) := hA
  clear hA hk
  by_cases h0 : n = 0
  · subst h0
    have F : Fit w w (val d 0 * 2 ^ k) (.slice none 0 0) 0 := by
      have e : val d 0 * 2 ^ k = 0 := by show (0 : Int) * _ = 0; omega
      rw [e]; exact ⟨bel_refl _, .inl ⟨P_pos _, rfl, Ans.nil (bel_refl _)⟩⟩
    go_enter Tryd.func6, Tryd.ntmps6
    go_wp2_with fail
    refine (valid_any _ _ _ _ _ hR).mono ?_
    rintro e w' ⟨rfl, rfl⟩
    go_wp2
    go_ret2
    exact ⟨_, _, rfl, F⟩
  · have e0 : ((n : Int) == 0) = false := by simp; omega
    have hp := val_pos h2 (by omega)
    have hb1 : blen (val d n) ≤ 30 * n := blen_le (by rw [← P_two]; exact val_lt h2.1)
    by_cases hl : k + blen (val d n) ≤ 60000
    · have hs : Hid (val d n * 2 ^ k < P 2000) := shl_short hl
      have hsk : k ≤ 60000 := by omega
      have hc : decide ((60000 : Int) - (blen (val d n) : Int) < (k : Int)) = false := decide_eq_false (by omega)
      go_enter Tryd.func6, Tryd.ntmps6
      go_wp2_with fail
      refine (valid_any _ _ _ _ _ hR).mono ?_
      rintro e w' ⟨rfl, rfl⟩
      go_wp2_with fail
      refine (bitLength_any _ _ _ _ _ hR h2 (by omega)).mono ?_
      rintro e w' ⟨rfl, rfl⟩
      go_wp2_with fail
      refine (raise_any _ _ _ k d _ hR h2.1 (by omega) (by omega)).mono ?_
      rintro e w1 ⟨v, rfl, hv⟩
      go_wp2
      go_ret2
      exact ⟨_, _, rfl, hv.below, .inl ⟨hs.out, rfl, hv⟩⟩
    · have hs : Hid (P 2000 ≤ val d n * 2 ^ k) := shl_long hp (by omega)
      have hc : decide ((60000 : Int) - (blen (val d n) : Int) < (k : Int)) = true := decide_eq_true (by omega)
      go_enter Tryd.func6, Tryd.ntmps6
      go_wp2_with fail
      refine (valid_any _ _ _ _ _ hR).mono ?_
      rintro e w' ⟨rfl, rfl⟩
      go_wp2_with fail
      refine (bitLength_any _ _ _ _ _ hR h2 (by omega)).mono ?_
      rintro e w' ⟨rfl, rfl⟩
      go_wp2
      go_ret2
      exact ⟨_, _, rfl, bel_refl _, .inr ⟨hs.out, rfl, rfl⟩⟩

theorem row_drewN {w : World} {ao : Option Addr} {n cap : Nat} {d : Nat → Int} (h : Row w ao n cap d) {q : Nat} : Row (w.drewN q) ao n cap d := h.keeps (bDrewN (bel_refl _) _)
theorem power_zero (ao : Option Addr) (n ca : Nat) (w : World) : Calls Tryd.prog 19 #[.slice ao n ca, .int .i64 0] w fun e w' => ∃ v, e = .returned v ∧ Ans w w' 1 v := by
  have hb0 : blen 0 = 0 := blen_zero
  go_enter Tryd.func19, Tryd.ntmps19
  go_wp2
  refine wp_scope_straight ?_
  go_wp2_with fail
  refine (len_any _ _ (by omega) (by omega)).mono ?_
  rintro e w1 ⟨rfl, rfl⟩
  go_wp2
  go_step3
  go_wp2
  rw [Exit.noGoto_ret]
  go_ret
  exact ⟨_, rfl, ans_one w rfl⟩
theorem pow_small {A : Int} {k : Nat} (h0 : 0 ≤ A) (h1 : A < 2) (hk : 0 < k) : A ^ k = A := by
  rcases (show A = 0 ∨ A = 1 by omega) with rfl | rfl
  · exact Int.zero_pow (by omega)
  · exact Int.one_pow
theorem two_pow_pow (a b : Nat) : ((2 : Int) ^ a) ^ b = 2 ^ (a * b) := Int.pow_mul.symm
theorem pow_le_base {A B : Int} (h0 : 0 ≤ A) (h : A ≤ B) (k : Nat) : A ^ k ≤ B ^ k := by
  induction k with
  | zero => rw [Int.pow_zero, Int.pow_zero]; omega
  | succ k ih =>
    rw [Int.pow_succ, Int.pow_succ]
    exact Int.mul_le_mul ih h h0 (Int.pow_nonneg (by omega))
theorem pow_long {A : Int} {k L : Nat} (hL : 2 ^ (L - 1) ≤ A) (h : 59999 < (L - 1) * k) : P 2000 ≤ A ^ k := by
  rw [P2000_two]
  have h1 : (2 : Int) ^ 60000 ≤ 2 ^ ((L - 1) * k) := two_le (by omega)
  rw [← two_pow_pow] at h1
  exact Int.le_trans h1 (pow_le_base (Int.le_of_lt (two_pos _)) hL k)
theorem pow_fits {A : Int} {k L : Nat} (h0 : 0 ≤ A) (hL : A < 2 ^ L) (h1 : 2 ≤ L) (h : (L - 1) * k ≤ 59999) : A ^ k < P 5000 := by
  have hk : k ≤ 59999 := by
    have : 1 * k ≤ (L - 1) * k := Nat.mul_le_mul_right k (by omega)
    omega
  have h2 : L * k ≤ 119998 := by
    have : L * k = (L - 1) * k + k := by rw [← Nat.succ_mul]; congr 1; omega
    omega
  have h3 := pow_le_base h0 (Int.le_of_lt hL) k
  rw [two_pow_pow] at h3
  have h4 : (2 : Int) ^ (L * k) < 2 ^ 150000 := two_lt (by omega)
  rw [P_two]
  exact Int.lt_of_le_of_lt h3 h4
theorem clone_num {w : World} {ao : Option Addr} {n cap : Nat} {A : Int} (hx : Num w (.slice ao n cap) A) (hn : n ≤ 500000) :
    Calls Tryd.prog 17 #[.slice ao n cap] w fun e w' => ∃ v, e = .returned v ∧ Ans w w' A v := by
  obtain ⟨ao', n', ca', d, e1, hR, h2, rfl⟩ := hx
  simp only [Value.slice.injEq] at e1
  obtain ⟨rfl, rfl, rfl⟩ := e1
  refine (clone_any _ _ _ _ _ hR hn).mono ?_
  rintro e w' ⟨v, rfl, h1, hb⟩
  exact ⟨v, rfl, n, d, h1, h2, rfl, hb⟩
theorem fit_ans {w w1 : World} {V : Int} {v : Value} (h : Ans w w1 V v) :
    Calls Tryd.prog 18 #[v] w1 fun e w' => ∃ v' er, e = .returned (.tuple #[v', .int .i64 er]) ∧ Fit w w' V v' er := by
  obtain ⟨t, d, hO, hN, hV, hB⟩ := h
  obtain ⟨ao, cap, rfl, hR⟩ := hO.row
  refine (fit_any _ _ _ _).mono ?_
  rintro e w' ⟨rfl, rfl⟩
  exact ⟨_, _, rfl, Fit.of hO hN hV hB⟩
set_option maxRecDepth 100000 in
set_option maxHeartbeats 1000000 in
theorem pow_num {w : World} {x : Value} {A : Int} (hx : Num w x A) (hA : A < P 2000) (k : Nat) (hk : k < 4611686018427387904 * 2) :
    Calls Tryd.prog 5 #[x, .int .i64 k] w fun e w' => ∃ v er, e = .returned (.tuple #[v, .int .i64 er]) ∧ Fit w w' (A ^ k) v er := by
  have hx' := hx
  have hA0 := hx.nonneg
  obtain ⟨ao, n, ca, d, rfl, hR, h2, rfl⟩ := hx
  have ok := Num.ok h2 hA
  have hn2 := (okB_out ok).1
  have HA : Hid (val d n < P 2000) := hA
  have HK : Hid (k < 4611686018427387904 * 2) := hk
  have HA5 : Hid (val d n < P 5000) := Int.lt_of_lt_of_le hA (P_le (by decide))
  clear hA hk
  have hb1 : blen (val d n) ≤ 30 * n := blen_le (by rw [← P_two]; exact val_lt h2.1)
  have HBL : Hid (val d n < 2 ^ blen (val d n)) := blen_lt _
  by_cases hk0 : k = 0
  · subst hk0
    have F1 : ∀ w1 w2 v er, Fit w1 w2 1 v er → Fit w1 w2 (val d n ^ 0) v er := fun _ _ _ _ h => by rw [Int.pow_zero]; exact h
    go_enter Tryd.func5, Tryd.ntmps5
    go_wp2_with fail
    refine (valid_any _ _ _ _ _ hR).mono ?_
    rintro e w' ⟨rfl, rfl⟩
    go_wp2_with fail
    go_quiet (fail)
    have hb := bDrewN (bel_refl w') nq
    go_wp2_with fail
    refine (power_zero ao n ca _).mono ?_
    rintro e w2 ⟨v, rfl, hv⟩
    go_wp2_with fail
    refine (fit_ans (hv.from hb)).mono ?_
    rintro e w3 ⟨v', er, rfl, hF⟩
    go_wp2
    go_ret2
    exact ⟨_, _, rfl, F1 _ _ _ _ hF⟩
  · have hkp : decide ((0 : Int) < (k : Int)) = true := decide_eq_true (by omega)
    have hkp2 : (0 : Int) < (k : Int) := by omega
    have hkz : ((k : Int) == 0) = false := by simp; omega
    by_cases hs : blen (val d n) < 2
    · have HS : Hid (val d n ^ k = val d n) := pow_small hA0 (by
        have h1 := HBL.out
        have h3 : (2 : Int) ^ blen (val d n) ≤ 2 ^ 1 := two_le (by omega)
        omega) (by omega)
      have hc : decide (((blen (val d n) : Nat) : Int) < 2) = true := decide_eq_true (by omega)
      go_enter Tryd.func5, Tryd.ntmps5
      go_wp2_with fail
      refine (valid_any _ _ _ _ _ hR).mono ?_
      rintro e w' ⟨rfl, rfl⟩
      go_wp2_with fail
      refine (bitLength_any _ _ _ _ _ hR h2 (by omega)).mono ?_
      rintro e w' ⟨rfl, rfl⟩
      go_wp2_with fail
      refine (clone_num hx' (by omega)).mono ?_
      rintro e w1 ⟨v, rfl, hv⟩
      go_wp2
      go_ret2
      exact ⟨_, _, rfl, hv.below, .inl ⟨by rw [HS.out]; exact HA.out, rfl, by rw [HS.out]; exact hv⟩⟩
    · have hc : decide (((blen (val d n) : Nat) : Int) < 2) = false := decide_eq_false (by omega)
      have hA2 : 0 < val d n := by
        by_cases e : 0 < val d n
        · exact e
        · have : val d n = 0 := by omega
          rw [this, blen_zero] at hs
          omega
      have hq0 : 0 ≤ (59999 : Int) / k := Int.ediv_nonneg (by omega) (by omega)
      have hdiv : ∀ z : Int, z ≤ (59999 : Int) / k ↔ z * k ≤ 59999 := fun z => Int.le_ediv_iff_mul_le (by omega)
      by_cases hl : (59999 : Int) / k < ((blen (val d n) : Nat) : Int) - 1
      · have HL : Hid (P 2000 ≤ val d n ^ k) := by
          refine pow_long (L := blen (val d n)) (blen_pos hA2).2 ?_
          have h1 : ¬ (((blen (val d n) : Nat) : Int) - 1) * k ≤ 59999 := fun h => by have := (hdiv _).2 h; omega
          have h3 : ((((blen (val d n) - 1) * k : Nat)) : Int) = (((blen (val d n) : Nat) : Int) - 1) * k := by
            rw [Int.natCast_mul, Int.ofNat_sub (by omega)]; rfl
          omega
        have hl' : decide ((59999 : Int) / k < ((blen (val d n) : Nat) : Int) - 1) = true := decide_eq_true hl
        clear hdiv
        go_enter Tryd.func5, Tryd.ntmps5
        go_wp2_with fail
        refine (valid_any _ _ _ _ _ hR).mono ?_
        rintro e w' ⟨rfl, rfl⟩
        go_wp2_with fail
        refine (bitLength_any _ _ _ _ _ hR h2 (by omega)).mono ?_
        rintro e w' ⟨rfl, rfl⟩
        go_wp2_with fail
        go_quiet ((refine (bitLength_any _ _ _ _ _ (row_drewN hR) h2 (by omega)).mono ?_; rintro _ _ ⟨rfl, rfl⟩; exact ⟨rfl, _, rfl⟩))
        go_wp2
        go_ret2
        exact ⟨_, _, rfl, bDrewN (bel_refl _) _, .inr ⟨HL.out, rfl, rfl⟩⟩
      · have HL : Hid (val d n ^ k < P 5000) := by
          refine pow_fits (L := blen (val d n)) hA0 HBL.out (by omega) ?_
          have h1 := (hdiv (((blen (val d n) : Nat) : Int) - 1)).1 (by omega)
          have h3 : ((((blen (val d n) - 1) * k : Nat)) : Int) = (((blen (val d n) : Nat) : Int) - 1) * k := by
            rw [Int.natCast_mul, Int.ofNat_sub (by omega)]; rfl
          omega
        have hl' : decide ((59999 : Int) / k < ((blen (val d n) : Nat) : Int) - 1) = false := decide_eq_false hl
        clear hdiv
        go_enter Tryd.func5, Tryd.ntmps5
        go_wp2_with fail
        refine (valid_any _ _ _ _ _ hR).mono ?_
        rintro e w' ⟨rfl, rfl⟩
        go_wp2_with fail
        refine (bitLength_any _ _ _ _ _ hR h2 (by omega)).mono ?_
        rintro e w' ⟨rfl, rfl⟩
        go_wp2_with fail
        go_quiet ((refine (bitLength_any _ _ _ _ _ (row_drewN hR) h2 (by omega)).mono ?_; rintro _ _ ⟨rfl, rfl⟩; exact ⟨rfl, _, rfl⟩))
        have hb := bDrewN (bel_refl w') nq
        go_wp2_with fail
        refine (power_any ao n ca k _ _ (hx'.keeps hb) HK.out (by omega) HL.out HA5.out).mono ?_
        rintro e w2 ⟨v, rfl, hv⟩
        go_wp2_with fail
        refine (fit_ans (hv.from hb)).mono ?_
        rintro e w3 ⟨v', er, rfl, hF⟩
        go_wp2
        go_ret2
        exact ⟨_, _, rfl, hF⟩
end Go.Proofs.YtmbajngbiefilabDoor
