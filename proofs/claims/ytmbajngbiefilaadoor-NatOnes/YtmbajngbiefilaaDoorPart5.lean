/-
  Parts of the proof, one behind another.
-/
import Derived.Test.YtmbajngbiefilaaDoorPart4
import Derived.Test.YtmbajngbiefilaaDoorPart2
import Derived.Test.YtmbajngbiefilaaDoorPart3
/-
  Package nat: Shl, Pow, by contracts: for every number, every exponent.
-/
namespace Go.Proofs.YtmbajngbiefilaaDoor
open Go Go.RowKit Go.Proofs.YtmbajngbiefilaaDoor.M
set_option linter.unusedSimpArgs false
set_option linter.unusedVariables false

theorem P2000_two : P 2000 = 2 ^ 60000 := P_two 2000
theorem shl_long {A : Int} {k : Nat} (hA : 0 < A) (h : 60000 < k + blen A) : P 2000 ≤ A * 2 ^ k := by
  obtain ⟨c1, c2⟩ := blen_pos hA
  rw [P2000_two]
  have h1 : (2 : Int) ^ 60000 ≤ 2 ^ (blen A - 1 + k) := two_le (by omega)
  rw [Int.pow_add] at h1
  exact Int.le_trans h1 (Int.mul_le_mul_of_nonneg_right c2 (Int.le_of_lt (two_pos k)))
theorem shl_short {A : Int} {k : Nat} (h : k + blen A ≤ 60000) : A * 2 ^ k < P 2000 := by
  rw [P2000_two]
  have h1 : (2 : Int) ^ (blen A + k) ≤ 2 ^ 60000 := two_le (by omega)
  rw [Int.pow_add] at h1
  have h2 : A * 2 ^ k < 2 ^ blen A * 2 ^ k := Int.mul_lt_mul_of_pos_right (blen_lt A) (two_pos k)
  exact Int.lt_of_lt_of_le h2 h1
set_option maxRecDepth 100000 in
set_option maxHeartbeats 400000 in
theorem shl_num {w : World} {x : Value} {A : Int} (hx : Num w x A) (hA : A < P 2000) (k : Nat) (hk : k < 4611686018427387904 * 2) :
    Calls Tryd.prog 17 #[x, .int .i64 k] w fun e w' => ∃ v er, e = .returned (.tuple #[v, .int .i64 er]) ∧ Fit w w' (A * 2 ^ k) v er := by
  obtain ⟨ao, n, ca, d, rfl, hR, h2, rfl⟩ := hx
  have ok := Num.ok h2 hA
  have hn2 := (okB_out ok).1
  have HA : Hid (val d n < P 2000) := hA
  clear hA hk
  by_cases h0 : n = 0
  · subst h0
    have F : Fit w w (val d 0 * 2 ^ k) (.slice none 0 0) 0 := by
      have e : val d 0 * 2 ^ k = 0 := by show (0 : Int) * _ = 0; omega
      rw [e]; exact ⟨bel_refl _, .inl ⟨P_pos _, rfl, Ans.nil (bel_refl _)⟩⟩
    go_enter Tryd.func17, Tryd.ntmps17
    go_wp2_with fail
    refine (valid_any _ _ _ _ _ hR).mono ?_
    rintro e w' ⟨rfl, rfl⟩
    go_wp2
    go_ret2
    exact ⟨_, _, rfl, F⟩
  · have e0 : ((n : Int) == 0) = false := by simp; omega
    have hp := val_pos h2 (by omega)
    have hb1 : blen (val d n) ≤ 30 * n := blen_le (by rw [← P_two]; exact val_lt h2.1)
    by_cases hl : k + blen (val d n) ≤ 60000
    · have hs : Hid (val d n * 2 ^ k < P 2000) := shl_short hl
      have hsk : k ≤ 60000 := by omega
      have hc : decide ((60000 : Int) - (blen (val d n) : Int) < (k : Int)) = false := decide_eq_false (by omega)
      go_enter Tryd.func17, Tryd.ntmps17
      go_wp2_with fail
      refine (valid_any _ _ _ _ _ hR).mono ?_
      rintro e w' ⟨rfl, rfl⟩
      go_wp2_with fail
      refine (bitLength_any _ _ _ _ _ hR h2 (by omega)).mono ?_
      rintro e w' ⟨rfl, rfl⟩
      go_wp2_with fail
      refine (raise_any _ _ _ k d _ hR h2.1 (by omega) (by omega)).mono ?_
      rintro e w1 ⟨v, rfl, hv⟩
      go_wp2
      go_ret2
      exact ⟨_, _, rfl, hv.below, .inl ⟨hs.out, rfl, hv⟩⟩
    · have hs : Hid (P 2000 ≤ val d n * 2 ^ k) := shl_long hp (by omega)
      have hc : decide ((60000 : Int) - (blen (val d n) : Int) < (k : Int)) = true := decide_eq_true (by omega)
      go_enter Tryd.func17, Tryd.ntmps17
      go_wp2_with fail
      refine (valid_any _ _ _ _ _ hR).mono ?_
      rintro e w' ⟨rfl, rfl⟩
      go_wp2_with fail
      refine (bitLength_any _ _ _ _ _ hR h2 (by omega)).mono ?_
      rintro e w' ⟨rfl, rfl⟩
      go_wp2
      go_ret2
      exact ⟨_, _, rfl, bel_refl _, .inr ⟨hs.out, rfl, rfl⟩⟩

theorem row_drewN {w : World} {ao : Option Addr} {n cap : Nat} {d : Nat → Int} (h : Row w ao n cap d) {q : Nat} : Row (w.drewN q) ao n cap d := h.keeps (bDrewN (bel_refl _) _)
theorem power_zero (ao : Option Addr) (n ca : Nat) (w : World) : Calls Tryd.prog 38 #[.slice ao n ca, .int .i64 0] w fun e w' => ∃ v, e = .returned v ∧ Ans w w' 1 v := by
  have hb0 : blen 0 = 0 := blen_zero
  go_enter Tryd.func38, Tryd.ntmps38
  go_wp2
  refine wp_scope_straight ?_
  go_wp2_with fail
  refine (len_any _ _ (by omega) (by omega)).mono ?_
  rintro e w1 ⟨rfl, rfl⟩
  go_wp2
  go_step3
  go_wp2
  rw [Exit.noGoto_ret]
  go_ret
  exact ⟨_, rfl, ans_one w rfl⟩
theorem pow_small {A : Int} {k : Nat} (h0 : 0 ≤ A) (h1 : A < 2) (hk : 0 < k) : A ^ k = A := by
  rcases (show A = 0 ∨ A = 1 by omega) with rfl | rfl
  · exact Int.zero_pow (by omega)
  · exact Int.one_pow
theorem two_pow_pow (a b : Nat) : ((2 : Int) ^ a) ^ b = 2 ^ (a * b) := Int.pow_mul.symm
theorem pow_le_base {A B : Int} (h0 : 0 ≤ A) (h : A ≤ B) (k : Nat) : A ^ k ≤ B ^ k := by
  induction k with
  | zero => rw [Int.pow_zero, Int.pow_zero]; omega
  | succ k ih =>
    rw [Int.pow_succ, Int.pow_succ]
    exact Int.mul_le_mul ih h h0 (Int.pow_nonneg (by omega))
theorem pow_long {A : Int} {k L : Nat} (hL : 2 ^ (L - 1) ≤ A) (h : 59999 < (L - 1) * k) : P 2000 ≤ A ^ k := by
  rw [P2000_two]
  have h1 : (2 : Int) ^ 60000 ≤ 2 ^ ((L - 1) * k) := two_le (by omega)
  rw [← two_pow_pow] at h1
  exact Int.le_trans h1 (pow_le_base (Int.le_of_lt (two_pos _)) hL k)
theorem pow_fits {A : Int} {k L : Nat} (h0 : 0 ≤ A) (hL : A < 2 ^ L) (h1 : 2 ≤ L) (h : (L - 1) * k ≤ 59999) : A ^ k < P 5000 := by
  have hk : k ≤ 59999 := by
    have : 1 * k ≤ (L - 1) * k := Nat.mul_le_mul_right k (by omega)
    omega
  have h2 : L * k ≤ 119998 := by
    have : L * k = (L - 1) * k + k := by rw [← Nat.succ_mul]; congr 1; omega
    omega
  have h3 := pow_le_base h0 (Int.le_of_lt hL) k
  rw [two_pow_pow] at h3
  have h4 : (2 : Int) ^ (L * k) < 2 ^ 150000 := two_lt (by omega)
  rw [P_two]
  exact Int.lt_of_le_of_lt h3 h4
theorem clone_num {w : World} {ao : Option Addr} {n cap : Nat} {A : Int} (hx : Num w (.slice ao n cap) A) (hn : n ≤ 500000) :
    Calls Tryd.prog 37 #[.slice ao n cap] w fun e w' => ∃ v, e = .returned v ∧ Ans w w' A v := by
  obtain ⟨ao', n', ca', d, e1, hR, h2, rfl⟩ := hx
  simp only [Value.slice.injEq] at e1
  obtain ⟨rfl, rfl, rfl⟩ := e1
  refine (clone_any _ _ _ _ _ hR hn).mono ?_
  rintro e w' ⟨v, rfl, h1, hb⟩
  exact ⟨v, rfl, n, d, h1, h2, rfl, hb⟩
theorem fit_ans {w w1 : World} {V : Int} {v : Value} (h : Ans w w1 V v) :
    Calls Tryd.prog 30 #[v] w1 fun e w' => ∃ v' er, e = .returned (.tuple #[v', .int .i64 er]) ∧ Fit w w' V v' er := by
  obtain ⟨t, d, hO, hN, hV, hB⟩ := h
  obtain ⟨ao, cap, rfl, hR⟩ := hO.row
  refine (fit_any _ _ _ _).mono ?_
  rintro e w' ⟨rfl, rfl⟩
  exact ⟨_, _, rfl, Fit.of hO hN hV hB⟩
set_option maxRecDepth 100000 in
set_option maxHeartbeats 1000000 in
theorem pow_num {w : World} {x : Value} {A : Int} (hx : Num w x A) (hA : A < P 2000) (k : Nat) (hk : k < 4611686018427387904 * 2) :
    Calls Tryd.prog 19 #[x, .int .i64 k] w fun e w' => ∃ v er, e = .returned (.tuple #[v, .int .i64 er]) ∧ Fit w w' (A ^ k) v er := by
  have hx' := hx
  have hA0 := hx.nonneg
  obtain ⟨ao, n, ca, d, rfl, hR, h2, rfl⟩ := hx
  have ok := Num.ok h2 hA
  have hn2 := (okB_out ok).1
  have HA : Hid (val d n < P 2000) := hA
  have HK : Hid (k < 4611686018427387904 * 2) := hk
  have HA5 : Hid (val d n < P 5000) := Int.lt_of_lt_of_le hA (P_le (by decide))
  clear hA hk
  have hb1 : blen (val d n) ≤ 30 * n := blen_le (by rw [← P_two]; exact val_lt h2.1)
  have HBL : Hid (val d n < 2 ^ blen (val d n)) := blen_lt _
  by_cases hk0 : k = 0
  · subst hk0
    have F1 : ∀ w1 w2 v er, Fit w1 w2 1 v er → Fit w1 w2 (val d n ^ 0) v er := fun _ _ _ _ h => by rw [Int.pow_zero]; exact h
    go_enter Tryd.func19, Tryd.ntmps19
    go_wp2_with fail
    refine (valid_any _ _ _ _ _ hR).mono ?_
    rintro e w' ⟨rfl, rfl⟩
    go_wp2_with fail
    go_quiet (fail)
    have hb := bDrewN (bel_refl w') nq
    go_wp2_with fail
    refine (power_zero ao n ca _).mono ?_
    rintro e w2 ⟨v, rfl, hv⟩
    go_wp2_with fail
    refine (fit_ans (hv.from hb)).mono ?_
    rintro e w3 ⟨v', er, rfl, hF⟩
    go_wp2
    go_ret2
    exact ⟨_, _, rfl, F1 _ _ _ _ hF⟩
  · have hkp : decide ((0 : Int) < (k : Int)) = true := decide_eq_true (by omega)
    have hkp2 : (0 : Int) < (k : Int) := by omega
    have hkz : ((k : Int) == 0) = false := by simp; omega
    by_cases hs : blen (val d n) < 2
    · have HS : Hid (val d n ^ k = val d n) := pow_small hA0 (by
        have h1 := HBL.out
        have h3 : (2 : Int) ^ blen (val d n) ≤ 2 ^ 1 := two_le (by omega)
        omega) (by omega)
      have hc : decide (((blen (val d n) : Nat) : Int) < 2) = true := decide_eq_true (by omega)
      go_enter Tryd.func19, Tryd.ntmps19
      go_wp2_with fail
      refine (valid_any _ _ _ _ _ hR).mono ?_
      rintro e w' ⟨rfl, rfl⟩
      go_wp2_with fail
      refine (bitLength_any _ _ _ _ _ hR h2 (by omega)).mono ?_
      rintro e w' ⟨rfl, rfl⟩
      go_wp2_with fail
      refine (clone_num hx' (by omega)).mono ?_
      rintro e w1 ⟨v, rfl, hv⟩
      go_wp2
      go_ret2
      exact ⟨_, _, rfl, hv.below, .inl ⟨by rw [HS.out]; exact HA.out, rfl, by rw [HS.out]; exact hv⟩⟩
    · have hc : decide (((blen (val d n) : Nat) : Int) < 2) = false := decide_eq_false (by omega)
      have hA2 : 0 < val d n := by
        by_cases e : 0 < val d n
        · exact e
        · have : val d n = 0 := by omega
          rw [this, blen_zero] at hs
          omega
      have hq0 : 0 ≤ (59999 : Int) / k := Int.ediv_nonneg (by omega) (by omega)
      have hdiv : ∀ z : Int, z ≤ (59999 : Int) / k ↔ z * k ≤ 59999 := fun z => Int.le_ediv_iff_mul_le (by omega)
      by_cases hl : (59999 : Int) / k < ((blen (val d n) : Nat) : Int) - 1
      · have HL : Hid (P 2000 ≤ val d n ^ k) := by
          refine pow_long (L := blen (val d n)) (blen_pos hA2).2 ?_
          have h1 : ¬ (((blen (val d n) : Nat) : Int) - 1) * k ≤ 59999 := fun h => by have := (hdiv _).2 h; omega
          have h3 : ((((blen (val d n) - 1) * k : Nat)) : Int) = (((blen (val d n) : Nat) : Int) - 1) * k := by
            rw [Int.natCast_mul, Int.ofNat_sub (by omega)]; rfl
          omega
        have hl' : decide ((59999 : Int) / k < ((blen (val d n) : Nat) : Int) - 1) = true := decide_eq_true hl
        clear hdiv
        go_enter Tryd.func19, Tryd.ntmps19
        go_wp2_with fail
        refine (valid_any _ _ _ _ _ hR).mono ?_
        rintro e w' ⟨rfl, rfl⟩
        go_wp2_with fail
        refine (bitLength_any _ _ _ _ _ hR h2 (by omega)).mono ?_
        rintro e w' ⟨rfl, rfl⟩
        go_wp2_with fail
        go_quiet ((refine (bitLength_any _ _ _ _ _ (row_drewN hR) h2 (by omega)).mono ?_; rintro _ _ ⟨rfl, rfl⟩; exact ⟨rfl, _, rfl⟩))
        go_wp2
        go_ret2
        exact ⟨_, _, rfl, bDrewN (bel_refl _) _, .inr ⟨HL.out, rfl, rfl⟩⟩
      · have HL : Hid (val d n ^ k < P 5000) := by
          refine pow_fits (L := blen (val d n)) hA0 HBL.out (by omega) ?_
          have h1 := (hdiv (((blen (val d n) : Nat) : Int) - 1)).1 (by omega)
          have h3 : ((((blen (val d n) - 1) * k : Nat)) : Int) = (((blen (val d n) : Nat) : Int) - 1) * k := by
            rw [Int.natCast_mul, Int.ofNat_sub (by omega)]; rfl
          omega
        have hl' : decide ((59999 : Int) / k < ((blen (val d n) : Nat) : Int) - 1) = false := decide_eq_false hl
        clear hdiv
        go_enter Tryd.func19, Tryd.ntmps19
        go_wp2_with fail
        refine (valid_any _ _ _ _ _ hR).mono ?_
        rintro e w' ⟨rfl, rfl⟩
        go_wp2_with fail
        refine (bitLength_any _ _ _ _ _ hR h2 (by omega)).mono ?_
        rintro e w' ⟨rfl, rfl⟩
        go_wp2_with fail
        go_quiet ((refine (bitLength_any _ _ _ _ _ (row_drewN hR) h2 (by omega)).mono ?_; rintro _ _ ⟨rfl, rfl⟩; exact ⟨rfl, _, rfl⟩))
        have hb := bDrewN (bel_refl w') nq
        go_wp2_with fail
        refine (power_any ao n ca k _ _ (hx'.keeps hb) HK.out (by omega) HL.out HA5.out).mono ?_
        rintro e w2 ⟨v, rfl, hv⟩
        go_wp2_with fail
        refine (fit_ans (hv.from hb)).mono ?_
        rintro e w3 ⟨v', er, rfl, hF⟩
        go_wp2
        go_ret2
        exact ⟨_, _, rfl, hF⟩
end Go.Proofs.YtmbajngbiefilaaDoor

/-
  The document's own answers (plumbref2): Valid, trim, Two, Answer, Cmp, Add, Sub, by contracts over the same values.
-/
namespace Go.Proofs.YtmbajngbiefilaaDoor
open Go Go.RowKit Go.Proofs.YtmbajngbiefilaaDoor.M
set_option linter.unusedSimpArgs false
set_option linter.unusedVariables false

set_option maxHeartbeats 400000 in
theorem rvalid_any (ao : Option Addr) (n cap : Nat) (d : Nat → Int) (w : World) (h : Row w ao n cap d) :
    Calls Tryd.prog 13 #[.slice ao n cap] w fun e w' => e = .returned (.bool (okB d n)) ∧ w' = w := by
  have hl := h.le
  have hm := h.max
  by_cases h2k : n ≤ 2000
  · by_cases hz : 0 < n ∧ d (n - 1) = 0
    · obtain ⟨h0, hz⟩ := hz
      obtain ⟨b, off, rfl, hb, hc⟩ := h.spot h0
      have c := hc (n - 1) (by omega)
      have hzb : (d (n - 1) == 0) = true := by simp [hz]
      go_enter Tryd.func13, Tryd.ntmps13
      go_wp2
      go_ret
      exact ⟨ret_bool (okB_no (fun ⟨_, q⟩ => by rcases q.2 with e | e <;> omega)).symm, rfl⟩
    · have main : ∀ (P0 : Prop), P0 → Top d n := fun _ _ => by
        by_cases h0 : n = 0
        · exact .inl h0
        · exact .inr (fun e => hz ⟨by omega, e⟩)
      have htop := main True trivial
      clear main
      by_cases h0 : n = 0
      · subst h0
        go_enter Tryd.func13, Tryd.ntmps13
        go_wp2
        go_loop [3] (fun i => i = .int .i64 0) (fun _ => 0)
        case atStart => rfl
        case round =>
          subst hrel
          go_wp2
          go_ret
          exact ⟨ret_bool (okB_yes (by omega) ⟨fun i hi => by omega, htop⟩).symm, rfl⟩
      · obtain ⟨b, off, rfl, hb, hc⟩ := h.spot (by omega)
        have ct := hc (n - 1) (by omega)
        have hzb : (d (n - 1) == 0) = false := by simp; intro e; exact hz ⟨by omega, e⟩
        clear hz
        go_enter Tryd.func13, Tryd.ntmps13
        go_wp2
        go_loop [3] (fun i => ∃ k : Nat, k ≤ n ∧ i = .int .i64 k ∧ Dig d k) (fun i => n - (intOf i).toNat)
        case atStart => exact ⟨0, Nat.zero_le _, rfl, fun i hi => absurd hi (by omega)⟩
        case round =>
          obtain ⟨k, hk, rfl, hd⟩ := hrel
          by_cases hlt : k < n
          · have c := hc k hlt
            by_cases h0 : d k < 0
            · go_wp2
              go_ret
              exact ⟨ret_bool (okB_no (fun ⟨_, q⟩ => by have := (q.1 k hlt).1; omega)).symm, rfl⟩
            · by_cases h1 : 1073741824 ≤ d k
              · go_wp2
                go_ret
                exact ⟨ret_bool (okB_no (fun ⟨_, q⟩ => by have := (q.1 k hlt).2; omega)).symm, rfl⟩
              · go_wp2
                go_round
                case rel => exact ⟨k + 1, by omega, by go_num, dig_snoc hd (by omega) (by omega)⟩
                case measure => simp [intOf]; omega
          · obtain rfl : k = n := by omega
            go_wp2
            go_ret
            exact ⟨ret_bool (okB_yes h2k ⟨hd, htop⟩).symm, rfl⟩
  · go_enter Tryd.func13, Tryd.ntmps13
    go_wp2
    go_ret
    exact ⟨ret_bool (okB_no (fun ⟨q, _⟩ => h2k q)).symm, rfl⟩
set_option maxHeartbeats 400000 in
theorem rtrim_any (g n cap : Nat) (d : Nat → Int) (w : World) (h : Row w (some ⟨g, 0, none⟩) n cap d) :
    Calls Tryd.prog 73 #[.slice (some ⟨g, 0, none⟩) n cap] w fun e w' => ∃ t : Nat, t ≤ n ∧ Top d t ∧ (∀ i, t ≤ i → i < n → d i = 0) ∧ e = .returned (.slice (some ⟨g, 0, none⟩) t cap) ∧ w' = w := by
  have hl := h.le
  have hm := h.max
  go_enter Tryd.func73, Tryd.ntmps73
  go_wp2
  go_loop [3] (fun i => ∃ k : Nat, k ≤ n ∧ i = .int .i64 k ∧ ∀ i, k ≤ i → i < n → d i = 0) (fun i => (intOf i).toNat)
  case atStart => exact ⟨n, Nat.le_refl _, rfl, fun i a b => by omega⟩
  case round =>
    obtain ⟨k, hk, rfl, hz⟩ := hrel
    have HZ : Hid (∀ i, k ≤ i → i < n → d i = 0) := hz
    clear hz
    by_cases h0 : k = 0
    · subst h0
      go_wp2
      go_ret
      exact ⟨0, by omega, .inl rfl, HZ.out, by simp, rfl⟩
    · obtain ⟨b, off, eb, hb, hc⟩ := h.spot (by omega)
      simp only [Option.some.injEq, Addr.mk.injEq, and_true] at eb
      obtain ⟨rfl, rfl⟩ := eb
      have c := hc (k - 1) (by omega)
      rw [Nat.zero_add] at c
      by_cases h1 : d (k - 1) = 0
      · go_wp2
        go_round
        case rel => exact ⟨k - 1, by omega, by go_num, fun i a b => by by_cases e : i = k - 1; (· rw [e]; exact h1); (· exact HZ.out i (by omega) b)⟩
        case measure => simp [intOf]; omega
      · go_wp2
        go_ret
        exact ⟨k, hk, .inr h1, HZ.out, by simp, rfl⟩
theorem top_of {d : Nat → Int} {t : Nat} (hd : Dig d t) (h : 0 < t → P (t - 1) ≤ val d t) : Top d t := by
  by_cases h0 : t = 0
  · exact .inl h0
  · refine .inr fun e => ?_
    obtain ⟨k, rfl⟩ : ∃ k, t = k + 1 := ⟨t - 1, by omega⟩
    rw [Nat.add_sub_cancel] at e h
    have h1 := h (by omega)
    rw [val_succ, e] at h1
    have h2 := val_lt (hd.le (Nat.le_succ k))
    omega
theorem cat_upd (r : Nat → Int) (k : Nat) (x : Int) : ∀ i, i < k + 1 → cat r k (fun _ => x) i = upd r k x i := fun i hi => by
  by_cases e : i < k
  · simp [cat, e, upd_other r _ (show i ≠ k by omega)]
  · obtain rfl : i = k := by omega
    simp [cat, upd_same]
theorem dig_upd2 {r : Nat → Int} {k : Nat} {x : Int} (h : Dig r k) (hx : 0 ≤ x ∧ x < 1073741824) : Dig (upd r k x) (k + 1) := fun i hi => by
  by_cases e : i = k
  · rw [e, upd_same]; exact hx
  · rw [upd_other r x e]; exact h i (by omega)
set_option maxHeartbeats 1000000 in
theorem radd_any (ao bo : Option Addr) (n m ca cb : Nat) (a b : Nat → Int) (w : World) (ha : Row w ao n ca a) (hb : Row w bo m cb b) (na : Nrm a n) (nb : Nrm b m) (hn : n ≤ 100000) (hm : m ≤ 100000) :
    Calls Tryd.prog 51 #[.slice ao n ca, .slice bo m cb] w fun e w' => ∃ v, e = .returned v ∧ Ans w w' (val a n + val b m) v := by
  have hla := ha.le
  have hma := ha.max
  have hlb := hb.le
  have hmb := hb.max
  have da := na.1
  have db := nb.1
  obtain ⟨M, hM1, hM2, hM3⟩ : ∃ M, n ≤ M ∧ m ≤ M ∧ (M ≤ n ∨ M ≤ m) := ⟨max n m, by omega, by omega, by omega⟩
  go_enter Tryd.func51, Tryd.ntmps51
  go_wp2
  go_loopw [5, 6, 7] (fun l c i wr => ∃ (k : Nat) (q : Int) (r : Nat → Int), (k ≤ M ∨ (k = M + 1 ∧ q = 0)) ∧ i = .int .i64 k ∧ c = .int .i64 q ∧ 0 ≤ q ∧ q ≤ 1 ∧ Out w.heap.size wr l k r ∧ Dig r k ∧ Hid (val r k + q * P k = val (ext a n) k + val (ext b m) k) ∧ Hid (k = M + 1 → P M ≤ val a n + val b m) ∧ Below w.heap.size w wr) (fun _ _ i _ => M + 1 - (intOf i).toNat)
  case atStart => exact ⟨0, 0, fun _ => 0, .inl (Nat.zero_le _), rfl, rfl, by omega, by omega, Out.nil _ _ _, fun i hi => by omega, by show _ = _; rfl, fun h => by omega, bel_refl _⟩
  case round =>
    obtain ⟨k, q, r, hk, rfl, rfl, hq0, hq1, hO, hD, HV, HT, hbw⟩ := hrel
    have hkM : k ≤ M + 1 := by omega
    by_cases hkn : k < n
    · by_cases hkm : k < m
      · obtain ⟨ba, fa, rfl, hba, hca⟩ := ha.spot (by omega)
        have c1 := (hbw.cell (p := ⟨ba, fa + k, none⟩) hba).trans (hca k hkn)
        have dk := da k hkn
        obtain ⟨bb, fb, rfl, hbb, hcb⟩ := hb.spot (by omega)
        have c2 := (hbw.cell (p := ⟨bb, fb + k, none⟩) hbb).trans (hcb k hkm)
        have dbk := db k hkm
        have HX : Hid (q + a k + b k = q + (ext a n k + ext b m k)) := by show _ = _; rw [ext_lt a hkn, ext_lt b hkm]; omega
        go_wp2_with (at_builtin; refine wpList_app rfl _ _ rfl w.heap.size _ k r rfl (hO.stays (bel_alloc _ _)) _ 1 1 (fun _ => (q + a k + b k) % 1073741824) rfl (row1 _ _ rfl) (by omega) (by have := hbw.size; simp; omega) ?_; intro v' w1 hO1 hg1)
        have hb1 : Below w.heap.size w w1 := (hbw.alloc hbw.size _).grown hg1 (by have := hbw.size; simp; omega) (own_ge hO)
        have hs := sum_step (x := ext a n k + ext b m k) HV.out
        rw [← HX.out] at hs
        go_roundw
        case rel => exact ⟨k + 1, (q + a k + b k) / 1073741824, upd r k ((q + a k + b k) % 1073741824), by omega, by go_num, rfl, by omega, by omega, hO1.congr (cat_upd r k _), dig_upd2 hD (mod_dig _), by show _ = _; rw [hs, val_succ, val_succ]; grind, fun h => by omega, hb1⟩
        case measure => simp [intOf]; omega
      · obtain ⟨ba, fa, rfl, hba, hca⟩ := ha.spot (by omega)
        have c1 := (hbw.cell (p := ⟨ba, fa + k, none⟩) hba).trans (hca k hkn)
        have dk := da k hkn
        have HX : Hid (q + a k = q + (ext a n k + ext b m k)) := by show _ = _; rw [ext_lt a hkn, ext_ge b (by omega)]; omega
        go_wp2_with (at_builtin; refine wpList_app rfl _ _ rfl w.heap.size _ k r rfl (hO.stays (bel_alloc _ _)) _ 1 1 (fun _ => (q + a k) % 1073741824) rfl (row1 _ _ rfl) (by omega) (by have := hbw.size; simp; omega) ?_; intro v' w1 hO1 hg1)
        have hb1 : Below w.heap.size w w1 := (hbw.alloc hbw.size _).grown hg1 (by have := hbw.size; simp; omega) (own_ge hO)
        have hs := sum_step (x := ext a n k + ext b m k) HV.out
        rw [← HX.out] at hs
        go_roundw
        case rel => exact ⟨k + 1, (q + a k) / 1073741824, upd r k ((q + a k) % 1073741824), by omega, by go_num, rfl, by omega, by omega, hO1.congr (cat_upd r k _), dig_upd2 hD (mod_dig _), by show _ = _; rw [hs, val_succ, val_succ]; grind, fun h => by omega, hb1⟩
        case measure => simp [intOf]; omega
    · by_cases hkm : k < m
      · obtain ⟨bb, fb, rfl, hbb, hcb⟩ := hb.spot (by omega)
        have c2 := (hbw.cell (p := ⟨bb, fb + k, none⟩) hbb).trans (hcb k hkm)
        have dbk := db k hkm
        have HX : Hid (q + b k = q + (ext a n k + ext b m k)) := by show _ = _; rw [ext_ge a (by omega), ext_lt b hkm]; omega
        go_wp2_with (at_builtin; refine wpList_app rfl _ _ rfl w.heap.size _ k r rfl (hO.stays (bel_alloc _ _)) _ 1 1 (fun _ => (q + b k) % 1073741824) rfl (row1 _ _ rfl) (by omega) (by have := hbw.size; simp; omega) ?_; intro v' w1 hO1 hg1)
        have hb1 : Below w.heap.size w w1 := (hbw.alloc hbw.size _).grown hg1 (by have := hbw.size; simp; omega) (own_ge hO)
        have hs := sum_step (x := ext a n k + ext b m k) HV.out
        rw [← HX.out] at hs
        go_roundw
        case rel => exact ⟨k + 1, (q + b k) / 1073741824, upd r k ((q + b k) % 1073741824), by omega, by go_num, rfl, by omega, by omega, hO1.congr (cat_upd r k _), dig_upd2 hD (mod_dig _), by show _ = _; rw [hs, val_succ, val_succ]; grind, fun h => by omega, hb1⟩
        case measure => simp [intOf]; omega
      · by_cases hq : 0 < q
        · have hkE : k = M := by omega
          have HTT : Hid (P M ≤ val a n + val b m) := by
            show _ ≤ _
            have h := HV.out
            rw [val_ext a (by omega), val_ext b (by omega), show q = 1 by omega, hkE] at h
            have := val_nonneg hD
            rw [hkE] at this
            omega
          have HX : Hid (q = q + (ext a n k + ext b m k)) := by show _ = _; rw [ext_ge a (by omega), ext_ge b (by omega)]; omega
          go_wp2_with (at_builtin; refine wpList_app rfl _ _ rfl w.heap.size _ k r rfl (hO.stays (bel_alloc _ _)) _ 1 1 (fun _ => (q) % 1073741824) rfl (row1 _ _ rfl) (by omega) (by have := hbw.size; simp; omega) ?_; intro v' w1 hO1 hg1)
          have hb1 : Below w.heap.size w w1 := (hbw.alloc hbw.size _).grown hg1 (by have := hbw.size; simp; omega) (own_ge hO)
          have hs := sum_step (x := ext a n k + ext b m k) HV.out
          rw [← HX.out] at hs
          go_roundw
          case rel => exact ⟨k + 1, (q) / 1073741824, upd r k ((q) % 1073741824), by omega, by go_num, rfl, by omega, by omega, hO1.congr (cat_upd r k _), dig_upd2 hD (mod_dig _), by show _ = _; rw [hs, val_succ, val_succ]; grind, fun h => HTT.out, hb1⟩
          case measure => simp [intOf]; omega
        · obtain rfl : q = 0 := by omega
          have hkMM : M ≤ k := by omega
          have hcd : decide ((0 : Int) < 0) = false := by decide
          go_wp2
          go_ret
          have hv : val r k = val a n + val b m := by
            have h := HV.out
            rw [val_ext a (by omega), val_ext b (by omega)] at h
            omega
          refine ⟨_, rfl, k, r, hO, ⟨hD, top_of hD fun hk0 => ?_⟩, hv, hbw⟩
          rw [hv]
          have A0 := val_nonneg da
          have B0 := val_nonneg db
          rcases hk with h | ⟨h, _⟩
          · obtain rfl : k = M := by omega
            rcases hM3 with q | q
            · obtain rfl : k = n := by omega
              have := val_top da hk0 na.2
              omega
            · obtain rfl : k = m := by omega
              have := val_top db hk0 nb.2
              omega
          · rw [h, Nat.add_sub_cancel]; exact HT.out h
end Go.Proofs.YtmbajngbiefilaaDoor

/-
  The document's own answers (plumbref2): fits, Answer, From, Cmp, Sub, Mul, by contracts over the same values.
-/
namespace Go.Proofs.YtmbajngbiefilaaDoor
open Go Go.RowKit Go.Proofs.YtmbajngbiefilaaDoor.M
set_option linter.unusedSimpArgs false
set_option linter.unusedVariables false

theorem rfits_any (ao : Option Addr) (t cap : Nat) (w : World) : Calls Tryd.prog 75 #[.slice ao t cap] w fun e w' => e = .returned (.int .i64 (fitE t)) ∧ w' = w := by
  by_cases h : 2000 < t
  · go_enter Tryd.func75, Tryd.ntmps75
    go_wp2
    go_ret
    exact ⟨by simp [fitE, h], rfl⟩
  · go_enter Tryd.func75, Tryd.ntmps75
    go_wp2
    go_ret
    exact ⟨by simp [fitE, h], rfl⟩
theorem ranswer_any (ao : Option Addr) (t cap : Nat) (w : World) : Calls Tryd.prog 72 #[.slice ao t cap] w fun e w' => e = .returned (.tuple #[fitV ao t cap, .int .i64 (fitE t)]) ∧ w' = w := by
  by_cases h : 2000 < t
  · have h2 : (fitE t != 0) = true := by simp [fitE, h]
    go_enter Tryd.func72, Tryd.ntmps72
    go_wp2_with (go_at_call 75; refine (rfits_any _ _ _ _).mono ?_; rintro e w' ⟨rfl, rfl⟩)
    go_ret2
    exact ⟨by simp [fitV, fitE, h], rfl⟩
  · have h2 : (fitE t != 0) = false := by simp [fitE, h]
    go_enter Tryd.func72, Tryd.ntmps72
    go_wp2_with (go_at_call 75; refine (rfits_any _ _ _ _).mono ?_; rintro e w' ⟨rfl, rfl⟩)
    go_ret2
    exact ⟨by simp [fitV, fitE, h], rfl⟩
theorem rtrim_out {B : Nat} {w : World} {v : Value} {n : Nat} {d : Nat → Int} (h : Out B w v n d) :
    Calls Tryd.prog 73 #[v] w fun e w' => ∃ v', e = .returned v' ∧ ∃ t, t ≤ n ∧ Top d t ∧ (∀ i, t ≤ i → i < n → d i = 0) ∧ Out B w v' t d ∧ w' = w := by
  have h0 := h
  rcases h.2 with ⟨rfl, rfl⟩ | ⟨g, cap, cur, rfl, hb, hg, hn, hm, hs, ht⟩
  · go_enter Tryd.func73, Tryd.ntmps73
    go_wp2
    go_loop [3] (fun i => i = .int .i64 0) (fun i => 0)
    case atStart => rfl
    case round =>
      subst hrel
      go_wp2
      go_ret
      exact ⟨_, rfl, .inl rfl, Out.nil _ _ _, rfl⟩
  · obtain ⟨ao, c, e, hR⟩ := h0.row
    simp only [Value.slice.injEq] at e
    obtain ⟨rfl, _, rfl⟩ := e
    refine (rtrim_any g n cap d w hR).mono ?_
    rintro e w' ⟨t, h1, h2, h3, rfl, rfl⟩
    exact ⟨_, rfl, t, h1, h2, h3, h0.cut h1, rfl⟩
theorem rtrim_ans {w0 w : World} {v : Value} {n : Nat} {d : Nat → Int} (h : Out w0.heap.size w v n d) (hd : Dig d n) (hb : Below w0.heap.size w0 w) :
    Calls Tryd.prog 73 #[v] w fun e w' => ∃ v', e = .returned v' ∧ Ans w0 w (val d n) v' ∧ w' = w := by
  refine (rtrim_out h).mono ?_
  rintro e w' ⟨v', rfl, t, ht, htop, hz, hO, rfl⟩
  obtain ⟨hN, hv⟩ := nrm_of_top hd ht htop hz
  exact ⟨v', rfl, ⟨t, d, hO, hN, hv, hb⟩, rfl⟩
set_option maxHeartbeats 1000000 in
theorem rcmp_any (ao bo : Option Addr) (n m ca cb : Nat) (a b : Nat → Int) (w : World) (ha : Row w ao n ca a) (hb : Row w bo m cb b) (na : Nrm a n) (nb : Nrm b m) :
    Calls Tryd.prog 52 #[.slice ao n ca, .slice bo m cb] w fun e w' => e = .returned (.int .i64 (ord (val a n) (val b m))) ∧ Below w.heap.size w w' := by
  have hla := ha.le
  have hma := ha.max
  have hlb := hb.le
  have hmb := hb.max
  by_cases hnm : n = m
  · subst hnm
    go_enter Tryd.func52, Tryd.ntmps52
    go_wp2
    go_loopw [5] (fun i wr => ∃ k : Nat, k ≤ n ∧ i = .int .i64 ((k : Int) - 1) ∧ Hid (∀ i, k ≤ i → i < n → a i = b i) ∧ Below w.heap.size w wr) (fun i _ => (intOf i + 1).toNat)
    case atStart => exact ⟨n, Nat.le_refl _, rfl, fun i _ _ => by omega, bel_refl _⟩
    case round =>
      obtain ⟨k, hk, rfl, HS, hbw⟩ := hrel
      by_cases hlt : 0 < k
      · obtain ⟨j, rfl⟩ : ∃ j, k = j + 1 := ⟨k - 1, by omega⟩
        have ej : ((j + 1 : Nat) : Int) - 1 = j := by omega
        obtain ⟨ba, fa, rfl, hba, hca⟩ := ha.spot (by omega)
        obtain ⟨bb, fb, rfl, hbb, hcb⟩ := hb.spot (by omega)
        have c1 := (hbw.cell (p := ⟨ba, fa + j, none⟩) hba).trans (hca j (by omega))
        have c2 := (hbw.cell (p := ⟨bb, fb + j, none⟩) hbb).trans (hcb j (by omega))
        rw [ej]
        by_cases h1 : a j < b j
        · go_wp2
          go_quiet (fail)
          go_wp2
          go_ret
          exact ⟨ret_int ((ord_lt h1).symm.trans (ord_top na.1 nb.1 (show j < n by omega) (fun i x y => HS.out i (by omega) y) (by omega))), bDrewN hbw _⟩
        · by_cases h2 : b j < a j
          · go_wp2
            go_quiet (fail)
            go_wp2
            go_quiet (fail)
            go_wp2
            go_ret
            exact ⟨ret_int ((ord_gt h2).symm.trans (ord_top na.1 nb.1 (show j < n by omega) (fun i x y => HS.out i (by omega) y) (by omega))), bDrewN (bDrewN hbw _) _⟩
          · go_wp2
            go_quiet (fail)
            go_wp2
            go_quiet (fail)
            go_wp2
            go_roundw
            case rel => exact ⟨j, by omega, by go_num, fun i x y => by by_cases e : i = j; (· rw [e]; omega); (· exact HS.out i (by omega) y), bDrewN hbw _⟩
            case measure => simp [intOf]; try omega
      · obtain rfl : k = 0 := by omega
        go_wp2
        go_ret
        exact ⟨ret_int (ord_eq (val_congr fun i hi => HS.out i (by omega) hi)).symm, hbw⟩
  · by_cases hlt : n < m
    · go_enter Tryd.func52, Tryd.ntmps52
      go_wp2
      go_ret
      exact ⟨ret_int (ord_lt (nrm_lt na.1 nb hlt)).symm, bel_refl _⟩
    · go_enter Tryd.func52, Tryd.ntmps52
      go_wp2
      go_ret
      exact ⟨ret_int (ord_gt (nrm_lt nb.1 na (by omega))).symm, bel_refl _⟩
set_option maxHeartbeats 2000000 in
theorem rsub_any (ao bo : Option Addr) (n m ca cb : Nat) (a b : Nat → Int) (w : World) (ha : Row w ao n ca a) (hb : Row w bo m cb b) (na : Nrm a n) (nb : Nrm b m) (hn : n ≤ 100000) (hle : val b m ≤ val a n) :
    Calls Tryd.prog 74 #[.slice ao n ca, .slice bo m cb] w fun e w' => ∃ v, e = .returned v ∧ Ans w w' (val a n - val b m) v := by
  have hla := ha.le
  have hma := ha.max
  have hlb := hb.le
  have hmb := hb.max
  have da := na.1
  have db := nb.1
  have hmn : m ≤ n := nrm_le_len nb da hle
  have HLE : Hid (val b m ≤ val a n) := hle
  clear hle
  go_enter Tryd.func74, Tryd.ntmps74
  go_wp2
  go_loopw [5, 6, 7] (fun l c i wr => ∃ (k : Nat) (q : Int) (r : Nat → Int), k ≤ n ∧ i = .int .i64 k ∧ c = .int .i64 q ∧ 0 ≤ q ∧ q ≤ 1 ∧ Out w.heap.size wr l k r ∧ Dig r k ∧ Hid (val r k - q * P k = val (ext a n) k - val (ext b m) k) ∧ Below w.heap.size w wr) (fun _ _ i _ => n - (intOf i).toNat)
  case atStart => exact ⟨0, 0, fun _ => 0, Nat.zero_le _, rfl, rfl, by omega, by omega, Out.nil _ _ _, fun i hi => by omega, by show _ = _; rfl, bel_refl _⟩
  case round =>
    obtain ⟨k, q, r, hk, rfl, rfl, hq0, hq1, hO, hD, HV, hbw⟩ := hrel
    by_cases hkn : k < n
    · obtain ⟨ba, fa, rfl, hba, hca⟩ := ha.spot (by omega)
      have c1 := (hbw.cell (p := ⟨ba, fa + k, none⟩) hba).trans (hca k hkn)
      have dk := da k hkn
      by_cases hkm : k < m
      · obtain ⟨bb, fb, rfl, hbb, hcb⟩ := hb.spot (by omega)
        have c2 := (hbw.cell (p := ⟨bb, fb + k, none⟩) hbb).trans (hcb k hkm)
        have dbk := db k hkm
        have HX : Hid (-q + (ext a n k - ext b m k) = a k - q - b k) := by show _ = _; rw [ext_lt a hkn, ext_lt b hkm]; omega
        by_cases hneg : a k - q - b k < 0
        · go_wp2_with (at_builtin; refine wpList_app rfl _ _ rfl w.heap.size _ k r rfl (hO.stays (bel_alloc _ _)) _ 1 1 (fun _ => (a k - q - b k + 1073741824)) rfl (row1 _ _ rfl) (by omega) (by have := hbw.size; simp; omega) ?_; intro v' w1 hO1 hg1)
          have hb1 : Below w.heap.size w w1 := (hbw.alloc hbw.size _).grown hg1 (by have := hbw.size; simp; omega) (own_ge hO)
          have hs := sum_step (c := -q) (x := ext a n k - ext b m k) (r := r) (k := k) (V := val (ext a n) k - val (ext b m) k) (by have := HV.out; rw [Int.neg_mul]; omega)
          rw [show -q + (ext a n k - ext b m k) = a k - q - b k from HX.out, show (a k - q - b k) % 1073741824 = (a k - q - b k + 1073741824) by omega, show (a k - q - b k) / 1073741824 = -1 by omega] at hs
          go_roundw
          case rel => exact ⟨k + 1, 1, upd r k (a k - q - b k + 1073741824), by omega, by go_num, rfl, by omega, by omega, hO1.congr (cat_upd r k _), dig_upd2 hD (by omega), by show _ = _; rw [val_succ (ext a n), val_succ (ext b m)]; rw [Int.sub_mul] at hs; omega, hb1⟩
          case measure => simp [intOf]; omega
        · go_wp2_with (at_builtin; refine wpList_app rfl _ _ rfl w.heap.size _ k r rfl (hO.stays (bel_alloc _ _)) _ 1 1 (fun _ => (a k - q - b k)) rfl (row1 _ _ rfl) (by omega) (by have := hbw.size; simp; omega) ?_; intro v' w1 hO1 hg1)
          have hb1 : Below w.heap.size w w1 := (hbw.alloc hbw.size _).grown hg1 (by have := hbw.size; simp; omega) (own_ge hO)
          have hs := sum_step (c := -q) (x := ext a n k - ext b m k) (r := r) (k := k) (V := val (ext a n) k - val (ext b m) k) (by have := HV.out; rw [Int.neg_mul]; omega)
          rw [show -q + (ext a n k - ext b m k) = a k - q - b k from HX.out, show (a k - q - b k) % 1073741824 = (a k - q - b k) by omega, show (a k - q - b k) / 1073741824 = -0 by omega] at hs
          go_roundw
          case rel => exact ⟨k + 1, 0, upd r k (a k - q - b k), by omega, by go_num, rfl, by omega, by omega, hO1.congr (cat_upd r k _), dig_upd2 hD (by omega), by show _ = _; rw [val_succ (ext a n), val_succ (ext b m)]; rw [Int.sub_mul] at hs; omega, hb1⟩
          case measure => simp [intOf]; omega
      · have HX : Hid (-q + (ext a n k - ext b m k) = a k - q) := by show _ = _; rw [ext_lt a hkn, ext_ge b (by omega)]; omega
        by_cases hneg : a k - q < 0
        · go_wp2_with (at_builtin; refine wpList_app rfl _ _ rfl w.heap.size _ k r rfl (hO.stays (bel_alloc _ _)) _ 1 1 (fun _ => (a k - q + 1073741824)) rfl (row1 _ _ rfl) (by omega) (by have := hbw.size; simp; omega) ?_; intro v' w1 hO1 hg1)
          have hb1 : Below w.heap.size w w1 := (hbw.alloc hbw.size _).grown hg1 (by have := hbw.size; simp; omega) (own_ge hO)
          have hs := sum_step (c := -q) (x := ext a n k - ext b m k) (r := r) (k := k) (V := val (ext a n) k - val (ext b m) k) (by have := HV.out; rw [Int.neg_mul]; omega)
          rw [show -q + (ext a n k - ext b m k) = a k - q from HX.out, show (a k - q) % 1073741824 = (a k - q + 1073741824) by omega, show (a k - q) / 1073741824 = -1 by omega] at hs
          go_roundw
          case rel => exact ⟨k + 1, 1, upd r k (a k - q + 1073741824), by omega, by go_num, rfl, by omega, by omega, hO1.congr (cat_upd r k _), dig_upd2 hD (by omega), by show _ = _; rw [val_succ (ext a n), val_succ (ext b m)]; rw [Int.sub_mul] at hs; omega, hb1⟩
          case measure => simp [intOf]; omega
        · go_wp2_with (at_builtin; refine wpList_app rfl _ _ rfl w.heap.size _ k r rfl (hO.stays (bel_alloc _ _)) _ 1 1 (fun _ => (a k - q)) rfl (row1 _ _ rfl) (by omega) (by have := hbw.size; simp; omega) ?_; intro v' w1 hO1 hg1)
          have hb1 : Below w.heap.size w w1 := (hbw.alloc hbw.size _).grown hg1 (by have := hbw.size; simp; omega) (own_ge hO)
          have hs := sum_step (c := -q) (x := ext a n k - ext b m k) (r := r) (k := k) (V := val (ext a n) k - val (ext b m) k) (by have := HV.out; rw [Int.neg_mul]; omega)
          rw [show -q + (ext a n k - ext b m k) = a k - q from HX.out, show (a k - q) % 1073741824 = (a k - q) by omega, show (a k - q) / 1073741824 = -0 by omega] at hs
          go_roundw
          case rel => exact ⟨k + 1, 0, upd r k (a k - q), by omega, by go_num, rfl, by omega, by omega, hO1.congr (cat_upd r k _), dig_upd2 hD (by omega), by show _ = _; rw [val_succ (ext a n), val_succ (ext b m)]; rw [Int.sub_mul] at hs; omega, hb1⟩
          case measure => simp [intOf]; omega
    · obtain rfl : k = n := by omega
      have HD : Hid (Dig r k ∧ val r k = val a k - val b m) := by
        refine ⟨hD, ?_⟩
        have h1 := HV.out
        rw [val_ext a (Nat.le_refl _), val_ext b hmn] at h1
        have h2 := val_lt hD
        have h3 := HLE.out
        have hp := P_pos k
        rcases (show q = 0 ∨ q = 1 by omega) with e | e
        · subst e; omega
        · subst e; omega
      go_wp2_with (go_at_call 73; refine (rtrim_ans hO hD hbw).mono ?_; rintro e w3 ⟨v', rfl, hA, rfl⟩)
      go_ret
      exact ⟨_, rfl, by rw [← HD.out.2]; exact hA⟩
set_option maxHeartbeats 2000000 in
theorem rmul_any (ao bo : Option Addr) (n m ca cb : Nat) (a b : Nat → Int) (w : World) (ha : Row w ao n ca a) (hb : Row w bo m cb b) (na : Nrm a n) (nb : Nrm b m) (hn : n ≤ 100000) (hm : m ≤ 100000) :
    Calls Tryd.prog 50 #[.slice ao n ca, .slice bo m cb] w fun e w' => ∃ v, e = .returned v ∧ Ans w w' (val a n * val b m) v := by
  have hla := ha.le
  have hma := ha.max
  have hlb := hb.le
  have hmb := hb.max
  have da := na.1
  have db := nb.1
  by_cases hn0 : n = 0
  · subst hn0
    go_enter Tryd.func50, Tryd.ntmps50
    go_wp2
    go_ret
    exact ⟨_, rfl, by rw [show val a 0 * val b m = 0 from Int.zero_mul _]; exact Ans.nil (bel_refl _)⟩
  · by_cases hm0 : m = 0
    · subst hm0
      go_enter Tryd.func50, Tryd.ntmps50
      go_wp2
      go_ret
      exact ⟨_, rfl, by rw [show val a n * val b 0 = 0 from Int.mul_zero _]; exact Ans.nil (bel_refl _)⟩
    · have e1 : ((n : Int) == 0) = false := by simp; omega
      have e2 : ((m : Int) == 0) = false := by simp; omega
      go_enter Tryd.func50, Tryd.ntmps50
      go_wp2_with (at_make; refine wpList_mk rfl _ _ rfl _ _ (n + m) rfl rfl (by omega) (by omega) (by omega) ?_; intro w1 hB1 hb1)
      go_loopw [6] (fun i wr => ∃ (k : Nat) (r : Nat → Int), k ≤ n ∧ i = .int .i64 k ∧ Blk wr w.heap.size (n + m) r ∧ Dig r (n + m) ∧ Hid (∀ t, k + m ≤ t → r t = 0) ∧ Hid (val r (k + m) = val a k * val b m) ∧ Below w.heap.size w wr) (fun i _ => n - (intOf i).toNat)
      case atStart => exact ⟨0, fun _ => 0, Nat.zero_le _, rfl, hB1, zero_dig _, fun _ _ => rfl, by show _ = _; rw [val_zeros (Nat.zero_le (0 + m)) (fun _ _ _ => rfl)]; show 0 = 0 * val b m; omega, hb1⟩
      case round =>
        obtain ⟨i, r0, hi, rfl, hB0, hD0, HZ0, HV0, hbw0⟩ := hrel
        by_cases hlt : i < n
        · obtain ⟨ba, fa, rfl, hba, hca⟩ := ha.spot (by omega)
          have dai := da i hlt
          go_wp2
          go_loopw [7, 8] (fun c j wr => ∃ (k : Nat) (q : Int) (r : Nat → Int), k ≤ m ∧ j = .int .i64 k ∧ c = .int .i64 q ∧ 0 ≤ q ∧ q < 1073741824 ∧ Blk wr w.heap.size (n + m) r ∧ Dig r (n + m) ∧ Hid (∀ t, i + k ≤ t → r t = r0 t) ∧ Hid (val r (i + k) + q * P (i + k) = val r0 (i + k) + a i * val b k * P i) ∧ Below w.heap.size w wr) (fun _ j _ => m - (intOf j).toNat)
          case atStart => exact ⟨0, 0, r0, Nat.zero_le _, rfl, rfl, by omega, by omega, hB0, hD0, fun _ _ => rfl, by show _ = _; show val r0 i + 0 * P i = val r0 i + a i * 0 * P i; grind, hbw0⟩
          case round =>
            obtain ⟨k, q, r, hk, rfl, rfl, hq0, hq1, hB, hD, HS, HV, hbw⟩ := hrel
            have c1 := (hbw.cell (p := ⟨ba, fa + i, none⟩) hba).trans (hca i hlt)
            by_cases hkm : k < m
            · obtain ⟨bb, fb, rfl, hbb, hcb⟩ := hb.spot (by omega)
              have c2 := (hbw.cell (p := ⟨bb, fb + k, none⟩) hbb).trans (hcb k hkm)
              have c3 := hB.cell (show i + k < n + m by omega)
              have fg := hB.frozen (i + k)
              have drk := hD (i + k) (by omega)
              have hmul := dig_mul dai (db k hkm)
              go_wp2
              go_quiet (fail)
              go_wp2
              have hs := mul_step (b := b) (j := k) HV.out (HS.out (i + k) (Nat.le_refl _))
              rw [show q + (a i * b k + r (i + k)) = r (i + k) + a i * b k + q by omega] at hs
              go_roundw
              case rel => exact ⟨k + 1, (r (i + k) + a i * b k + q) / 1073741824, upd r (i + k) ((r (i + k) + a i * b k + q) % 1073741824), by omega, by go_num, rfl, by omega, by omega, hB.store (i + k) _, hD.upd _ (mod_dig _), fun t ht => by rw [upd_other r _ (by omega)]; exact HS.out t (by omega), hs, (bDrewN hbw _).setCell (Nat.le_refl _) _⟩
              case measure => simp [intOf]; omega
            · obtain rfl : k = m := by omega
              have c3 := hB.cell (show i + k < n + k by omega)
              have fg := hB.frozen (i + k)
              go_wp2
              have hr := mul_row HV.out HV0.out
              go_roundw
              case rel => exact ⟨i + 1, upd r (i + k) q, by omega, by go_num, hB.store (i + k) _, hD.upd _ ⟨hq0, hq1⟩, fun t ht => by rw [upd_other r _ (by omega), HS.out t (by omega)]; exact HZ0.out t (by omega), by show _ = _; rw [hr, val_succ], hbw.setCell (Nat.le_refl _) _⟩
              case measure => simp [intOf]; omega
        · obtain rfl : i = n := by omega
          go_wp2_with (go_at_call 73; refine (rtrim_ans (hB0.out (Nat.le_refl _) (Nat.le_refl _) (by omega)) hD0 hbw0).mono ?_; rintro e w3 ⟨v', rfl, hA, rfl⟩)
          go_ret
          exact ⟨_, rfl, by rw [← HV0.out]; exact hA⟩
end Go.Proofs.YtmbajngbiefilaaDoor

/-
  The document's own answers (plumbref2): From, Bits, Bit, Shl, Shr, by contracts over the same values.
-/
namespace Go.Proofs.YtmbajngbiefilaaDoor
open Go Go.RowKit Go.Proofs.YtmbajngbiefilaaDoor.M
set_option linter.unusedSimpArgs false
set_option linter.unusedVariables false

theorem blen_half {x : Int} (h : 0 < x) : blen x = blen (x / 2) + 1 := by
  obtain ⟨h1, h2⟩ := blen_pos h
  have h3 := blen_lt x
  obtain ⟨k, hk⟩ : ∃ k, blen x = k + 1 := ⟨blen x - 1, by omega⟩
  rw [hk] at h2 h3 ⊢
  rw [Nat.add_sub_cancel] at h2
  rw [Int.pow_succ] at h3
  cases k with
  | zero =>
    have : x = 1 := by simp at h3 h2; omega
    subst this; decide
  | succ j =>
    rw [Int.pow_succ] at h2
    have e1 : (2 : Int) ^ j ≤ x / 2 := by omega
    have e2 : x / 2 < 2 ^ (j + 1) := by omega
    rw [blen_of e1 e2]
set_option maxHeartbeats 400000 in
theorem rbits_any (ao : Option Addr) (n cap : Nat) (d : Nat → Int) (w : World) (h : Row w ao n cap d) (hd : Nrm d n) (hn : n ≤ 1000000) :
    Calls Tryd.prog 24 #[.slice ao n cap] w fun e w' => e = .returned (.int .i64 (blen (val d n))) ∧ w' = w := by
  have hl := h.le
  have hm := h.max
  by_cases h0 : n = 0
  · subst h0
    go_enter Tryd.func24, Tryd.ntmps24
    go_wp2
    go_ret
    exact ⟨rfl, rfl⟩
  · obtain ⟨k, rfl⟩ : ∃ k, n = k + 1 := ⟨n - 1, by omega⟩
    obtain ⟨b, off, rfl, hb, hc⟩ := h.spot (by omega)
    have c := hc k (by omega)
    have dk := hd.1 k (by omega)
    have HV : Hid (blen (val d (k + 1)) = 30 * k + blen (d k)) := blen_val hd
    have hbl : blen (d k) ≤ 30 := blen_le (by show d k < 1073741824; exact dk.2)
    go_enter Tryd.func24, Tryd.ntmps24
    go_wp2
    go_loop [3, 4] (fun s v => ∃ (x : Int) (t : Nat), s = .int .i64 t ∧ v = .int .i64 x ∧ 0 ≤ x ∧ x < 1073741824 ∧ t ≤ 30 * k + 30 ∧ Hid (t + blen x = 30 * k + blen (d k))) (fun _ v => (intOf v).toNat)
    case atStart => exact ⟨d k, 30 * k, by go_num, rfl, dk.1, dk.2, by omega, rfl⟩
    case round =>
      obtain ⟨x, t, rfl, rfl, hx0, hx1, ht, HT⟩ := hrel
      by_cases hp : 0 < x
      · have ht2 : t + 1 ≤ 30 * k + 30 := by have := HT.out; have := blen_half hp; omega
        go_wp2
        go_round
        case rel => exact ⟨x / 2, t + 1, by go_num, rfl, by omega, by omega, ht2, by show _ = _; have := HT.out; have := blen_half hp; omega⟩
        case measure => simp [intOf]; omega
      · obtain rfl : x = 0 := by omega
        go_wp2
        go_ret
        exact ⟨ret_int (by have := HT.out; rw [blen_zero] at this; rw [HV.out]; omega), rfl⟩
theorem rbit_any (ao : Option Addr) (n cap : Nat) (d : Nat → Int) (w : World) (h : Row w ao n cap d) (hd : Nrm d n) (hn : n ≤ 100000) (i : Nat) (hi : i ≤ 4000000) :
    Calls Tryd.prog 16 #[.slice ao n cap, .int .i64 i] w fun e w' => e = .returned (.bool (bitB (val d n) i)) ∧ w' = w := by
  have hl := h.le
  have hm := h.max
  obtain ⟨q, p, hq, hp⟩ : ∃ q p : Nat, i = 30 * q + p ∧ p < 30 := ⟨i / 30, i % 30, by omega, by omega⟩
  have e1 : (i : Int) / 30 = q := by omega
  have e2 : (i : Int) % 30 = p := by omega
  by_cases hqn : q < n
  · have HV : Hid (bitB (val d n) i = (d q / 2 ^ p % 2 == 1)) := by unfold bitB; show _ = _; rw [hq, bit_val hd.1 hqn hp]
    clear hq
    obtain ⟨b, off, rfl, hb, hc⟩ := h.spot (by omega)
    have c := hc q hqn
    have dq := hd.1 q hqn
    have hd0 : 0 ≤ d q / 2 ^ p := Int.ediv_nonneg dq.1 (Int.le_of_lt (two_pos p))
    go_enter Tryd.func16, Tryd.ntmps16
    go_wp2
    go_ret
    exact ⟨ret_bool HV.out.symm, rfl⟩
  · have HV : Hid (bitB (val d n) i = false) := bit_high (val_nonneg hd.1) (by
      refine Nat.le_trans (blen_le (k := 30 * n) (by rw [← P_two]; exact val_lt hd.1)) (by omega))
    clear hq
    go_enter Tryd.func16, Tryd.ntmps16
    go_wp2
    go_ret
    exact ⟨ret_bool HV.out.symm, rfl⟩
end Go.Proofs.YtmbajngbiefilaaDoor

/-
  Package nat: small, combine, heads (what Lehmer's way is made of), by contracts.
-/
namespace Go.Proofs.YtmbajngbiefilaaDoor
open Go Go.RowKit Go.Proofs.YtmbajngbiefilaaDoor.M
set_option linter.unusedSimpArgs false
set_option linter.unusedVariables false

theorem val_mono {d : Nat → Int} {n m : Nat} (h : Dig d n) (hm : m ≤ n) : val d m ≤ val d n := by
  have e := val_split d m (n - m)
  rw [show m + (n - m) = n by omega] at e
  have a := val_nonneg (show Dig (fun i => d (m + i)) (n - m) from fun i hi => h (m + i) (by omega))
  have := Int.mul_nonneg (Int.le_of_lt (P_pos m)) a
  omega
set_option maxHeartbeats 400000 in
theorem small_any (ao : Option Addr) (n cap : Nat) (d : Nat → Int) (w : World) (h : Row w ao n cap d) (hd : Dig d n) (hn : n ≤ 3) (hv : val d n < 9223372036854775808) :
    Calls Tryd.prog 34 #[.slice ao n cap] w fun e w' => e = .returned (.int .i64 (val d n)) ∧ w' = w := by
  have hl := h.le
  have hm := h.max
  have HV : Hid (val d n < 9223372036854775808) := hv
  clear hv
  go_enter Tryd.func34, Tryd.ntmps34
  go_wp2
  go_loop [3, 7] (fun v i => ∃ k : Nat, k ≤ n ∧ i = .int .i64 k ∧ v = .int .i64 (val d k)) (fun _ i => n - (intOf i).toNat)
  case atStart => exact ⟨0, Nat.zero_le _, rfl, rfl⟩
  case round =>
    obtain ⟨k, hk, rfl, rfl⟩ := hrel
    by_cases hlt : k < n
    · obtain ⟨b, off, rfl, hb, hc⟩ := h.spot (by omega)
      have c := hc k hlt
      have dk := hd k hlt
      have v0 := val_nonneg (hd.le (show k ≤ n by omega))
      have v1 := val_lt (hd.le (show k ≤ n by omega))
      have m1 := val_mono hd (show k + 1 ≤ n by omega)
      have hv2 := HV.out
      rw [P_two] at v1
      have e1 : val d (k + 1) = val d k + d k * 2 ^ (30 * k) := by rw [val_succ, P_two]
      have m0 : 0 ≤ d k * 2 ^ (30 * k) := Int.mul_nonneg dk.1 (Int.le_of_lt (two_pos _))
      have hw : wrap64 (d k * 2 ^ (30 * k)) = d k * 2 ^ (30 * k) := IntWalk.wrap64_in _ ⟨by omega, by omega⟩
      have hor : bits .or .i64 (val d k) (d k * 2 ^ (30 * k)) = val d (k + 1) := (or_add _ _ _ v0 v1 dk.1 (by omega)).trans e1.symm
      clear e1 m0 m1 hv2 v0 v1
      go_wp2
      go_round
      case rel => exact ⟨k + 1, by omega, by go_num, rfl⟩
      case measure => simp [intOf]; omega
    · obtain rfl : k = n := by omega
      go_wp2
      go_ret
      exact ⟨rfl, rfl⟩

theorem mul_bnd {x y : Int} (hx : -1073741824 < x ∧ x < 1073741824) (hy : 0 ≤ y ∧ y < 1073741824) : -1152921504606846976 ≤ x * y ∧ x * y ≤ 1152921504606846976 := by
  have h1 : x * y ≤ 1073741824 * y := Int.mul_le_mul_of_nonneg_right (by omega) hy.1
  have h2 : -1073741824 * y ≤ x * y := Int.mul_le_mul_of_nonneg_right (by omega) hy.1
  constructor <;> omega
theorem small_ans {w w' : World} {V : Int} {v : Value} (h : Ans w w' V v) (hV : V < 1152921504606846976) :
    Calls Tryd.prog 34 #[v] w' fun e w'' => e = .returned (.int .i64 V) ∧ w'' = w' := by
  have hn := h.num
  obtain ⟨ao, n, cap, rfl⟩ := hn.shape
  have hl := hn.len (show V < P 2 from hV)
  obtain ⟨ao', n', cap', d, e, hR, h2, rfl⟩ := hn
  simp only [Value.slice.injEq] at e
  obtain ⟨rfl, rfl, rfl⟩ := e
  exact small_any _ _ _ _ _ hR h2.1 (by omega) (by omega)
end Go.Proofs.YtmbajngbiefilaaDoor
