/-
  Package nat: Cmp, Add, Sub, Mul, by contracts: for every two lists.
-/
import Derived.Test.YtmbajngbiefilabDoorNW2
import Derived.Test.YtmbajngbiefilabDoorNW3
namespace Go.Proofs.YtmbajngbiefilabDoor
open Go Go.RowKit Go.Proofs.YtmbajngbiefilabDoor.M
set_option linter.unusedSimpArgs false
set_option linter.unusedVariables false

theorem cmpInt_any (x y : Int) (w : World) : Calls Tryd.prog 38 #[.int .i64 x, .int .i64 y] w fun e w' => e = .returned (.int .i64 (ord x y)) ∧ w' = w := by
  by_cases h1 : x < y
  · go_enter Tryd.func38, Tryd.ntmps38
    go_wp2
    go_ret
    exact ⟨ret_int (ord_lt h1).symm, rfl⟩
  · by_cases h2 : y < x
    · go_enter Tryd.func38, Tryd.ntmps38
      go_wp2
      go_ret
      exact ⟨ret_int (ord_gt h2).symm, rfl⟩
    · go_enter Tryd.func38, Tryd.ntmps38
      go_wp2
      go_ret
      exact ⟨ret_int (ord_eq (show x = y by omega)).symm, rfl⟩

theorem ord_ge {a b : Int} (h : b ≤ a) : ¬ ord a b < 0 := by
  rcases Int.lt_or_eq_of_le h with h1 | h1
  · rw [ord_gt h1]; decide
  · rw [ord_eq h1.symm]; decide
theorem ord_len {d e : Nat → Int} {n m : Nat} (hd : Nrm d n) (he : Nrm e m) (h : n ≠ m) : ord n m = ord (val d n) (val e m) := by
  rcases Nat.lt_or_gt_of_ne h with h1 | h1
  · rw [ord_lt (by omega), ord_lt (nrm_lt hd.1 he h1)]
  · rw [ord_gt (by omega), ord_gt (nrm_lt he.1 hd h1)]
theorem ord_top {d e : Nat → Int} {n k : Nat} (hd : Dig d n) (he : Dig e n) (hk : k < n) (hs : ∀ i, k < i → i < n → d i = e i) (hne : d k ≠ e k) : ord (d k) (e k) = ord (val d n) (val e n) := by
  rcases Int.lt_or_gt_of_ne hne with h1 | h1
  · rw [ord_lt h1, ord_lt (cmp_top hd he hk hs h1)]
  · rw [ord_gt h1, ord_gt (cmp_top he hd hk (fun i a b => (hs i a b).symm) h1)]

set_option maxHeartbeats 1000000 in
theorem compare_any (ao bo : Option Addr) (n m ca cb : Nat) (a b : Nat → Int) (w : World) (ha : Row w ao n ca a) (hb : Row w bo m cb b) (na : Nrm a n) (nb : Nrm b m) :
    Calls Tryd.prog 30 #[.slice ao n ca, .slice bo m cb] w fun e w' => e = .returned (.int .i64 (ord (val a n) (val b m))) ∧ Below w.heap.size w w' := by
  have hla := ha.le
  have hma := ha.max
  have hlb := hb.le
  have hmb := hb.max
  by_cases hnm : n = m
  · subst hnm
    go_enter Tryd.func30, Tryd.ntmps30
    go_wp2
    go_loopw [19] (fun i wr => ∃ k : Nat, k ≤ n ∧ i = .int .i64 k ∧ Hid (∀ i, n - k ≤ i → i < n → a i = b i) ∧ Below w.heap.size w wr) (fun i _ => n - (intOf i).toNat)
    case atStart => exact ⟨0, Nat.zero_le _, rfl, fun i _ _ => by omega, bel_refl _⟩
    case round =>
      obtain ⟨k, hk, rfl, HS, hbw⟩ := hrel
      by_cases hlt : k < n
      · obtain ⟨ba, fa, rfl, hba, hca⟩ := ha.spot (by omega)
        obtain ⟨bb, fb, rfl, hbb, hcb⟩ := hb.spot (by omega)
        have c1 := (hbw.cell (p := ⟨ba, fa + (n - 1 - k), none⟩) hba).trans (hca (n - 1 - k) (by omega))
        have c2 := (hbw.cell (p := ⟨bb, fb + (n - 1 - k), none⟩) hbb).trans (hcb (n - 1 - k) (by omega))
        by_cases he : a (n - 1 - k) = b (n - 1 - k)
        · have he' : (a (n - 1 - k) != b (n - 1 - k)) = false := by simp [he]
          have HE : Hid (a (n - 1 - k) = b (n - 1 - k)) := he
          clear he
          go_wp2
          go_quiet (fail)
          go_wp2
          go_roundw
          case rel => exact ⟨k + 1, by omega, by go_num, fun i x y => by by_cases e : i = n - 1 - k; (· rw [e]; exact HE.out); (· exact HS.out i (by omega) y), bDrewN hbw _⟩
          case measure => simp [intOf]; omega
        · have he' : (a (n - 1 - k) != b (n - 1 - k)) = true := by simp [he]
          go_wp2
          go_quiet (fail)
          go_wp2
          go_quiet ((refine (cmpInt_any _ _ _).mono ?_; rintro _ _ ⟨rfl, rfl⟩; exact ⟨rfl, _, rfl⟩))
          go_wp2
          go_ret
          exact ⟨ret_int (ord_top na.1 nb.1 (show n - 1 - k < n by omega) (fun i x y => HS.out i (by omega) y) he), bDrewN (bDrewN hbw _) _⟩
      · obtain rfl : k = n := by omega
        go_wp2
        go_ret
        exact ⟨ret_int (ord_eq (val_congr fun i hi => HS.out i (by omega) hi)).symm, hbw⟩
  · go_enter Tryd.func30, Tryd.ntmps30
    go_wp2_with (go_at_call 38; refine (cmpInt_any _ _ _).mono ?_; rintro e w' ⟨rfl, rfl⟩)
    go_ret
    exact ⟨ret_int (ord_len na nb hnm), bel_refl _⟩

/-- What fit hands on. -/
def fitV (ao : Option Addr) (t cap : Nat) : Value := if 2000 < t then .slice none 0 0 else .slice ao t cap
def fitE (t : Nat) : Int := if 2000 < t then 2 else 0
theorem fit_any (ao : Option Addr) (t cap : Nat) (w : World) : Calls Tryd.prog 18 #[.slice ao t cap] w fun e w' => e = .returned (.tuple #[fitV ao t cap, .int .i64 (fitE t)]) ∧ w' = w := by
  by_cases h : 2000 < t
  · go_enter Tryd.func18, Tryd.ntmps18
    go_wp2
    go_ret2
    exact ⟨by simp [fitV, fitE, h], rfl⟩
  · go_enter Tryd.func18, Tryd.ntmps18
    go_wp2
    go_ret2
    exact ⟨by simp [fitV, fitE, h], rfl⟩
theorem Fit.of {w w' : World} {V : Int} {ao : Option Addr} {t cap : Nat} {d : Nat → Int} (h1 : Out w.heap.size w' (.slice ao t cap) t d) (h2 : Nrm d t) (h3 : val d t = V) (hb : Below w.heap.size w w') : Fit w w' V (fitV ao t cap) (fitE t) := by
  refine ⟨hb, ?_⟩
  by_cases h : 2000 < t
  · refine .inr ⟨?_, by simp [fitE, h], by simp [fitV, h]⟩
    have a := val_top h2.1 (by omega) h2.2
    have b := P_le (show 2000 ≤ t - 1 by omega)
    omega
  · refine .inl ⟨?_, by simp [fitE, h], ?_⟩
    · have a := val_lt h2.1
      have b := P_le (show t ≤ 2000 by omega)
      omega
    · rw [show fitV ao t cap = .slice ao t cap by simp [fitV, h]]
      exact ⟨t, d, h1, h2, h3, hb⟩

/-- The two lists of a call, as they lie. -/
structure Two (w : World) (ao bo : Option Addr) (n m ca cb : Nat) (a b : Nat → Int) : Prop where
  ra : Row w ao n ca a
  rb : Row w bo m cb b
theorem Two.keeps {w w' : World} {ao bo : Option Addr} {n m ca cb : Nat} {a b : Nat → Int} (h : Two w ao bo n m ca cb a b) (hb : Below w.heap.size w w') : Two w' ao bo n m ca cb a b := ⟨h.ra.keeps hb, h.rb.keeps hb⟩

set_option maxHeartbeats 400000 in
theorem add_yes (ao bo : Option Addr) (n m ca cb : Nat) (a b : Nat → Int) (w : World) (h : Two w ao bo n m ca cb a b) (oa : okB a n = true) (ob : okB b m = true) :
    Calls Tryd.prog 24 #[.slice ao n ca, .slice bo m cb] w fun e w' => ∃ v er, e = .returned (.tuple #[v, .int .i64 er]) ∧ Fit w w' (val a n + val b m) v er := by
  obtain ⟨la, na⟩ := okB_out oa
  obtain ⟨lb, nb⟩ := okB_out ob
  go_enter Tryd.func24, Tryd.ntmps24
  go_wp2_with fail
  refine (valid_any _ _ _ _ _ h.ra).mono ?_
  rintro e w' ⟨rfl, rfl⟩
  go_wp2_with fail
  refine (valid_any _ _ _ _ _ h.rb).mono ?_
  rintro e w' ⟨rfl, rfl⟩
  go_wp2_with fail
  refine (sum_any _ _ _ _ _ _ _ _ _ h.ra h.rb na.1 nb.1 (by omega) (by omega)).mono ?_
  rintro e w1 ⟨v, rfl, t, d, hO, hN, hV, hB⟩
  obtain ⟨ao', cap', rfl, hR⟩ := hO.row
  go_wp2_with fail
  refine (fit_any _ _ _ _).mono ?_
  rintro e w2 ⟨rfl, rfl⟩
  go_wp2
  go_ret2
  exact ⟨_, _, rfl, Fit.of hO hN hV hB⟩
set_option maxHeartbeats 1000000 in
theorem mul_yes (ao bo : Option Addr) (n m ca cb : Nat) (a b : Nat → Int) (w : World) (h : Two w ao bo n m ca cb a b) (oa : okB a n = true) (ob : okB b m = true) :
    Calls Tryd.prog 7 #[.slice ao n ca, .slice bo m cb] w fun e w' => ∃ v er, e = .returned (.tuple #[v, .int .i64 er]) ∧ Fit w w' (val a n * val b m) v er := by
  obtain ⟨la, na⟩ := okB_out oa
  obtain ⟨lb, nb⟩ := okB_out ob
  by_cases h0 : n = 0 ∨ m = 0
  · have hV : val a n * val b m = 0 := by rcases h0 with rfl | rfl <;> simp [val]
    have F : Fit w w (val a n * val b m) (.slice none 0 0) 0 := ⟨bel_refl _, .inl ⟨by rw [hV]; exact P_pos _, rfl, by rw [hV]; exact Ans.nil (bel_refl _)⟩⟩
    by_cases hn : n = 0
    · subst hn
      go_enter Tryd.func7, Tryd.ntmps7
      go_wp2_with fail
      refine (valid_any _ _ _ _ _ h.ra).mono ?_
      rintro e w' ⟨rfl, rfl⟩
      go_wp2_with fail
      refine (valid_any _ _ _ _ _ h.rb).mono ?_
      rintro e w' ⟨rfl, rfl⟩
      go_wp2
      go_ret2
      exact ⟨_, _, rfl, F⟩
    · have hm : m = 0 := by omega
      subst hm
      go_enter Tryd.func7, Tryd.ntmps7
      go_wp2_with fail
      refine (valid_any _ _ _ _ _ h.ra).mono ?_
      rintro e w' ⟨rfl, rfl⟩
      go_wp2_with fail
      refine (valid_any _ _ _ _ _ h.rb).mono ?_
      rintro e w' ⟨rfl, rfl⟩
      go_wp2
      go_ret2
      exact ⟨_, _, rfl, F⟩
  · have hn : 0 < n := by omega
    have hm : 0 < m := by omega
    clear h0
    have e1 : ((n : Int) == 0) = false := by simp; omega
    have e2 : ((m : Int) == 0) = false := by simp; omega
    by_cases hl : n + m - 1 ≤ 2000
    · go_enter Tryd.func7, Tryd.ntmps7
      go_wp2_with fail
      refine (valid_any _ _ _ _ _ h.ra).mono ?_
      rintro e w' ⟨rfl, rfl⟩
      go_wp2_with fail
      refine (valid_any _ _ _ _ _ h.rb).mono ?_
      rintro e w' ⟨rfl, rfl⟩
      go_wp2_with fail
      refine (product_any _ _ _ _ _ _ _ _ _ h.ra h.rb na.1 nb.1 (by omega) (by omega)).mono ?_
      rintro e w1 ⟨v, rfl, t, d, hO, hN, hV, hB⟩
      obtain ⟨ao', cap', rfl, hR⟩ := hO.row
      go_wp2_with fail
      refine (fit_any _ _ _ _).mono ?_
      rintro e w2 ⟨rfl, rfl⟩
      go_wp2
      go_ret2
      exact ⟨_, _, rfl, Fit.of hO hN hV hB⟩
    · have hV : P 2000 ≤ val a n * val b m := by
        have a1 := val_top na.1 hn na.2
        have b1 := val_top nb.1 hm nb.2
        have c1 : P (n - 1) * P (m - 1) ≤ val a n * val b m := Int.mul_le_mul a1 b1 (Int.le_of_lt (P_pos _)) (val_nonneg na.1)
        rw [← P_add] at c1
        have := P_le (show 2000 ≤ n - 1 + (m - 1) by omega)
        omega
      have F : Fit w w (val a n * val b m) (.slice none 0 0) 2 := ⟨bel_refl _, .inr ⟨hV, rfl, rfl⟩⟩
      clear hV
      go_enter Tryd.func7, Tryd.ntmps7
      go_wp2_with fail
      refine (valid_any _ _ _ _ _ h.ra).mono ?_
      rintro e w' ⟨rfl, rfl⟩
      go_wp2_with fail
      refine (valid_any _ _ _ _ _ h.rb).mono ?_
      rintro e w' ⟨rfl, rfl⟩
      go_wp2
      go_ret2
      exact ⟨_, _, rfl, F⟩
end Go.Proofs.YtmbajngbiefilabDoor
