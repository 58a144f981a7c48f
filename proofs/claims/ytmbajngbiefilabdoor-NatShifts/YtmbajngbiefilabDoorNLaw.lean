/-
  The statements' own helpers: Same, digits, alive, by contracts.
-/
import Derived.Test.YtmbajngbiefilabDoorNW4
import Derived.Test.YtmbajngbiefilabDoorNLen
namespace Go.Proofs.YtmbajngbiefilabDoor
open Go Go.RowKit Go.Proofs.YtmbajngbiefilabDoor.M
set_option linter.unusedSimpArgs false
set_option linter.unusedVariables false

instance (n : Nat) (a b : Nat → Int) : Decidable (∀ i, i < n → a i = b i) := by infer_instance
/-- Are two lists one? -/
def sameB (a b : Nat → Int) (n m : Nat) : Bool := decide (n = m ∧ ∀ i, i < n → a i = b i)
theorem sameB_of {a b : Nat → Int} {n m : Nat} (ha : Nrm a n) (hb : Nrm b m) (h : val a n = val b m) : sameB a b n m = true := by
  unfold sameB; exact decide_eq_true (nrm_inj ha hb h)
set_option maxHeartbeats 1000000 in
theorem same_any (ao bo : Option Addr) (n m ca cb : Nat) (a b : Nat → Int) (w : World) (ha : Row w ao n ca a) (hb : Row w bo m cb b) :
    Calls Tryd.prog 11 #[.slice ao n ca, .slice bo m cb] w fun e w' => e = .returned (.bool (sameB a b n m)) ∧ Below w.heap.size w w' := by
  have hla := ha.le
  have hma := ha.max
  have hlb := hb.le
  have hmb := hb.max
  by_cases hnm : n = m
  · subst hnm
    go_enter Tryd.func11, Tryd.ntmps11
    go_wp2
    go_loopw [5] (fun i wr => ∃ k : Nat, k ≤ n ∧ i = .int .i64 k ∧ Hid (∀ i, i < k → a i = b i) ∧ Below w.heap.size w wr) (fun i _ => n - (intOf i).toNat)
    case atStart => exact ⟨0, Nat.zero_le _, rfl, fun i _ => by omega, bel_refl _⟩
    case round =>
      obtain ⟨k, hk, rfl, HS, hbw⟩ := hrel
      by_cases hlt : k < n
      · obtain ⟨ba, fa, rfl, hba, hca⟩ := ha.spot (by omega)
        obtain ⟨bb, fb, rfl, hbb, hcb⟩ := hb.spot (by omega)
        have c1 := (hbw.cell (p := ⟨ba, fa + k, none⟩) hba).trans (hca k hlt)
        have c2 := (hbw.cell (p := ⟨bb, fb + k, none⟩) hbb).trans (hcb k hlt)
        by_cases he : a k = b k
        · have he' : (a k != b k) = false := by simp [he]
          have HE : Hid (a k = b k) := he
          clear he
          go_wp2
          go_quiet (fail)
          go_wp2
          go_roundw
          case rel => exact ⟨k + 1, by omega, by go_num, fun i x => by by_cases e : i = k; (· rw [e]; exact HE.out); (· exact HS.out i (by omega)), bDrewN hbw _⟩
          case measure => simp [intOf]; omega
        · have he' : (a k != b k) = true := by simp [he]
          go_wp2
          go_quiet (fail)
          go_wp2
          go_ret
          exact ⟨ret_bool (decide_eq_false (fun q => he (q.2 k hlt))).symm, bDrewN hbw _⟩
      · obtain rfl : k = n := by omega
        go_wp2
        go_ret
        exact ⟨ret_bool (decide_eq_true (⟨rfl, HS.out⟩ : k = k ∧ ∀ i, i < k → a i = b i)).symm, hbw⟩
  · go_enter Tryd.func11, Tryd.ntmps11
    go_wp2
    go_ret
    exact ⟨ret_bool (decide_eq_false (fun q => hnm q.1)).symm, bel_refl _⟩
theorem same_yes (ao bo : Option Addr) (n m ca cb : Nat) (a b : Nat → Int) (w : World) (ha : Row w ao n ca a) (hb : Row w bo m cb b) (na : Nrm a n) (nb : Nrm b m) (hv : val a n = val b m) :
    Calls Tryd.prog 11 #[.slice ao n ca, .slice bo m cb] w fun e w' => e = .returned (.bool true) ∧ Below w.heap.size w w' := by
  refine (same_any ao bo n m ca cb a b w ha hb).mono ?_
  rintro e w' ⟨rfl, h⟩
  exact ⟨ret_bool (sameB_of na nb hv), h⟩
theorem same_num {w : World} {x y : Value} {V : Int} (hx : Num w x V) (hy : Num w y V) :
    Calls Tryd.prog 11 #[x, y] w fun e w' => e = .returned (.bool true) ∧ Below w.heap.size w w' := by
  obtain ⟨ao, n, ca, d, rfl, hR, h2, h3⟩ := hx
  obtain ⟨bo, m, cb, e, rfl, kR, k2, k3⟩ := hy
  exact same_yes _ _ _ _ _ _ _ _ _ hR kR h2 k2 (h3.trans k3.symm)
theorem Num.ok {d : Nat → Int} {n : Nat} (h : Nrm d n) (hV : val d n < P 2000) : okB d n = true := by
  refine okB_yes ?_ h
  by_cases hk : n ≤ 2000
  · exact hk
  · have a := val_top h.1 (by omega) h.2
    have b := P_le (show 2000 ≤ n - 1 by omega)
    omega
theorem add_num {w : World} {x y : Value} {A B : Int} (hx : Num w x A) (hy : Num w y B) (hA : A < P 2000) (hB : B < P 2000) :
    Calls Tryd.prog 24 #[x, y] w fun e w' => ∃ v er, e = .returned (.tuple #[v, .int .i64 er]) ∧ Fit w w' (A + B) v er := by
  obtain ⟨ao, n, ca, d, rfl, hR, h2, rfl⟩ := hx
  obtain ⟨bo, m, cb, e, rfl, kR, k2, rfl⟩ := hy
  exact add_yes _ _ _ _ _ _ _ _ _ ⟨hR, kR⟩ (Num.ok h2 hA) (Num.ok k2 hB)
theorem mul_num {w : World} {x y : Value} {A B : Int} (hx : Num w x A) (hy : Num w y B) (hA : A < P 2000) (hB : B < P 2000) :
    Calls Tryd.prog 7 #[x, y] w fun e w' => ∃ v er, e = .returned (.tuple #[v, .int .i64 er]) ∧ Fit w w' (A * B) v er := by
  obtain ⟨ao, n, ca, d, rfl, hR, h2, rfl⟩ := hx
  obtain ⟨bo, m, cb, e, rfl, kR, k2, rfl⟩ := hy
  exact mul_yes _ _ _ _ _ _ _ _ _ ⟨hR, kR⟩ (Num.ok h2 hA) (Num.ok k2 hB)
theorem Fit.ans {w w' : World} {V er : Int} {v : Value} (h : Fit w w' V v er) (hV : V < P 2000) : er = 0 ∧ Ans w w' V v := by
  rcases h.2 with ⟨_, h1, h2⟩ | ⟨h1, _⟩
  · exact ⟨h1, h2⟩
  · omega
theorem add_ok {w : World} {x y : Value} {A B : Int} (hx : Num w x A) (hy : Num w y B) (hV : A + B < P 2000) :
    Calls Tryd.prog 24 #[x, y] w fun e w' => ∃ v, e = .returned (.tuple #[v, .int .i64 0]) ∧ Ans w w' (A + B) v := by
  have a := hx.nonneg
  have b := hy.nonneg
  refine (add_num hx hy (by omega) (by omega)).mono ?_
  rintro e w' ⟨v, er, rfl, hF⟩
  obtain ⟨rfl, hA⟩ := hF.ans hV
  exact ⟨v, rfl, hA⟩
theorem mul_ok {w : World} {x y : Value} {A B : Int} (hx : Num w x A) (hy : Num w y B) (hA : A < P 2000) (hB : B < P 2000) (hV : A * B < P 2000) :
    Calls Tryd.prog 7 #[x, y] w fun e w' => ∃ v, e = .returned (.tuple #[v, .int .i64 0]) ∧ Ans w w' (A * B) v := by
  refine (mul_num hx hy hA hB).mono ?_
  rintro e w' ⟨v, er, rfl, hF⟩
  obtain ⟨rfl, hA⟩ := hF.ans hV
  exact ⟨v, rfl, hA⟩
theorem bits_num {w : World} {x : Value} {A : Int} (hx : Num w x A) (hA : A < P 2000) :
    Calls Tryd.prog 12 #[x] w fun e w' => e = .returned (.int .i64 (blen A)) ∧ w' = w := by
  obtain ⟨ao, n, ca, d, rfl, hR, h2, rfl⟩ := hx
  exact bits_yes _ _ _ _ _ hR (Num.ok h2 hA)
theorem valid_num {w : World} {x : Value} {A : Int} (hx : Num w x A) (hA : A < P 2000) :
    Calls Tryd.prog 15 #[x] w fun e w' => e = .returned (.bool true) ∧ w' = w := by
  obtain ⟨ao, n, ca, d, rfl, hR, h2, rfl⟩ := hx
  refine (valid_any _ _ _ _ _ hR).mono ?_
  rintro e w' ⟨rfl, rfl⟩
  exact ⟨ret_bool (Num.ok h2 hA), rfl⟩
theorem P2000_big : 1152921504606846976 < P 2000 := by
  have h1 := P_le (show 3 ≤ 2000 by decide)
  have h2 : P 3 = 1073741824 * 1073741824 * 1073741824 := by decide
  omega

set_option maxHeartbeats 2000000 in
theorem alive_any (w : World) : Calls Tryd.prog 10 #[] w fun e w' => e = .returned (.bool true) ∧ Below w.heap.size w w' := by
  have big : Hid (1152921504606846976 < P 2000) := P2000_big
  have bl : blen 7 = 3 := by decide
  go_enter Tryd.func10, Tryd.ntmps10
  go_wp2_with fail
  refine (add_ok ((num1 w 1073741823 (by decide) (by decide) rfl).alloc _) (num1 _ 1 (by decide) (by decide) (by simp)) (by have := big.out; omega)).mono ?_
  rintro e w1 ⟨s, rfl, hs⟩
  have b1 := bel_trans (bel_alloc2 _ _ _) hs.below
  have ns := hs.num
  clear hs
  go_wp2_with fail
  refine (mul_ok ((num1 w1 3 (by decide) (by decide) rfl).alloc _) (num2 _ 0 5 (by decide) (by decide) (by decide) (by simp)) (by have := big.out; omega) (by have := big.out; omega) (by have := big.out; omega)).mono ?_
  rintro e w2 ⟨p, rfl, hp⟩
  have b2 := bel_trans (bel_alloc2 _ _ _) hp.below
  have ns2 := ns.keeps b2
  have np := hp.num
  clear hp
  go_wp2_with fail
  refine (same_num (ns2.alloc _) (num2 _ 0 1 (by decide) (by decide) (by decide) rfl)).mono ?_
  rintro e w3 ⟨rfl, h3⟩
  have b3 := bel_trans (bel_alloc _ _) h3
  have np3 := np.keeps b3
  go_wp2_with fail
  refine (same_num (np3.alloc _) (num2 _ 0 15 (by decide) (by decide) (by decide) rfl)).mono ?_
  rintro e w4 ⟨rfl, h4⟩
  have b4 := bel_trans (bel_alloc _ _) h4
  go_wp2_with fail
  refine (valid_num (num1 w4 7 (by decide) (by decide) rfl) (by have := big.out; omega)).mono ?_
  rintro e w5 ⟨rfl, rfl⟩
  go_wp2_with fail
  refine (bits_num (num1 _ 7 (by decide) (by decide) (by simp)) (by have := big.out; omega)).mono ?_
  rintro e w6 ⟨rfl, rfl⟩
  go_wp2
  go_ret
  exact ⟨rfl, bel_trans (bel_trans (bel_trans (bel_trans b1 b2) b3) b4) (bel_alloc2 _ _ _)⟩
end Go.Proofs.YtmbajngbiefilabDoor
