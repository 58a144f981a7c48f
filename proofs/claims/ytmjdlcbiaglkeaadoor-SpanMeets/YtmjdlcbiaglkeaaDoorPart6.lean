/-
  Parts of the proof, one behind another.
-/
import Derived.Test.YtmjdlcbiaglkeaaDoorPart5
import Derived.Test.YtmjdlcbiaglkeaaDoorPart3
import Derived.Lib.SliceRun
import Derived.Deep.OwnRows
import Derived.Deep.RegionWith
import Derived.Deep.CutRange
import Derived.Laws.CopyOwn
import Derived.WalkMore
import Derived.ScopeJumps
import Derived.Lib.BitFns
import Derived.Lib.TrailingZeros
import Derived.Laws.Bits64b
import Derived.WalkLawsBesides
/-
  Package nat: product, by its contract: for every two lists of digits.
-/
namespace Go.Proofs.YtmjdlcbiaglkeaaDoor
open Go Go.RowKit Go.Proofs.YtmjdlcbiaglkeaaDoor.M
set_option linter.unusedSimpArgs false
set_option linter.unusedVariables false

end Go.Proofs.YtmjdlcbiaglkeaaDoor

/-
  Package nat: Cmp, Add, Sub, Mul, by contracts: for every two lists.
-/
namespace Go.Proofs.YtmjdlcbiaglkeaaDoor
open Go Go.RowKit Go.Proofs.YtmjdlcbiaglkeaaDoor.M
set_option linter.unusedSimpArgs false
set_option linter.unusedVariables false

theorem ord_ge {a b : Int} (h : b ≤ a) : ¬ ord a b < 0 := by
  rcases Int.lt_or_eq_of_le h with h1 | h1
  · rw [ord_gt h1]; decide
  · rw [ord_eq h1.symm]; decide
theorem ord_len {d e : Nat → Int} {n m : Nat} (hd : Nrm d n) (he : Nrm e m) (h : n ≠ m) : ord n m = ord (val d n) (val e m) := by
  rcases Nat.lt_or_gt_of_ne h with h1 | h1
  · rw [ord_lt (by omega), ord_lt (nrm_lt hd.1 he h1)]
  · rw [ord_gt (by omega), ord_gt (nrm_lt he.1 hd h1)]
theorem ord_top {d e : Nat → Int} {n k : Nat} (hd : Dig d n) (he : Dig e n) (hk : k < n) (hs : ∀ i, k < i → i < n → d i = e i) (hne : d k ≠ e k) : ord (d k) (e k) = ord (val d n) (val e n) := by
  rcases Int.lt_or_gt_of_ne hne with h1 | h1
  · rw [ord_lt h1, ord_lt (cmp_top hd he hk hs h1)]
  · rw [ord_gt h1, ord_gt (cmp_top he hd hk (fun i a b => (hs i a b).symm) h1)]

/-- What fit hands on. -/
def fitV (ao : Option Addr) (t cap : Nat) : Value := if 2000 < t then .slice none 0 0 else .slice ao t cap
def fitE (t : Nat) : Int := if 2000 < t then 2 else 0
theorem Fit.of {w w' : World} {V : Int} {ao : Option Addr} {t cap : Nat} {d : Nat → Int} (h1 : Out w.heap.size w' (.slice ao t cap) t d) (h2 : Nrm d t) (h3 : val d t = V) (hb : Below w.heap.size w w') : Fit w w' V (fitV ao t cap) (fitE t) := by
  refine ⟨hb, ?_⟩
  by_cases h : 2000 < t
  · refine .inr ⟨?_, by simp [fitE, h], by simp [fitV, h]⟩
    have a := val_top h2.1 (by omega) h2.2
    have b := P_le (show 2000 ≤ t - 1 by omega)
    omega
  · refine .inl ⟨?_, by simp [fitE, h], ?_⟩
    · have a := val_lt h2.1
      have b := P_le (show t ≤ 2000 by omega)
      omega
    · rw [show fitV ao t cap = .slice ao t cap by simp [fitV, h]]
      exact ⟨t, d, h1, h2, h3, hb⟩

/-- The two lists of a call, as they lie. -/
structure Two (w : World) (ao bo : Option Addr) (n m ca cb : Nat) (a b : Nat → Int) : Prop where
  ra : Row w ao n ca a
  rb : Row w bo m cb b
theorem Two.keeps {w w' : World} {ao bo : Option Addr} {n m ca cb : Nat} {a b : Nat → Int} (h : Two w ao bo n m ca cb a b) (hb : Below w.heap.size w w') : Two w' ao bo n m ca cb a b := ⟨h.ra.keeps hb, h.rb.keeps hb⟩

end Go.Proofs.YtmjdlcbiaglkeaaDoor

/-
  The statements' own helpers: Same, digits, alive, by contracts.
-/
namespace Go.Proofs.YtmjdlcbiaglkeaaDoor
open Go Go.RowKit Go.Proofs.YtmjdlcbiaglkeaaDoor.M
set_option linter.unusedSimpArgs false
set_option linter.unusedVariables false

instance (n : Nat) (a b : Nat → Int) : Decidable (∀ i, i < n → a i = b i) := by infer_instance
/-- Are two lists one? -/
def sameB (a b : Nat → Int) (n m : Nat) : Bool := decide (n = m ∧ ∀ i, i < n → a i = b i)
theorem sameB_of {a b : Nat → Int} {n m : Nat} (ha : Nrm a n) (hb : Nrm b m) (h : val a n = val b m) : sameB a b n m = true := by
  unfold sameB; exact decide_eq_true (nrm_inj ha hb h)
theorem Num.ok {d : Nat → Int} {n : Nat} (h : Nrm d n) (hV : val d n < P 2000) : okB d n = true := by
  refine okB_yes ?_ h
  by_cases hk : n ≤ 2000
  · exact hk
  · have a := val_top h.1 (by omega) h.2
    have b := P_le (show 2000 ≤ n - 1 by omega)
    omega
theorem Fit.ans {w w' : World} {V er : Int} {v : Value} (h : Fit w w' V v er) (hV : V < P 2000) : er = 0 ∧ Ans w w' V v := by
  rcases h.2 with ⟨_, h1, h2⟩ | ⟨h1, _⟩
  · exact ⟨h1, h2⟩
  · omega
theorem valid_num {w : World} {x : Value} {A : Int} (hx : Num w x A) (hA : A < P 2000) :
    Calls Tryd.prog 63 #[x] w fun e w' => e = .returned (.bool true) ∧ w' = w := by
  obtain ⟨ao, n, ca, d, rfl, hR, h2, rfl⟩ := hx
  refine (valid_any _ _ _ _ _ hR).mono ?_
  rintro e w' ⟨rfl, rfl⟩
  exact ⟨ret_bool (Num.ok h2 hA), rfl⟩
theorem P2000_big : 1152921504606846976 < P 2000 := by
  have h1 := P_le (show 3 ≤ 2000 by decide)
  have h2 : P 3 = 1073741824 * 1073741824 * 1073741824 := by decide
  omega

end Go.Proofs.YtmjdlcbiaglkeaaDoor

/-
  Package nat: slices.Clone at ints, digits, shorten, guess, by contracts.
-/
namespace Go.Proofs.YtmjdlcbiaglkeaaDoor
open Go Go.RowKit Go.Proofs.YtmjdlcbiaglkeaaDoor.M
set_option linter.unusedSimpArgs false
set_option linter.unusedVariables false

/-- A copy in new memory. -/
def Cpy (w w' : World) (v : Value) (n : Nat) (d : Nat → Int) : Prop := Out w.heap.size w' v n d ∧ Below w.heap.size w w'
theorem out_empty (w : World) (d : Nat → Int) {g : Nat} (hg : g = w.heap.size) : Out w.heap.size (w.alloc (.cells #[] 3)) (.slice (some ⟨g, 0, none⟩) 0 0) 0 d := by
  subst hg
  exact ⟨by simp [vals], .inr ⟨w.heap.size, 0, #[], rfl, Nat.le_refl _, heap_alloc_new w _, Nat.le_refl _, by decide, rfl, rfl⟩⟩
set_option maxHeartbeats 400000 in
theorem digits_nat (V : Int) (w : World) (h0 : 0 ≤ V) (h1 : V < 9223372036854775808) :
    Calls Tryd.prog 31 #[.int .i64 V] w fun e w' => ∃ v, e = .returned v ∧ Ans w w' V v := by
  have HM : Hid (V < 9223372036854775808) := h1
  clear h1
  go_enter Tryd.func31, Tryd.ntmps31
  go_wp2
  go_loopw [0, 3] (fun i v wr => ∃ (x : Int) (k : Nat) (r : Nat → Int), i = .int .i64 x ∧ 0 ≤ x ∧ k ≤ 3 ∧ Out w.heap.size wr v k r ∧ Dig r k ∧ Hid (x * P k ≤ V) ∧ Hid (x = 0 → Top r k) ∧ Hid (val r k + x * P k = V) ∧ Below w.heap.size w wr) (fun i _ _ => (intOf i).toNat)
  case atStart => exact ⟨V, 0, fun _ => 0, rfl, h0, by omega, Out.nil _ _ _, fun i hi => by omega, by show _ ≤ _; show V * 1 ≤ V; omega, fun _ => .inl rfl, by show _ = _; show 0 + V * 1 = V; omega, bel_refl _⟩
  case round =>
    obtain ⟨x, k, r, rfl, hx, hk3, hO, hD, HB, HT, HV, hbw⟩ := hrel
    by_cases hp : 0 < x
    · have h30 := and_30 x
      have hk2 : k ≤ 2 := by
        by_cases e : k = 3
        · subst e
          have a := HB.out
          have b := HM.out
          have c : P 3 = 1073741824 * 1073741824 * 1073741824 := by decide
          have d : 1 * P 3 ≤ x * P 3 := Int.mul_le_mul_of_nonneg_right (by omega) (Int.le_of_lt (P_pos 3))
          omega
        · omega
      go_wp2_with (at_builtin; refine wpList_app rfl _ _ rfl w.heap.size _ k r rfl (hO.stays (bel_alloc _ _)) _ 1 1 (fun _ => x % 1073741824) rfl (row1 _ _ rfl) (by omega) (by have := hbw.size; simp; omega) ?_; intro v' w1 hO1 hg1)
      have hb1 : Below w.heap.size w w1 := (hbw.alloc hbw.size _).grown hg1 (by have := hbw.size; simp; omega) (own_ge hO)
      have e1 : ∀ i, i < k + 1 → cat r k (fun _ => x % 1073741824) i = upd r k (x % 1073741824) i := fun i hi => by
        by_cases e : i < k
        · simp [cat, e, upd_other r _ (show i ≠ k by omega)]
        · obtain rfl : i = k := by omega
          simp [cat, upd_same]
      have hs := sum_step (c := 0) (x := x) (show val r k + 0 * P k = val r k by omega)
      rw [Int.zero_add] at hs
      go_roundw
      case rel => exact ⟨x / 1073741824, k + 1, upd r k (x % 1073741824), rfl, by omega, by omega, hO1.congr e1, dig_snoc ((hD.congr (fun i hi => (upd_other r _ (by omega)).symm))) (by rw [upd_same]; omega) (by rw [upd_same]; omega), by
          show _ ≤ _
          have a := HB.out
          rw [P_succ, show x / 1073741824 * (P k * 1073741824) = (x / 1073741824 * 1073741824) * P k by grind]
          have b : (x / 1073741824 * 1073741824) * P k ≤ x * P k := Int.mul_le_mul_of_nonneg_right (by omega) (Int.le_of_lt (P_pos k))
          omega, fun e => .inr (by rw [Nat.add_sub_cancel, upd_same]; omega), by show _ = _; rw [hs]; exact HV.out, hb1⟩
      case measure => simp [intOf]; omega
    · obtain rfl : x = 0 := by omega
      go_wp2
      go_ret
      exact ⟨_, rfl, k, r, hO, ⟨hD, HT.out (by first | rfl | trivial)⟩, by have := HV.out; omega, hbw⟩

/-- What shorten leaves of a list that lies in the caller's own memory. -/
def Sht (B : Nat) (w w' : World) (v : Value) (n : Nat) (d : Nat → Int) (D left : Int) : Prop :=
  ∃ r, Out B w' v n r ∧ Dig r n ∧ val d n = D * val r n + left ∧ 0 ≤ left ∧ left < D ∧ Below B w w'
end Go.Proofs.YtmjdlcbiaglkeaaDoor

/-
  Package nat: guess and takeOut (one digit of a long division), by contracts.
-/
namespace Go.Proofs.YtmjdlcbiaglkeaaDoor
open Go Go.RowKit Go.Proofs.YtmjdlcbiaglkeaaDoor.M
set_option linter.unusedSimpArgs false
set_option linter.unusedVariables false

/-- A guess: it is the quotient, or one more. -/
def Gs (U V t : Int) : Prop := 0 ≤ t ∧ t < 1073741824 ∧ (t - 1) * V ≤ U ∧ U < (t + 1) * V
/-- What a division's step is about: U has L + 3 digits, V has L + 2, the highest bit of V is set. -/
structure Stp (u v : Nat → Int) (L : Nat) (U V : Int) : Prop where
  du : Dig u (L + 3)
  dv : Dig v (L + 2)
  top : 536870912 ≤ v (L + 1)
  eU : U = val u (L + 3)
  eV : V = val v (L + 2)
  lt : U < 1073741824 * V
theorem Stp.splitV {u v : Nat → Int} {L : Nat} {U V : Int} (h : Stp u v L U V) : V = (v (L + 1) * 1073741824 + v L) * P L + val v L := by
  rw [h.eV, val_succ, val_succ, P_succ]; grind
theorem Stp.splitU {u v : Nat → Int} {L : Nat} {U V : Int} (h : Stp u v L U V) : U = ((u (L + 2) * 1073741824 + u (L + 1)) * 1073741824 + u L) * P L + val u L := by
  rw [h.eU, val_succ, val_succ, val_succ, show P (L + 2) = P L * 1073741824 * 1073741824 from rfl, show P (L + 1) = P L * 1073741824 from rfl]; grind
theorem Stp.topU {u v : Nat → Int} {L : Nat} {U V : Int} (h : Stp u v L U V) : u (L + 2) ≤ v (L + 1) := by
  have h1 : val u (L + 3) = val u (L + 2) + u (L + 2) * P (L + 2) := val_succ _ _
  have h2 : val v (L + 2) = val v (L + 1) + v (L + 1) * P (L + 1) := val_succ _ _
  have a := val_nonneg (h.du.le (show L + 2 ≤ L + 3 by omega))
  have b := val_lt (h.dv.le (show L + 1 ≤ L + 2 by omega))
  have c := h.lt
  rw [h.eU, h.eV, h1, h2] at c
  have p := P_pos (L + 1)
  have e : P (L + 2) = P (L + 1) * 1073741824 := P_succ _
  rw [e] at c
  rcases Int.lt_or_le (v (L + 1)) (u (L + 2)) with q | q
  · have f : (v (L + 1) + 1) * (P (L + 1) * 1073741824) ≤ u (L + 2) * (P (L + 1) * 1073741824) := mul_le_r (by omega) (by omega)
    have g : (v (L + 1) + 1) * (P (L + 1) * 1073741824) = 1073741824 * (v (L + 1) * P (L + 1)) + 1073741824 * P (L + 1) := by grind
    omega
  · exact q
theorem Stp.start {u v : Nat → Int} {L : Nat} {U V : Int} (h : Stp u v L U V) {t l : Int} (ht : 0 ≤ t) (hh : u (L + 2) * 1073741824 + u (L + 1) = t * v (L + 1) + l) (hl : l < v (L + 1)) : U < (t + 1) * V := by
  have sU := h.splitU
  have sV := h.splitV
  have p := P_pos L
  have a := val_lt (h.du.le (show L ≤ L + 3 by omega))
  have b := val_nonneg (h.dv.le (show L ≤ L + 2 by omega))
  have dL := h.du L (by omega)
  have vL := h.dv L (by omega)
  have e1 : (u (L + 2) * 1073741824 + u (L + 1) + 1) * (1073741824 * P L) ≤ (t + 1) * v (L + 1) * (1073741824 * P L) := mul_le_r (by rw [Int.add_mul]; omega) (by omega)
  have e2 : 0 ≤ (t + 1) * (v L * P L + val v L) := Int.mul_nonneg (by omega) (by have := Int.mul_nonneg vL.1 (Int.le_of_lt p); omega)
  have e3 : (t + 1) * V = (t + 1) * v (L + 1) * (1073741824 * P L) + (t + 1) * (v L * P L + val v L) := by rw [sV]; grind
  have e4 : U = (u (L + 2) * 1073741824 + u (L + 1) + 1) * (1073741824 * P L) - 1073741824 * P L + u L * P L + val u L := by rw [sU]; grind
  have e5 : u L * P L ≤ 1073741823 * P L := mul_le_r (by omega) (by omega)
  omega
theorem Stp.dec {u v : Nat → Int} {L : Nat} {U V : Int} (h : Stp u v L U V) {t l : Int} (ht : 0 ≤ t) (hh : u (L + 2) * 1073741824 + u (L + 1) = t * v (L + 1) + l) (hc : l * 1073741824 + u L < t * v L) : U < t * V :=
  knuth_dec h.splitV (val_nonneg (h.dv.le (by omega))) h.splitU (val_lt (h.du.le (by omega))) (P_pos L) hh ht hc
theorem Stp.big {u v : Nat → Int} {L : Nat} {U V : Int} (h : Stp u v L U V) {t : Int} (ht : 1073741823 < t) : U < t * V := by
  have := val_nonneg h.dv
  rw [← h.eV] at this
  have e : 1073741824 * V ≤ t * V := mul_le_r (by omega) this
  have := h.lt
  omega
theorem Stp.small {u v : Nat → Int} {L : Nat} {U V : Int} (h : Stp u v L U V) {t l : Int} (hh : u (L + 2) * 1073741824 + u (L + 1) = t * v (L + 1) + l) (hl : 1073741823 < l) : t < 1073741824 := by
  rcases Int.lt_or_le t 1073741824 with q | q
  · exact q
  · have a := h.topU
    have b := (h.du (L + 1) (by omega)).2
    have c := (h.dv (L + 1) (by omega)).1
    have e : 1073741824 * v (L + 1) ≤ t * v (L + 1) := mul_le_r q c
    omega
theorem Stp.long {u v : Nat → Int} {L : Nat} {U V : Int} (h : Stp u v L U V) {t l : Int} (ht : 0 ≤ t) (hh : u (L + 2) * 1073741824 + u (L + 1) = t * v (L + 1) + l) (hl : 1073741823 < l) (hU : U < (t + 1) * V) : Gs U V t := by
  have a := knuth_long h.splitV (val_lt (h.dv.le (by omega))) (h.dv L (by omega)).2 h.splitU (val_nonneg (h.du.le (by omega))) (h.du L (by omega)).1 (P_pos L) hh ht (h.small hh hl) (by omega)
  have := val_nonneg h.dv
  rw [← h.eV] at this
  exact ⟨ht, h.small hh hl, by rw [Int.sub_mul]; omega, hU⟩
theorem Stp.done {u v : Nat → Int} {L : Nat} {U V : Int} (h : Stp u v L U V) {t l : Int} (ht : 0 ≤ t) (hh : u (L + 2) * 1073741824 + u (L + 1) = t * v (L + 1) + l) (h1 : t < 1073741824) (hc : t * v L ≤ l * 1073741824 + u L) (hU : U < (t + 1) * V) : Gs U V t :=
  ⟨ht, h1, knuth_short h.splitV (val_nonneg (h.dv.le (by omega))) (val_lt (h.dv.le (by omega))) (by have := h.top; omega) (h.dv L (by omega)).1 h.splitU (val_nonneg (h.du.le (by omega))) (P_pos L) hh ht h1 hc, hU⟩

end Go.Proofs.YtmjdlcbiaglkeaaDoor

/-
  Package nat: takeOut (a divisor taken out of the highest digits as often as it goes), by its contract.
-/
namespace Go.Proofs.YtmjdlcbiaglkeaaDoor
open Go Go.RowKit Go.Proofs.YtmjdlcbiaglkeaaDoor.M
set_option linter.unusedSimpArgs false
set_option linter.unusedVariables false

theorem RowX.row {g : Nat} {w : World} {ao : Option Addr} {n cap : Nat} {d : Nat → Int} (h : RowX g w ao n cap d) (hn : 0 < n) : Row w ao n cap d :=
  ⟨h.le, h.max, (fun e => by obtain ⟨b, off, q, _⟩ := h.spot hn; rw [q] at e; cases e), fun _ => by
    obtain ⟨b, off, q, hlt, _, hc⟩ := h.spot hn
    exact ⟨b, off, q, hlt, hc⟩⟩
/-- What takeOut leaves: in the digits from at on a rest below V, t times V less. -/
def Tk (g N at_ M : Nat) (r : Nat → Int) (w w' : World) (U V t : Int) : Prop :=
  ∃ r', Blk w' g N r' ∧ (∀ i, i < at_ ∨ at_ + M < i → r' i = r i) ∧ Dig (fun i => r' (at_ + i)) (M + 1) ∧ U = t * V + val (fun i => r' (at_ + i)) (M + 1) ∧ val (fun i => r' (at_ + i)) (M + 1) < V ∧ 0 ≤ t ∧ t < 1073741824 ∧ Wr g w w'
theorem dig_upd {f : Nat → Int} {k : Nat} {x : Int} (h : Dig f k) (h0 : 0 ≤ x) (h1 : x < 1073741824) : Dig (upd f k x) (k + 1) := fun i hi => by
  by_cases e : i = k
  · rw [e, upd_same]; exact ⟨h0, h1⟩
  · rw [upd_other f x e]; exact h i (by omega)
theorem tk_end {R x p V : Int} (h0 : 0 ≤ R) (h1 : R < p) (hp : 0 < p) (hV : V < p) (h2 : 0 ≤ R + x * p) (h3 : R + x * p < V) : x = 0 := by
  rcases Int.lt_trichotomy x 0 with h | h | h
  · have : x * p ≤ -1 * p := mul_le_r (by omega) (by omega)
    omega
  · exact h
  · have : 1 * p ≤ x * p := mul_le_r (by omega) (by omega)
    omega
theorem Stp.facts {u v : Nat → Int} {L M : Nat} {U V : Int} (hM : M = L + 2) (h : Stp u v L U V) : Dig v M ∧ Dig u (M + 1) ∧ V = val v M ∧ U = val u M + u M * P M ∧ V < P M ∧ 0 ≤ U := by
  subst hM
  have e1 := h.eU
  have e2 := val_nonneg h.du
  have e3 := val_lt h.dv
  have e4 := h.eV
  refine ⟨h.dv, h.du, e4, ?_, by omega, by omega⟩
  rw [e1]; exact val_succ u (L + 2)
theorem Blk.cells {w : World} {g N : Nat} {r : Nat → Int} (h : Blk w g N r) {at_ n : Nat} (hn : at_ + n ≤ N) : ∀ i, i < n → w.cell? ⟨g, at_ + i, none⟩ = some (.int .i64 ((fun j => r (at_ + j)) i)) := fun i hi => h.cell (by omega)
end Go.Proofs.YtmjdlcbiaglkeaaDoor

/-
  The statements' own helper digits: a valid list out of any ints, by its contract.
-/
namespace Go.Proofs.YtmjdlcbiaglkeaaDoor
open Go Go.RowKit Go.Proofs.YtmjdlcbiaglkeaaDoor.M
set_option linter.unusedSimpArgs false
set_option linter.unusedVariables false

theorem Out.cut {B : Nat} {w : World} {ao : Option Addr} {n cap m : Nat} {d : Nat → Int} (h : Out B w (.slice ao n cap) n d) (hm : m ≤ n) : Out B w (.slice ao m cap) m d := by
  refine ⟨by rw [vals_length]; omega, ?_⟩
  rcases h.2 with ⟨hn, h0⟩ | ⟨g, cap', cur, hv, hB, hg, hnc, hcm, hs, ht⟩
  · simp only [Value.slice.injEq] at hn
    obtain ⟨rfl, rfl, rfl⟩ := hn
    obtain rfl : m = 0 := by omega
    exact .inl ⟨rfl, rfl⟩
  · simp only [Value.slice.injEq] at hv
    obtain ⟨rfl, _, rfl⟩ := hv
    refine .inr ⟨g, cap, cur, rfl, hB, hg, by omega, hcm, hs, ?_⟩
    apply vals_ext (by simp; omega)
    intro i hi
    have e : (cur.toList.take (n * 1))[i]? = (vals d n)[i]? := by rw [ht]
    rw [List.getElem?_take, if_pos (by omega), vals_get d (by omega)] at e
    rw [List.getElem?_take, if_pos (by omega)]; exact e

/-- A list of less than N digits. -/
def AnsLt (w w' : World) (N : Nat) (v : Value) : Prop := ∃ V, Ans w w' V v ∧ V < P N
def lenOf : Value → Nat | .slice _ t _ => t | _ => 0
theorem cat_last (f : Nat → Int) (k i : Nat) (hi : i < k + 1) : cat f k (fun _ => f k) i = f i := by
  by_cases h : i < k
  · simp [cat, h]
  · simp [cat, h]; rw [show i = k by omega]
end Go.Proofs.YtmjdlcbiaglkeaaDoor

/-
  Package nat: what stands behind divide's statements; mathematics of long division's rounds.
-/
namespace Go.Proofs.YtmjdlcbiaglkeaaDoor
open Go Go.RowKit Go.Proofs.YtmjdlcbiaglkeaaDoor.M
set_option linter.unusedSimpArgs false
set_option linter.unusedVariables false

theorem bel_undrew {B : Nat} {a w : World} (h : Below B a.drew w) : Below B a w := ⟨h.os, h.tape, h.output, h.size, h.block⟩
theorem Row.drew {w : World} {ao : Option Addr} {n cap : Nat} {d : Nat → Int} (h : Row w ao n cap d) : Row w.drew ao n cap d := ⟨h.le, h.max, h.nl, h.spot⟩
theorem blk_make (w : World) (N : Nat) {g : Nat} (hg : g = w.heap.size) : Blk (w.alloc (.cells (madeCells #[.int .i64 0] N) 3)) g N (fun _ => 0) := by
  subst hg
  refine ⟨_, heap_alloc_new w _, by simp [madeCells], fun i hi => ?_⟩
  rw [← Array.getElem?_toList, toList_madeCells_one]; simp [hi]
/-- What stands behind 'rest, by := make([]int, len(a)+1), raise(b, shift)', in whatever order. -/
def Cut8 (w : World) (n : Nat) (V : Int) (sr sb : Value) (wx : World) : Prop :=
  ∃ g, sr = .slice (some ⟨g, 0, none⟩) (n + 1) (n + 1) ∧ w.heap.size ≤ g ∧ Blk wx g (n + 1) (fun _ => 0) ∧ Below w.heap.size w wx ∧ ∃ bo cb t v, sb = .slice bo t cb ∧ RowX g wx bo t cb v ∧ Nrm v t ∧ val v t = V
theorem cut8_a {w w2 w3 : World} {n : Nat} {V : Int} {v : Value} (b1 : Below w.heap.size w w2) (hv : Ans (w2.alloc (.cells (madeCells #[.int .i64 0] (n + 1)) 3)).drew w3 V v) :
    Cut8 w n V (.slice (some ⟨w2.heap.size, 0, none⟩) (n + 1) (n + 1)) v w3 := by
  have b2 : Below (w2.alloc (.cells (madeCells #[.int .i64 0] (n + 1)) 3)).heap.size (w2.alloc (.cells (madeCells #[.int .i64 0] (n + 1)) 3)) w3 := bel_undrew hv.below
  have hB := (blk_make w2 (n + 1) rfl).keeps b2
  obtain ⟨t, d, hO, hN, hV, _⟩ := hv
  obtain ⟨ao, cap, rfl, hR⟩ := hO.row
  refine ⟨_, rfl, b1.size, hB, bel_trans (bel_trans b1 (bel_alloc _ _)) b2, ao, cap, t, d, rfl, ⟨hR.le, hR.max, fun hn => ?_⟩, hN, hV⟩
  obtain ⟨b, off, rfl, hlt, hc⟩ := hR.spot hn
  obtain ⟨g, hg, hge, _⟩ := hO.spot hn
  simp only [Option.some.injEq, Addr.mk.injEq] at hg
  have e : (w2.alloc (.cells (madeCells #[.int .i64 0] (n + 1)) 3)).drew.heap.size = w2.heap.size + 1 := by show (w2.alloc _).heap.size = _; simp
  rw [e] at hge
  exact ⟨b, off, rfl, hlt, by omega, hc⟩
theorem cut8_b {w w2 w3 : World} {n : Nat} {V : Int} {v : Value} (b1 : Below w.heap.size w w2) (hv : Ans w2.drew w3 V v) {w4 : World} (e4 : w4 = w3.alloc (.cells (madeCells #[.int .i64 0] (n + 1)) 3)) :
    Cut8 w n V (.slice (some ⟨w3.heap.size, 0, none⟩) (n + 1) (n + 1)) v w4 := by
  subst e4
  have b2 : Below w2.heap.size w2 w3 := bel_undrew hv.below
  have b3 := bel_trans b1 b2
  obtain ⟨t, d, hO, hN, hV, _⟩ := hv
  obtain ⟨ao, cap, rfl, hR⟩ := hO.row
  refine ⟨_, rfl, b3.size, blk_make w3 (n + 1) rfl, bel_trans b3 (bel_alloc _ _), ao, cap, t, d, rfl, ⟨hR.le, hR.max, fun hn => ?_⟩, hN, hV⟩
  obtain ⟨b, off, rfl, hlt, hc⟩ := (hR.alloc _).spot hn
  obtain ⟨b', off', q, hlt', _⟩ := hR.spot hn
  simp only [Option.some.injEq, Addr.mk.injEq] at q
  exact ⟨b, off, rfl, hlt, by omega, hc⟩

/-- Digits laid over others. -/
def ov (e : Nat → Int) (m : Nat) (r : Nat → Int) : Nat → Int := fun i => if i < m then e i else r i
/-- 'copy(xs, ys)', xs a block of the call's own, ys not longer, not empty. -/
theorem wpList_cp {w : World} {ops : Array Oper} {rest : List Oper} {o : Oper} {a : Act} {Q : Exit → Act → World → Prop} (hgd : o.guard = none) (d s : Operand)
    (ho : o.op = .call { callee := .builtin .copy, args := #[d, s], argTypes := #[24, 24] }) (g N : Nat) (r : Nat → Int) (hd : a.eval d = .slice (some ⟨g, 0, none⟩) N N) (hB : Blk w g N r)
    (bo : Option Addr) (m cb : Nat) (e : Nat → Int) (hs : a.eval s = .slice bo m cb) (hR : Row w bo m cb e) (hm0 : 0 < m) (hmN : m ≤ N)
    (h : ∀ w', Blk w' g N (ov e m r) → Wr g w w' → wpList Tryd.prog ops Q rest (a.put o.dst (goInt m)) w') : wpList Tryd.prog ops Q (o :: rest) a w := by
  obtain ⟨b, off, rfl, hlt, hc⟩ := hR.spot hm0
  obtain ⟨cur, hg, hsz, hcur⟩ := hB
  have hl : (vals e m).length = m := vals_length e m
  refine wpList_copy_own hgd d s 24 24 ho 3 Tryd.underlying24 (by kernel_rfl) g 0 N N ⟨b, off, none⟩ m cb hd hs cur 3 hg (vals e m) (by rw [hl]; exact (Nat.min_eq_left hmN).symm) ?_ (by omega) (vals_one e m) ?_
  · intro j u hu
    have hj : j < m := by have := (List.getElem?_eq_some_iff.1 hu).1; rwa [hl] at this
    rw [vals_get e hj] at hu
    rw [add_none, hc j hj]; exact hu
  · rw [hl]
    refine h _ ⟨_, setRow_heap w g _ _ _ _ hg, ?_, ?_⟩ ⟨rfl, rfl, rfl, by simp, fun k _ hk => setRow_other w g k _ hk⟩
    · simp [hl]; omega
    · intro i hi
      rw [List.getElem?_toArray, List.take_zero, List.nil_append]
      by_cases him : i < m
      · rw [List.getElem?_append_left (by omega), vals_get e him]; simp [ov, him]
      · rw [List.getElem?_append_right (by omega), hl, List.getElem?_drop, Array.getElem?_toList, show 0 + m + (i - m) = i by omega, hcur i hi]; simp [ov, him]
theorem norm_div {b v : Nat → Int} {m t s : Nat} (nb : Nrm b m) (hm : 0 < m) (hs : s + blen (b (m - 1)) = 30) (nv : Nrm v t) (hv : val v t = val b m * 2 ^ s) : t = m ∧ 536870912 ≤ v (m - 1) := by
  obtain ⟨k, rfl⟩ : ∃ k, m = k + 1 := ⟨m - 1, by omega⟩
  rw [Nat.add_sub_cancel] at hs ⊢
  have hx0 : 0 < b k := by
    have h1 := nb.1 k (by omega)
    rcases nb.2 with e | e
    · omega
    · rw [Nat.add_sub_cancel] at e; omega
  obtain ⟨c1, c2⟩ := blen_pos hx0
  have c3 := blen_lt (b k)
  have lo0 := val_nonneg (nb.1.le (Nat.le_succ k))
  have lo1 := val_lt (nb.1.le (Nat.le_succ k))
  have pk := P_pos k
  have ps := two_pos s
  have e29 : (2 : Int) ^ (blen (b k) - 1) * 2 ^ s = 536870912 := by rw [← Int.pow_add, show blen (b k) - 1 + s = 29 by omega]; rfl
  have e30 : (2 : Int) ^ blen (b k) * 2 ^ s = 1073741824 := by rw [← Int.pow_add, show blen (b k) + s = 30 by omega]; rfl
  have f1 : (2 : Int) ^ (blen (b k) - 1) * 2 ^ s ≤ b k * 2 ^ s := mul_le_r c2 (by omega)
  have f2 : (b k + 1) * 2 ^ s ≤ 2 ^ blen (b k) * 2 ^ s := mul_le_r (by omega) (by omega)
  rw [e29] at f1
  rw [e30] at f2
  have g1 : 536870912 * P k ≤ b k * 2 ^ s * P k := mul_le_r f1 (by omega)
  have g2 : (b k + 1) * 2 ^ s * P k ≤ 1073741824 * P k := mul_le_r f2 (by omega)
  have g3 : 0 ≤ val b k * 2 ^ s := Int.mul_nonneg lo0 (by omega)
  have g4 : (val b k + 1) * 2 ^ s ≤ P k * 2 ^ s := mul_le_r (by omega) (by omega)
  have eV : val v t = val b k * 2 ^ s + b k * 2 ^ s * P k := by rw [hv, val_succ]; grind
  have g5 : (b k + 1) * 2 ^ s * P k = b k * 2 ^ s * P k + P k * 2 ^ s := by grind
  rw [Int.add_mul, Int.one_mul] at g4
  have V1 : 536870912 * P k ≤ val v t := by omega
  have V2 : val v t < P (k + 1) := by rw [P_succ]; omega
  have t1 : t ≤ k + 1 := by
    by_cases h : t ≤ k + 1
    · exact h
    · have a := val_top nv.1 (by omega) nv.2
      have b := P_le (show k + 1 ≤ t - 1 by omega)
      omega
  have t2 : k + 1 ≤ t := by
    by_cases h : k + 1 ≤ t
    · exact h
    · have a := val_lt nv.1
      have b := P_le (show t ≤ k by omega)
      omega
  obtain rfl : t = k + 1 := by omega
  refine ⟨rfl, ?_⟩
  rw [val_succ] at V1
  have w1 := val_lt (nv.1.le (Nat.le_succ k))
  rcases Int.lt_or_le (v k) 536870912 with q | q
  · have : (v k + 1) * P k ≤ 536870912 * P k := mul_le_r (by omega) (by omega)
    rw [Int.add_mul] at this
    omega
  · exact q
theorem dig_zero {f : Nat → Int} {N M : Nat} (h : Dig f N) (hM : M ≤ N) (hv : val f N < P M) : ∀ i, M ≤ i → i < N → f i = 0 := by
  have e := val_split f M (N - M)
  rw [show M + (N - M) = N by omega] at e
  have a := val_nonneg (h.le hM)
  have dh : Dig (fun i => f (M + i)) (N - M) := fun i hi => h (M + i) (by omega)
  have b := val_nonneg dh
  have pm := P_pos M
  have z : val (fun i => f (M + i)) (N - M) = 0 := by
    rcases Int.lt_or_eq_of_le b with q | q
    · have : P M * 1 ≤ P M * val (fun i => f (M + i)) (N - M) := mul_le_l (by omega) (by omega)
      omega
    · exact q.symm
  have z2 : val (fun _ : Nat => (0 : Int)) (N - M) = 0 := val_zeros (Nat.zero_le _) (fun _ _ _ => rfl)
  intro i hi hiN
  have := val_inj dh (zero_dig (N - M)) (z.trans z2.symm) (i - M) (by omega)
  rwa [show M + (i - M) = i by omega] at this
theorem val_mid {r : Nat → Int} {at_ M N : Nat} (h : at_ + M ≤ N) (hz : ∀ i, at_ + M ≤ i → i < N → r i = 0) : val r N = val r at_ + P at_ * val (fun i => r (at_ + i)) M := by
  rw [val_zeros h hz, val_split]
/-- The highest digits, of which a divisor is taken out. -/
theorem div_round {r : Nat → Int} {at_ m N : Nat} {V : Int} (hd : Dig r N) (h : at_ + (m + 1) ≤ N) (hV : V < P m) (hlt : val r N < V * P (at_ + 1)) :
    (∀ i, at_ + (m + 1) ≤ i → i < N → r i = 0) ∧ val r N = val r at_ + P at_ * val (fun i => r (at_ + i)) (m + 1) ∧ val (fun i => r (at_ + i)) (m + 1) < 1073741824 * V := by
  have pa := P_pos at_
  have h1 : V * P (at_ + 1) ≤ P m * P (at_ + 1) := mul_le_r (by omega) (Int.le_of_lt (P_pos _))
  rw [← P_add, show m + (at_ + 1) = at_ + (m + 1) by omega] at h1
  have hz := dig_zero hd h (by omega)
  have e := val_mid h hz
  refine ⟨hz, e, ?_⟩
  have lo := val_nonneg (hd.le (show at_ ≤ N by omega))
  rcases Int.lt_or_le (val (fun i => r (at_ + i)) (m + 1)) (1073741824 * V) with q | q
  · exact q
  · have : P at_ * (1073741824 * V) ≤ P at_ * val (fun i => r (at_ + i)) (m + 1) := mul_le_l q (by omega)
    rw [P_succ] at hlt
    have e2 : V * (P at_ * 1073741824) = P at_ * (1073741824 * V) := by grind
    omega
theorem Num.cut_row {w : World} {ao : Option Addr} {n cap t : Nat} {d : Nat → Int} (h : Row w ao n cap d) (ht : t ≤ n) : ∃ ao' cap', cutV ao t cap = .slice ao' t cap' ∧ Row w ao' t cap' d := by
  unfold cutV
  split
  · rename_i e; subst e; exact ⟨none, 0, rfl, Row.nil _ _⟩
  · exact ⟨ao, cap, rfl, ⟨by have := h.le; omega, h.max, h.nl, fun hn => by
      obtain ⟨b, off, rfl, hlt, hc⟩ := h.spot (by omega)
      exact ⟨b, off, rfl, hlt, fun i hi => hc i (by omega)⟩⟩⟩
theorem cut_block {g t N k : Nat} (h : (cutV (some ⟨g, 0, none⟩) t N).ownBlock = some k) : k = g := by
  unfold cutV at h
  split at h
  · simp [Value.ownBlock] at h
  · simp [Value.ownBlock] at h; exact h.symm
/-- Two answers, in memory of their own each. -/
def Ans2 (w w' : World) (V1 : Int) (v1 : Value) (V2 : Int) (v2 : Value) : Prop := Ans w w' V1 v1 ∧ Ans w w' V2 v2 ∧ ∀ k, v1.ownBlock = some k → v2.ownBlock ≠ some k
/-- A quotient of shifted numbers, and its rest shifted back. -/
theorem div_back {A B Q X : Int} {s : Nat} (h : A * 2 ^ s = Q * (B * 2 ^ s) + X) (h0 : 0 ≤ X) (h1 : X < B * 2 ^ s) : Q = A / B ∧ X / 2 ^ s = A % B := by
  have ps := two_pos s
  have e1 : X = (A - Q * B) * 2 ^ s := by rw [Int.sub_mul]; grind
  have hR : X / 2 ^ s = A - Q * B := by rw [e1, Int.mul_ediv_cancel _ (by omega)]
  have r0 : 0 ≤ A - Q * B := by rw [← hR]; exact Int.ediv_nonneg h0 (by omega)
  have r1 : A - Q * B < B := by
    rcases Int.lt_or_le (A - Q * B) B with q | q
    · exact q
    · have : B * 2 ^ s ≤ (A - Q * B) * 2 ^ s := mul_le_r q (by omega)
      omega
  have := div_of (a := A) (b := B) (q := Q) (r := A - Q * B) (by omega) r0 r1
  exact ⟨this.1, by rw [hR]; exact this.2⟩

/-- Behind k rounds of a long division: the quotient's highest k digits stand, the rest is that much less. -/
def DivR (w0 : World) (g gq n t K : Nat) (v : Nat → Int) (byo : Option Addr) (bcap : Nat) (AA V : Int) (k : Nat) (wr : World) : Prop :=
  ∃ r qf, Blk wr g (n + 1) r ∧ Dig r (n + 1) ∧ Blk wr gq K qf ∧ Dig qf K ∧ (∀ i, i < K - k → qf i = 0) ∧ AA = val qf K * V + val r (n + 1) ∧ val r (n + 1) < V * P (K - k) ∧ RowX g wr byo t bcap v ∧ Below w0.heap.size w0 wr
theorem stp_of {r v : Nat → Int} {n t K L at_ k : Nat} {V : Int} (hK : K = at_ + 1 + k) (hL : t = L + 2) (hK1 : K + t ≤ n + 1) (hDr : Dig r (n + 1)) (hlt : val r (n + 1) < V * P (K - k)) (hV : V = val v t) (hv : Nrm v t) (htop : 536870912 ≤ v (t - 1)) :
    Stp (fun i => r (at_ + i)) v L (val (fun i => r (at_ + i)) (t + 1)) V := by
  subst hL
  have h := div_round (at_ := at_) (m := L + 2) (V := V) hDr (by omega) (by rw [hV]; exact val_lt hv.1) (by rwa [show at_ + 1 = K - k by omega])
  exact ⟨fun i hi => hDr (at_ + i) (by omega), hv.1, htop, rfl, hV, h.2.2⟩
theorem DivR.step {w0 : World} {g gq n t K : Nat} {v r qf : Nat → Int} {byo : Option Addr} {bcap : Nat} {AA V q : Int} {k at_ : Nat} {wr w7 : World} (hK : K = at_ + 1 + k) (hK1 : K + t ≤ n + 1)
    (hBr : Blk wr g (n + 1) r) (hDr : Dig r (n + 1)) (hBq : Blk wr gq K qf) (hDq : Dig qf K) (hzq : ∀ i, i < K - k → qf i = 0) (hA : AA = val qf K * V + val r (n + 1)) (hlt : val r (n + 1) < V * P (K - k)) (hX : RowX g wr byo t bcap v) (hbw : Below w0.heap.size w0 wr)
    (hVt : V < P t) (hne : gq ≠ g) (hg : w0.heap.size ≤ g) (hgq : w0.heap.size ≤ gq) (hne2 : 0 < t → ∀ b off, byo = some ⟨b, off, none⟩ → b ≠ gq) (hT : Tk g (n + 1) at_ t r wr w7 (val (fun i => r (at_ + i)) (t + 1)) V q) :
    DivR w0 g gq n t K v byo bcap AA V (k + 1) (w7.setCell ⟨gq, at_, none⟩ (.int .i64 q)) := by
  obtain ⟨r', hB7, hS7, hD7, hU7, hlt7, hq0, hq1, hw7⟩ := hT
  obtain ⟨hz, e, _⟩ := div_round (at_ := at_) (m := t) hDr (by omega) hVt (by rwa [show at_ + 1 = K - k by omega])
  have hBq7 : Blk w7 gq K qf := hBq.of_block (hw7.block gq hBq.lt hne)
  have hz' : ∀ i, at_ + (t + 1) ≤ i → i < n + 1 → r' i = 0 := fun i a b => by rw [hS7 i (by omega)]; exact hz i a b
  have e' := val_mid (r := r') (show at_ + (t + 1) ≤ n + 1 by omega) hz'
  have elo : val r' at_ = val r at_ := val_congr fun i hi => hS7 i (by omega)
  have hD' : Dig r' (n + 1) := fun i hi => by
    by_cases c : i < at_ ∨ at_ + t < i
    · rw [hS7 i c]; exact hDr i hi
    · have := hD7 (i - at_) (by omega)
      simp only [show at_ + (i - at_) = i by omega] at this
      exact this
  have lo0 := val_lt (hDr.le (show at_ ≤ n + 1 by omega))
  refine ⟨r', upd qf at_ q, hB7.apart (by simpa using hne.symm) _, hD', hBq7.store at_ q, hDq.upd _ ⟨hq0, hq1⟩, fun i hi => ?_, ?_, ?_, ?_, ?_⟩
  · rw [upd_other qf _ (by omega)]; exact hzq i (by omega)
  · rw [hA, val_upd qf q (show at_ < K by omega), hzq at_ (by omega), e, e', elo, hU7]; grind
  · rw [show K - (k + 1) = at_ by omega, e', elo]
    have h1 : (val (fun i => r' (at_ + i)) (t + 1) + 1) * P at_ ≤ V * P at_ := mul_le_r (by omega) (Int.le_of_lt (P_pos _))
    rw [Int.add_mul] at h1
    have h2 : P at_ * val (fun i => r' (at_ + i)) (t + 1) = val (fun i => r' (at_ + i)) (t + 1) * P at_ := Int.mul_comm _ _
    omega
  · have hx := hX.keeps hw7
    refine ⟨hx.le, hx.max, fun hn => ?_⟩
    obtain ⟨b, off, eb, hlt, hbg, hc⟩ := hx.spot hn
    exact ⟨b, off, eb, by simpa using hlt, hbg, fun i hi => by
      have := World.cell?_of_block (w := w7) (a := ⟨b, off + i, none⟩) (heap_setCell_other w7 ⟨gq, at_, none⟩ b (.int .i64 q) (hne2 hn b off eb))
      rw [this]; exact hc i hi⟩
  · exact (hw7.below hbw (by exact hbw.size) hg).setCell hgq _
theorem DivR.done {w0 : World} {g gq n t K : Nat} {v : Nat → Int} {byo : Option Addr} {bcap : Nat} {AA V : Int} {wr : World} (h : DivR w0 g gq n t K v byo bcap AA V K wr) :
    ∃ r qf, Blk wr g (n + 1) r ∧ Dig r (n + 1) ∧ Blk wr gq K qf ∧ Dig qf K ∧ AA = val qf K * V + val r (n + 1) ∧ val r (n + 1) < V ∧ Below w0.heap.size w0 wr := by
  obtain ⟨r, qf, h1, h2, h3, h4, _, h5, h6, _, h7⟩ := h
  rw [Nat.sub_self] at h6
  have e : V * P 0 = V := by show V * 1 = V; omega
  exact ⟨r, qf, h1, h2, h3, h4, h5, by omega, h7⟩
theorem ov_val {d : Nat → Int} {t N : Nat} (h : t ≤ N) : val (ov d t (fun _ => 0)) N = val d t := by
  rw [val_zeros h (fun i a _ => by simp [ov]; omega)]
  exact val_congr fun i hi => by simp [ov, hi]
theorem ov_dig {d : Nat → Int} {t N : Nat} (h : Dig d t) : Dig (ov d t (fun _ => 0)) N := fun i _ => by
  by_cases e : i < t
  · simp only [ov, e, if_true]; exact h i e
  · simp only [ov, e, if_false]; omega
end Go.Proofs.YtmjdlcbiaglkeaaDoor

/-
  Package nat: divide, by its contract.
-/
namespace Go.Proofs.YtmjdlcbiaglkeaaDoor
open Go Go.RowKit Go.Proofs.YtmjdlcbiaglkeaaDoor.M
set_option linter.unusedSimpArgs false
set_option linter.unusedVariables false

theorem Out.cutV {B : Nat} {w : World} {ao : Option Addr} {n cap t : Nat} {d : Nat → Int} (h : Out B w (.slice ao n cap) n d) (ht : t ≤ n) : Out B w (cutV ao t cap) t d := by
  unfold Go.Proofs.YtmjdlcbiaglkeaaDoor.cutV
  split
  · rename_i e; subst e; exact Out.nil _ _ _
  · exact h.cut ht
end Go.Proofs.YtmjdlcbiaglkeaaDoor

/-
  Package nat: power, Pow, Shl, by contracts: for every number, every exponent.
-/
namespace Go.Proofs.YtmjdlcbiaglkeaaDoor
open Go Go.RowKit Go.Proofs.YtmjdlcbiaglkeaaDoor.M
set_option linter.unusedSimpArgs false
set_option linter.unusedVariables false

theorem pow_pos1 {A : Int} (h : 1 ≤ A) (i : Nat) : 1 ≤ A ^ i := by
  induction i with
  | zero => rw [Int.pow_zero]; omega
  | succ i ih =>
    rw [Int.pow_succ]
    have := Int.mul_le_mul ih h (by omega) (by omega)
    omega
theorem pow_mono {A : Int} (h : 1 ≤ A) {i j : Nat} (hij : i ≤ j) : A ^ i ≤ A ^ j := by
  obtain ⟨d, rfl⟩ := Nat.exists_eq_add_of_le hij
  rw [Int.pow_add]
  have a := pow_pos1 h i
  have b := pow_pos1 h d
  have : A ^ i * 1 ≤ A ^ i * A ^ d := Int.mul_le_mul_of_nonneg_left b (by omega)
  omega
theorem and_1 (x : Int) : bits .and .i64 x 1 = x % 2 := and_i64_mask x 1 (by decide)
theorem ans_one (w : World) {g : Nat} (hg : g = w.heap.size) : Ans w (w.alloc (.cells #[.int .i64 1] 3)) 1 (.slice (some ⟨g, 0, none⟩) 1 1) := by
  subst hg
  refine ⟨1, fun _ => 1, (Blk.new w #[.int .i64 1] (fun _ => 1) (fun i hi => by simp at hi; subst hi; rfl)).out (Nat.le_refl _) (Nat.le_refl _) (show 1 ≤ 9223372036854775807 by decide), ⟨fun i _ => by show (0 : Int) ≤ 1 ∧ (1 : Int) < 1073741824; omega, .inr (by show (1 : Int) ≠ 0; omega)⟩, by show (0 : Int) + 1 * 1 = 1; omega, bel_alloc _ _⟩
theorem half_pow (k b : Nat) : k / 2 ^ b = 2 * (k / 2 ^ (b + 1)) + k / 2 ^ b % 2 := by
  rw [Nat.pow_succ, ← Nat.div_div_eq_div_mul]; omega
end Go.Proofs.YtmjdlcbiaglkeaaDoor

/-
  math/bits.TrailingZeros; nat's lowest, Low, Bit, Shr, Div, by contracts.
-/
namespace Go.Proofs.YtmjdlcbiaglkeaaDoor
open Go Go.RowKit Go.Proofs.YtmjdlcbiaglkeaaDoor.M
set_option linter.unusedSimpArgs false
set_option linter.unusedVariables false

/-- The library's table of trailing zeros. -/
def Tab (w : World) : Prop := ∀ j, j < 64 → w.cell? ⟨3, j, none⟩ = some (.int .u8 ((Lib.deBruijn64tab.getD j 0 : Nat) : Int))
theorem Tab.keeps {w w' : World} (h : Tab w) (hb : Below w.heap.size w w') : Tab w' := fun j hj =>
  (hb.cell (p := ⟨3, j, none⟩) (World.block_lt_of_cell? w _ (h j hj))).trans (h j hj)
theorem tz_key (x a : Nat) (hx : x < 18446744073709551616) (hx0 : x ≠ 0) (hlow : x &&& (18446744073709551616 - x) = a) :
    IntKind.u64.wrap (bits .and .u64 (x : Int) (IntKind.u64.wrap (-(x : Int))) * 285870213051353865) / 288230376151711744 = ((a * 285870213051353865 % 18446744073709551616 / 288230376151711744 : Nat) : Int) := by
  have e1 : IntKind.u64.wrap (-(x : Int)) = ((18446744073709551616 - x : Nat) : Int) := by rw [IntKind.wrap_u64]; omega
  rw [e1, bits_and_u64_nat x _ hx (by omega), hlow, IntKind.wrap_u64]
  omega
set_option maxHeartbeats 1000000 in
theorem tz_core (x k idx : Nat) (w : World) (hx0 : ((x : Int) == 0) = false)
    (key : IntKind.u64.wrap (bits .and .u64 (x : Int) (IntKind.u64.wrap (-(x : Int))) * 285870213051353865) / 288230376151711744 = (idx : Int))
    (hi : idx < 64) (hk : k < 64) (hcell : w.cell? ⟨3, idx, none⟩ = some (.int .u8 k)) :
    Calls Tryd.prog 55 #[.int .u64 x] w fun e w' => e = .returned (.int .i64 k) ∧ w' = w := by
  go_enter Tryd.func55, Tryd.ntmps55
  go_wp2_with (simp only [key])
  go_ret
  exact ⟨rfl, rfl⟩
theorem trailing64 (x : Nat) (hx : x < 18446744073709551616) (h0 : x ≠ 0) (w : World) (hT : Tab w) :
    Calls Tryd.prog 55 #[.int .u64 x] w fun e w' => e = .returned (.int .i64 (Lib.ctz 64 x)) ∧ w' = w := by
  obtain ⟨hlow, hk⟩ := Lib.lowest_bit 64 x h0 hx
  obtain ⟨hi, htab⟩ := Lib.deBruijn64_at _ hk
  have hcell := hT _ hi
  rw [htab] at hcell
  exact tz_core x _ _ w (by simp; omega) (tz_key x _ hx h0 hlow) hi hk hcell
theorem trailing64I (x : Int) (hx0 : 0 < x) (hx : x < 1073741824) (w : World) (hT : Tab w) :
    Calls Tryd.prog 55 #[.int .u64 x] w fun e w' => ∃ l : Nat, e = .returned (.int .i64 l) ∧ (l < 64 ∧ IsLow x l) ∧ w' = w := by
  obtain ⟨n, rfl⟩ := Int.eq_ofNat_of_zero_le (Int.le_of_lt hx0)
  obtain ⟨m, hm, hk⟩ := Lib.ctzFrom_spec 64 n (by omega) (by omega)
  have e : Lib.ctz 64 n = Lib.ctzFrom 64 n := by simp [Lib.ctz]; omega
  rw [← e] at hm hk
  refine (trailing64 n (by omega) (by omega) _ hT).mono ?_
  rintro e w' ⟨rfl, rfl⟩
  refine ⟨_, rfl, ⟨hk, m, ?_⟩, rfl⟩
  have : ((n : Nat) : Int) = ((2 ^ Lib.ctz 64 n * (2 * m + 1) : Nat) : Int) := congrArg _ hm
  rw [this, Int.natCast_mul, Int.mul_comm]; simp
theorem trailing (x : Int) (hx0 : 0 < x) (hx : x < 1073741824) (w : World) (hT : Tab w) :
    Calls Tryd.prog 44 #[.int .u64 x] w fun e w' => ∃ l : Nat, e = .returned (.int .i64 l) ∧ (l < 64 ∧ IsLow x l) ∧ w' = w := by
  go_enter Tryd.func44, Tryd.ntmps44
  go_wp2_with fail
  refine (trailing64I x hx0 hx _ hT).mono ?_
  rintro e w' ⟨l, rfl, hl, rfl⟩
  go_wp2
  go_ret
  exact ⟨_, rfl, hl, rfl⟩
theorem low_unique {V : Int} {l k : Nat} (h : IsLow V l) (h' : IsLow V k) : l = k := by
  have key : ∀ (l k : Nat) (V : Int), IsLow V l → IsLow V k → ¬ l < k := fun l k V ⟨m, hm⟩ ⟨m', hm'⟩ hlt => by
    obtain ⟨d, rfl⟩ : ∃ d, k = l + 1 + d := ⟨k - l - 1, by omega⟩
    rw [hm, Int.pow_add, Int.pow_add] at hm'
    have e : (2 * m + 1) * 2 ^ l = ((2 * m' + 1) * (2 ^ d * 2)) * 2 ^ l := by rw [hm']; grind
    have e2 := Int.eq_of_mul_eq_mul_right (Int.ne_of_gt (two_pos l)) e
    have e3 : (2 * m' + 1) * (2 ^ d * 2) = 2 * ((2 * m' + 1) * 2 ^ d) := by grind
    rw [e3] at e2
    generalize (2 * m' + 1) * 2 ^ d = Z at e2
    omega
  rcases Nat.lt_trichotomy l k with q | q | q
  · exact absurd q (key l k V h h')
  · exact q
  · exact absurd q (key k l V h' h)
theorem low_shift {V : Int} {l k : Nat} (h : IsLow V l) : IsLow (V * 2 ^ k) (l + k) := by
  obtain ⟨m, rfl⟩ := h
  exact ⟨m, by rw [Int.pow_add, Int.mul_assoc]⟩
theorem isLow_val {d : Nat → Int} {n i l : Nat} (hi : i < n) (hz : ∀ j, j < i → d j = 0) (h : IsLow (d i) l) (hl : l < 30) : IsLow (val d n) (30 * i + l) := by
  obtain ⟨m, hm⟩ := h
  have e1 : val d n = P i * val (fun j => d (i + j)) (n - i) := by
    have := val_shift0 d i (n - i) hz
    rwa [show i + (n - i) = n by omega] at this
  obtain ⟨r, hr⟩ : ∃ r, n - i = r + 1 := ⟨n - i - 1, by omega⟩
  have e2 : val (fun j => d (i + j)) (n - i) = d i + 1073741824 * val (fun j => d (i + (j + 1))) r := by
    rw [hr]
    have h := val_split (fun j => d (i + j)) 1 r
    rw [Nat.add_comm 1 r] at h
    rw [h]
    have e : (fun j => d (i + (1 + j))) = fun j => d (i + (j + 1)) := by funext j; rw [Nat.add_comm 1 j]
    show 0 + d (i + 0) * 1 + 1 * 1073741824 * _ = _
    rw [e, Nat.add_zero]; omega
  have e3 : (1073741824 : Int) = 2 ^ l * (2 * 2 ^ (29 - l)) := by
    rw [← Int.mul_assoc, Int.mul_comm (2 ^ l) 2, Int.mul_assoc, ← Int.pow_add, show l + (29 - l) = 29 by omega]; rfl
  refine ⟨m + 2 ^ (29 - l) * val (fun j => d (i + (j + 1))) r, ?_⟩
  rw [e1, e2, hm, e3, Int.pow_add, ← P_two]
  grind
theorem low_lt {x : Int} {l : Nat} (h0 : 0 < x) (h1 : x < 1073741824) (h : IsLow x l) : l < 30 := by
  obtain ⟨m, hm⟩ := h
  rcases Nat.lt_or_ge l 30 with q | q
  · exact q
  · have h2 : (2 : Int) ^ 30 ≤ 2 ^ l := two_le q
    have h3 : 0 < 2 * m + 1 := by
      rcases Int.lt_or_le 0 (2 * m + 1) with r | r
      · exact r
      · have := Int.mul_nonneg (show 0 ≤ -(2 * m + 1) by omega) (Int.le_of_lt (two_pos l))
        rw [Int.neg_mul, ← hm] at this
        omega
    have h4 : 1 * 2 ^ l ≤ (2 * m + 1) * 2 ^ l := mul_le_r (by omega) (Int.le_of_lt (two_pos l))
    have h5 : (2 : Int) ^ 30 = 1073741824 := rfl
    omega
/-- What lowest tells. -/
def LowA (V l : Int) : Prop := (V = 0 ∧ l = -1) ∨ ∃ k : Nat, l = k ∧ IsLow V k
set_option maxHeartbeats 400000 in
theorem lowest_any (ao : Option Addr) (n cap : Nat) (d : Nat → Int) (w : World) (h : Row w ao n cap d) (hd : Dig d n) (hn : n ≤ 100000) (hT : Tab w) :
    Calls Tryd.prog 33 #[.slice ao n cap] w fun e w' => ∃ l, e = .returned (.int .i64 l) ∧ LowA (val d n) l ∧ w' = w := by
  have hl := h.le
  have hm := h.max
  go_enter Tryd.func33, Tryd.ntmps33
  go_wp2
  go_loop [6] (fun i => ∃ k : Nat, k ≤ n ∧ i = .int .i64 k ∧ Hid (∀ j, j < k → d j = 0)) (fun i => n - (intOf i).toNat)
  case atStart => exact ⟨0, Nat.zero_le _, rfl, fun j hj => by omega⟩
  case round =>
    obtain ⟨k, hk, rfl, HZ⟩ := hrel
    by_cases hlt : k < n
    · obtain ⟨b, off, rfl, hb, hc⟩ := h.spot (by omega)
      have c := hc k hlt
      have dk := hd k hlt
      by_cases hz : d k = 0
      · go_wp2
        go_round
        case rel => exact ⟨k + 1, by omega, by go_num, fun j hj => by by_cases e : j = k; (· rw [e]; exact hz); (· exact HZ.out j (by omega))⟩
        case measure => simp [intOf]; omega
      · have hp : 0 < d k := by omega
        go_wp2_with fail
        refine (trailing (d k) hp dk.2 _ hT).mono ?_
        rintro e w' ⟨l, rfl, ⟨hl64, hlow⟩, rfl⟩
        go_wp2
        go_ret
        exact ⟨_, rfl, .inr ⟨30 * k + l, by omega, isLow_val hlt HZ.out hlow (low_lt hp dk.2 hlow)⟩, rfl⟩
    · obtain rfl : k = n := by omega
      go_wp2
      go_ret
      exact ⟨_, rfl, .inl ⟨val_zeros (Nat.zero_le k) (fun i _ hi => HZ.out i hi), rfl⟩, rfl⟩
/-- Is bit i set? -/
def bitB (V : Int) (i : Nat) : Bool := V / 2 ^ i % 2 == 1
theorem bit_val {d : Nat → Int} {n q p : Nat} (hd : Dig d n) (hq : q < n) (hp : p < 30) : val d n / 2 ^ (30 * q + p) % 2 = d q / 2 ^ p % 2 := by
  have hpw := P_pos q
  rw [Int.pow_add, ← P_two, ← Int.ediv_ediv_of_nonneg (Int.le_of_lt hpw), ← val_drop d (by omega) hd]
  obtain ⟨r, hr⟩ : ∃ r, n - q = r + 1 := ⟨n - q - 1, by omega⟩
  have h := val_split (fun j => d (q + j)) 1 r
  rw [Nat.add_comm 1 r] at h
  rw [hr, h]
  have e3 : (1073741824 : Int) = 2 * 2 ^ (29 - p) * 2 ^ p := by
    rw [Int.mul_assoc, ← Int.pow_add, show 29 - p + p = 29 by omega]; rfl
  have e4 : val (fun j => d (q + j)) 1 + P 1 * val (fun i => d (q + (1 + i))) r = d q + (2 * 2 ^ (29 - p) * val (fun i => d (q + (1 + i))) r) * 2 ^ p := by
    show 0 + d (q + 0) * 1 + 1 * 1073741824 * _ = _
    rw [Nat.add_zero, e3]; grind
  rw [e4, Int.add_mul_ediv_right _ _ (Int.ne_of_gt (two_pos p)), Int.mul_assoc 2, Int.add_mul_emod_self_left]
theorem bit_high {V : Int} {i : Nat} (h0 : 0 ≤ V) (h : blen V ≤ i) : bitB V i = false := by
  have h1 := blen_lt V
  have h2 : (2 : Int) ^ blen V ≤ 2 ^ i := two_le h
  unfold bitB
  rw [Int.ediv_eq_zero_of_lt h0 (Int.lt_of_lt_of_le h1 h2)]; rfl
end Go.Proofs.YtmjdlcbiaglkeaaDoor

/-
  Package dyadic: settle, by its contract: the one form of a number, or it gives up.
-/
namespace Go.Proofs.YtmjdlcbiaglkeaaDoor
open Go Go.RowKit Go.Proofs.YtmjdlcbiaglkeaaDoor.M
set_option linter.unusedSimpArgs false
set_option linter.unusedVariables false

theorem lowA_pos {V l : Int} (h : LowA V l) (h0 : 0 < V) : ∃ k : Nat, l = k ∧ IsLow V k := by
  rcases h with ⟨h1, _⟩ | h
  · omega
  · exact h
theorem isLow_lt {d : Nat → Int} {n k : Nat} (hd : Dig d n) (h0 : 0 < val d n) (h : IsLow (val d n) k) : k < 30 * n := by
  have h1 := val_lt hd
  rw [P_two] at h1
  obtain ⟨a, b, c⟩ := isLow_odd h h0
  have h2 : (1 : Int) * 2 ^ k ≤ val d n / 2 ^ k * 2 ^ k := Int.mul_le_mul_of_nonneg_right (by omega) (Int.le_of_lt (two_pos k))
  exact two_lt_iff (by omega)
/-- What is answered, when a result's own variable is written behind it. -/
theorem ans_res {w W w3 : World} {V : Int} {v : Value} (hv : Ans W w3 V v) (hb : Below w.heap.size w W) {g : Nat} (h0 : w.heap.size ≤ g) (h1 : g < W.heap.size) (a b c : Value) :
    Ans w (((w3.setCell ⟨g, 0, none⟩ a).setCell ⟨g, 1, none⟩ b).setCell ⟨g, 2, none⟩ c) V v := by
  obtain ⟨t, d, hO, hN, hV, hB⟩ := hv
  refine ⟨t, d, ?_, hN, hV, ?_⟩
  · exact (((hO.set_below (a := ⟨g, 0, none⟩) h1 a).set_below (a := ⟨g, 1, none⟩) h1 b).set_below (a := ⟨g, 2, none⟩) h1 c).lower hb.size
  · exact (((hb.trans (hB.mono hb.size)).setCell (p := ⟨g, 0, none⟩) h0 a).setCell (p := ⟨g, 1, none⟩) h0 b).setCell (p := ⟨g, 2, none⟩) h0 c
set_option maxHeartbeats 1000000 in
theorem settle_zero (ng : Bool) (ao : Option Addr) (n cap : Nat) (d : Nat → Int) (e : Int) (w : World) (h : Row w ao n cap d) (hd : Dig d n) (h0 : val d n = 0) :
    Calls Tryd.prog 23 #[.agg #[.bool ng, .slice ao n cap, .int .i64 e]] w fun r w' => r = .returned zeroV ∧ Below w.heap.size w w' := by
  have hR := h.keeps (bel_alloc2 w (.cells #[.bool ng, .slice ao n cap, .int .i64 e] 26) (.cells #[.bool false, .slice none 0 0, .int .i64 0] 26))
  go_enter Tryd.func23, Tryd.ntmps23
  go_wp2_with fail
  refine (trim_any _ _ _ _ _ hR).mono ?_
  rintro r w1 ⟨t, ht, htop, hz, rfl, rfl⟩
  obtain ⟨hN, hv⟩ := nrm_of_top hd ht htop hz
  have ht0 : t = 0 := (val_zero hN).1 (by rw [hv]; exact h0)
  subst ht0
  rw [show cutV ao 0 cap = .slice none 0 0 from rfl]
  go_wp2
  refine bodyPost_ret (v := zeroV) (by simp [results, Tryd.results23, go_sem, zeroV]) rfl ⟨rfl, ?_⟩
  exact bel_alloc2 _ _ _
set_option maxRecDepth 100000 in
set_option maxHeartbeats 4000000 in
theorem settle_yes (ng : Bool) (ao : Option Addr) (n cap : Nat) (d : Nat → Int) (e : Int) (w : World) (h : Row w ao n cap d) (hd : Dig d n) (hn : n ≤ 100000) (hT : Tab w) (h0 : 0 < val d n) (l : Nat) (hl : IsLow (val d n) l)
    (he0 : -1048576 ≤ e + l) (he1 : e + l ≤ 1048576) (hs : val d n / 2 ^ l < P 2000) :
    Calls Tryd.prog 23 #[.agg #[.bool ng, .slice ao n cap, .int .i64 e]] w fun r w' => ∃ s, r = .returned (.agg #[.bool ng, s, .int .i64 (e + l)]) ∧ Ans w w' (val d n / 2 ^ l) s := by
  have hR := h.keeps (bel_alloc2 w (.cells #[.bool ng, .slice ao n cap, .int .i64 e] 26) (.cells #[.bool false, .slice none 0 0, .int .i64 0] 26))
  have hln := isLow_lt hd h0 hl
  have hb1 := bel_alloc2 w (.cells #[.bool ng, .slice ao n cap, .int .i64 e] 26) (.cells #[.bool false, .slice none 0 0, .int .i64 0] 26)
  go_enter Tryd.func23, Tryd.ntmps23
  go_wp2_with fail
  refine (trim_any _ _ _ _ _ hR).mono ?_
  rintro r w1 ⟨t, ht, htop, hz, rfl, rfl⟩
  obtain ⟨hN, hv⟩ := nrm_of_top hd ht htop hz
  have ht0 : t ≠ 0 := by rintro rfl; have := (val_zero hN).2 rfl; omega
  rw [show cutV ao t cap = .slice ao t cap by unfold cutV; rw [if_neg ht0]]
  have hn0 : ((t : Int) == 0) = false := by simp; omega
  obtain ⟨bb, fb, rfl, hbb, hcb⟩ := h.spot (by omega)
  have hRt : Row ((w.alloc (.cells #[.bool ng, .slice (some ⟨bb, fb, none⟩) n cap, .int .i64 e] 26)).alloc (.cells #[.bool false, .slice none 0 0, .int .i64 0] 26)) (some ⟨bb, fb, none⟩) t cap d := ⟨by have := h.le; omega, h.max, fun hx => by simp at hx, fun _ => by
    obtain ⟨b', f', e', q1, q2⟩ := hR.spot (by omega)
    exact ⟨b', f', e', q1, fun i hi => q2 i (by omega)⟩⟩
  have hbl : blen (val d n) ≤ 60000 + l := by
    refine blen_le ?_
    obtain ⟨_, _, c⟩ := isLow_odd hl h0
    have : (val d n / 2 ^ l) * 2 ^ l < P 2000 * 2 ^ l := Int.mul_lt_mul_of_pos_right hs (two_pos l)
    rw [c, P_two, ← Int.pow_add] at this
    exact this
  have HS : Hid (val d n / 2 ^ l < P 2000) := hs
  clear hs
  go_wp2_with fail
  refine (lowest_any _ _ _ _ _ hRt hN.1 (by omega) (hT.keeps hb1)).mono ?_
  rintro r w1 ⟨lo, rfl, hlo, rfl⟩
  rw [hv] at hlo
  obtain ⟨k, rfl, hk⟩ := lowA_pos hlo h0
  obtain rfl := low_unique hk hl
  have HL : Hid (IsLow (val d n) k) := hl
  clear hlo hk hl
  have HV : Hid (val d t = val d n) := hv
  go_wp2_with fail
  refine (bitLength_any _ _ _ _ _ hRt hN (by omega)).mono ?_
  rw [hv]
  rintro r w1 ⟨rfl, rfl⟩
  go_wp2_with fail
  have hwr : IntKind.i64.wrap (e + (k : Int)) = e + k := by rw [wrap_i64_eq]; omega
  have hb2 : Below w.heap.size w ((w.alloc (.cells #[.bool ng, .slice (some ⟨bb, fb, none⟩) n cap, .int .i64 e] 26)).alloc (.cells #[.bool false, .slice none 0 0, .int .i64 0] 26)).drew := hb1.drew
  have q0 : ((w.alloc (.cells #[.bool ng, .slice (some ⟨bb, fb, none⟩) n cap, .int .i64 e] 26)).alloc (.cells #[.bool false, .slice none 0 0, .int .i64 0] 26)).drew.heap[w.heap.size]? = some (.cells #[.bool ng, .slice (some ⟨bb, fb, none⟩) n cap, .int .i64 e] 26) := heap_a2 _ _ _
  have q1 : ((w.alloc (.cells #[.bool ng, .slice (some ⟨bb, fb, none⟩) n cap, .int .i64 e] 26)).alloc (.cells #[.bool false, .slice none 0 0, .int .i64 0] 26)).drew.heap[w.heap.size + 1]? = some (.cells #[.bool false, .slice none 0 0, .int .i64 0] 26) := heap_b2 _ _ _
  have qs : ((w.alloc (.cells #[.bool ng, .slice (some ⟨bb, fb, none⟩) n cap, .int .i64 e] 26)).alloc (.cells #[.bool false, .slice none 0 0, .int .i64 0] 26)).drew.heap.size = w.heap.size + 2 := size2 _ _ _
  go_region_with (go_at_call 35; refine (lower_any _ _ _ k d _ hRt.drew hN.1 (by omega) (by omega)).mono ?_; rintro r w3 ⟨v, rfl, hv⟩; obtain ⟨vo, vn, vc, rfl⟩ := hv.num.shape; have g0 := (hv.below.block w.heap.size (by omega)).trans q0; have g1 := (hv.below.block (w.heap.size + 1) (by omega)).trans q1; have k0 := blkC g0 0 rfl; have k2 := blkC g0 2 rfl; have k3 := blkC g1 0 rfl; have k4 := blkC g1 1 rfl; have k5 := blkC g1 2 rfl; have f0 := blkF g1 0; have f1 := blkF g1 1; have f2 := blkF g1 2; have hvv := hv.from hb2)
  all_goals go_wp2
  all_goals refine bodyPost_ret (v := .agg #[.bool ng, .slice vo vn vc, .int .i64 (e + k)]) (by simp [results, Tryd.results23, go_sem, k3, k4, k5, hwr]) rfl ⟨_, rfl, ?_⟩
  all_goals (rw [← HV.out]; exact ans_res (g := w.heap.size + 1) hv hb2 (Nat.le_succ _) (by omega) _ _ _)
set_option maxRecDepth 100000 in
set_option maxHeartbeats 1000000 in
theorem settle_no (ng : Bool) (ao : Option Addr) (n cap : Nat) (d : Nat → Int) (e : Int) (w : World) (h : Row w ao n cap d) (hd : Dig d n) (hn : n ≤ 100000) (hT : Tab w) (h0 : 0 < val d n) (l : Nat) (hl : IsLow (val d n) l)
    (hbad : e + l < -1048576 ∨ 1048576 < e + l ∨ P 2000 ≤ val d n / 2 ^ l) :
    Calls Tryd.prog 23 #[.agg #[.bool ng, .slice ao n cap, .int .i64 e]] w fun r w' => r = .panicked [{ v := .iface 27 (.int .i64 2), recovered := false }] ∧ Below w.heap.size w w' := by
  have hR := h.keeps (bel_alloc2 w (.cells #[.bool ng, .slice ao n cap, .int .i64 e] 26) (.cells #[.bool false, .slice none 0 0, .int .i64 0] 26))
  have hln := isLow_lt hd h0 hl
  have hb1 := bel_alloc2 w (.cells #[.bool ng, .slice ao n cap, .int .i64 e] 26) (.cells #[.bool false, .slice none 0 0, .int .i64 0] 26)
  have HB : Hid (e + l < -1048576 ∨ 1048576 < e + l ∨ P 2000 ≤ val d n / 2 ^ l) := hbad
  clear hbad
  go_enter Tryd.func23, Tryd.ntmps23
  go_wp2_with fail
  refine (trim_any _ _ _ _ _ hR).mono ?_
  rintro r w1 ⟨t, ht, htop, hz, rfl, rfl⟩
  obtain ⟨hN, hv⟩ := nrm_of_top hd ht htop hz
  have ht0 : t ≠ 0 := by rintro rfl; have := (val_zero hN).2 rfl; omega
  rw [show cutV ao t cap = .slice ao t cap by unfold cutV; rw [if_neg ht0]]
  have hn0 : ((t : Int) == 0) = false := by simp; omega
  obtain ⟨bb, fb, rfl, hbb, hcb⟩ := h.spot (by omega)
  have hRt : Row ((w.alloc (.cells #[.bool ng, .slice (some ⟨bb, fb, none⟩) n cap, .int .i64 e] 26)).alloc (.cells #[.bool false, .slice none 0 0, .int .i64 0] 26)) (some ⟨bb, fb, none⟩) t cap d := ⟨by have := h.le; omega, h.max, fun hx => by simp at hx, fun _ => by
    obtain ⟨b', f', e', q1, q2⟩ := hR.spot (by omega)
    exact ⟨b', f', e', q1, fun i hi => q2 i (by omega)⟩⟩
  go_wp2_with fail
  refine (lowest_any _ _ _ _ _ hRt hN.1 (by omega) (hT.keeps hb1)).mono ?_
  rintro r w1 ⟨lo, rfl, hlo, rfl⟩
  rw [hv] at hlo
  obtain ⟨k, rfl, hk⟩ := lowA_pos hlo h0
  obtain rfl := low_unique hk hl
  have HL : Hid (IsLow (val d n) k) := hl
  clear hlo hk hl
  by_cases c0 : e < -1048576 - k
  · go_wp2
    exact ⟨rfl, rfl, hb1⟩
  · by_cases c1 : 1048576 - k < e
    · go_wp2
      exact ⟨rfl, rfl, hb1⟩
    · have hbl : 60000 < (blen (val d n) : Int) - k := by
        obtain ⟨_, _, c⟩ := isLow_odd HL.out h0
        have h2 : P 2000 ≤ val d n / 2 ^ k := by rcases HB.out with x | x | x <;> first | omega | exact x
        have : P 2000 * 2 ^ k ≤ (val d n / 2 ^ k) * 2 ^ k := Int.mul_le_mul_of_nonneg_right h2 (Int.le_of_lt (two_pos k))
        rw [c, P_two, ← Int.pow_add] at this
        have := blen_ge this
        omega
      go_wp2_with fail
      refine (bitLength_any _ _ _ _ _ hRt hN (by omega)).mono ?_
      rw [hv]
      rintro r w1 ⟨rfl, rfl⟩
      have hb30 : blen (val d n) ≤ 30 * n := blen_le (by rw [← P_two]; exact val_lt hd)
      go_wp2
      exact ⟨rfl, rfl, hb1⟩
end Go.Proofs.YtmjdlcbiaglkeaaDoor
