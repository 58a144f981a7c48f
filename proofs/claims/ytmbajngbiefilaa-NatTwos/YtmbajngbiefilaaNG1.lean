/-
  Package nat: small, combine, heads (what Lehmer's way is made of), by contracts.
-/
import Derived.Test.YtmbajngbiefilaaNW5
import Derived.Test.YtmbajngbiefilaaNLen
import Derived.Test.YtmbajngbiefilaaNWr
namespace Go.Proofs.Ytmbajngbiefilaa
open Go Go.RowKit Go.Proofs.Ytmbajngbiefilaa.M
set_option linter.unusedSimpArgs false
set_option linter.unusedVariables false

theorem val_mono {d : Nat → Int} {n m : Nat} (h : Dig d n) (hm : m ≤ n) : val d m ≤ val d n := by
  have e := val_split d m (n - m)
  rw [show m + (n - m) = n by omega] at e
  have a := val_nonneg (show Dig (fun i => d (m + i)) (n - m) from fun i hi => h (m + i) (by omega))
  have := Int.mul_nonneg (Int.le_of_lt (P_pos m)) a
  omega
set_option maxHeartbeats 400000 in
theorem small_any (ao : Option Addr) (n cap : Nat) (d : Nat → Int) (w : World) (h : Row w ao n cap d) (hd : Dig d n) (hn : n ≤ 3) (hv : val d n < 9223372036854775808) :
    Calls Try.prog 68 #[.slice ao n cap] w fun e w' => e = .returned (.int .i64 (val d n)) ∧ w' = w := by
  have hl := h.le
  have hm := h.max
  have HV : Hid (val d n < 9223372036854775808) := hv
  clear hv
  go_enter Try.func68, Try.ntmps68
  go_wp2
  go_loop [3, 7] (fun v i => ∃ k : Nat, k ≤ n ∧ i = .int .i64 k ∧ v = .int .i64 (val d k)) (fun _ i => n - (intOf i).toNat)
  case atStart => exact ⟨0, Nat.zero_le _, rfl, rfl⟩
  case round =>
    obtain ⟨k, hk, rfl, rfl⟩ := hrel
    by_cases hlt : k < n
    · obtain ⟨b, off, rfl, hb, hc⟩ := h.spot (by omega)
      have c := hc k hlt
      have dk := hd k hlt
      have v0 := val_nonneg (hd.le (show k ≤ n by omega))
      have v1 := val_lt (hd.le (show k ≤ n by omega))
      have m1 := val_mono hd (show k + 1 ≤ n by omega)
      have hv2 := HV.out
      rw [P_two] at v1
      have e1 : val d (k + 1) = val d k + d k * 2 ^ (30 * k) := by rw [val_succ, P_two]
      have m0 : 0 ≤ d k * 2 ^ (30 * k) := Int.mul_nonneg dk.1 (Int.le_of_lt (two_pos _))
      have hw : wrap64 (d k * 2 ^ (30 * k)) = d k * 2 ^ (30 * k) := IntWalk.wrap64_in _ ⟨by omega, by omega⟩
      have hor : bits .or .i64 (val d k) (d k * 2 ^ (30 * k)) = val d (k + 1) := (or_add _ _ _ v0 v1 dk.1 (by omega)).trans e1.symm
      clear e1 m0 m1 hv2 v0 v1
      go_wp2
      go_round
      case rel => exact ⟨k + 1, by omega, by go_num, rfl⟩
      case measure => simp [intOf]; omega
    · obtain rfl : k = n := by omega
      go_wp2
      go_ret
      exact ⟨rfl, rfl⟩

theorem mul_bnd {x y : Int} (hx : -1073741824 < x ∧ x < 1073741824) (hy : 0 ≤ y ∧ y < 1073741824) : -1152921504606846976 ≤ x * y ∧ x * y ≤ 1152921504606846976 := by
  have h1 : x * y ≤ 1073741824 * y := Int.mul_le_mul_of_nonneg_right (by omega) hy.1
  have h2 : -1073741824 * y ≤ x * y := Int.mul_le_mul_of_nonneg_right (by omega) hy.1
  constructor <;> omega
set_option maxHeartbeats 1000000 in
theorem combine_any (ao bo : Option Addr) (n m ca cb : Nat) (a b : Nat → Int) (x y : Int) (w : World) (ha : Row w ao n ca a) (hb : Row w bo m cb b) (da : Dig a n) (db : Dig b m) (hn : n ≤ 100000) (hm : m ≤ n)
    (hx : -1073741824 < x ∧ x < 1073741824) (hy : -1073741824 < y ∧ y < 1073741824) (h0 : 0 ≤ x * val a n + y * val b m) (h1 : x * val a n + y * val b m < P n) :
    Calls Try.prog 73 #[.slice ao n ca, .slice bo m cb, .int .i64 x, .int .i64 y] w fun e w' => ∃ v, e = .returned v ∧ Ans w w' (x * val a n + y * val b m) v := by
  have hla := ha.le
  have hma := ha.max
  have hlb := hb.le
  have hmb := hb.max
  have H0 : Hid (0 ≤ x * val a n + y * val b m) := h0
  have H1 : Hid (x * val a n + y * val b m < P n) := h1
  clear h0 h1
  go_enter Try.func73, Try.ntmps73
  go_wp2_with (at_make; refine wpList_mk rfl _ _ rfl _ _ n rfl rfl (by omega) (by omega) (by omega) ?_; intro w1 hB1 hb1)
  go_loopw [10, 17] (fun c i wr => ∃ (k : Nat) (q : Int) (r : Nat → Int), k ≤ n ∧ i = .int .i64 k ∧ c = .int .i64 q ∧ -4294967296 ≤ q ∧ q ≤ 4294967296 ∧ Blk wr w.heap.size n r ∧ Dig r n ∧ Hid (val r k + q * P k = x * val a k + y * val (ext b m) k) ∧ Below w.heap.size w wr) (fun _ i _ => n - (intOf i).toNat)
  case atStart => exact ⟨0, 0, fun _ => 0, Nat.zero_le _, rfl, rfl, by omega, by omega, hB1, zero_dig _, by show _ = _; show (0 : Int) + 0 * 1 = x * 0 + y * 0; omega, hb1⟩
  case round =>
    obtain ⟨k, q, r, hk, rfl, rfl, hq0, hq1, hB, hD, HV, hbw⟩ := hrel
    have cg := fun h : k < n => hB.cell h
    have fg := hB.frozen k
    by_cases hlt : k < n
    · obtain ⟨ba, fa, rfl, hba, hca⟩ := ha.spot (by omega)
      have c1 := (hbw.cell (p := ⟨ba, fa + k, none⟩) hba).trans (hca k hlt)
      have dk := da k hlt
      have mx := mul_bnd hx dk
      by_cases hkm : k < m
      · obtain ⟨bb, fb, rfl, hbb, hcb⟩ := hb.spot (by omega)
        have c2 := (hbw.cell (p := ⟨bb, fb + k, none⟩) hbb).trans (hcb k hkm)
        have dbk := db k hkm
        have my := mul_bnd hy dbk
        have h30 := and_30 (q + x * a k + y * b k)
        go_wp2
        have he := ext_lt b hkm
        have hs := sum_step (x := x * a k + y * ext b m k) HV.out
        rw [he, show q + (x * a k + y * b k) = q + x * a k + y * b k by omega] at hs
        go_roundw
        case rel => exact ⟨k + 1, (q + x * a k + y * b k) / 1073741824, upd r k ((q + x * a k + y * b k) % 1073741824), by omega, by go_num, rfl, by omega, by omega, hB.store k _, hD.upd k (mod_dig _), by show _ = _; rw [hs, val_succ, val_succ, he]; grind, hbw.setCell (Nat.le_refl _) _⟩
        case measure => simp [intOf]; omega
      · have h30 := and_30 (q + x * a k)
        go_wp2
        have he := ext_ge b (show m ≤ k by omega)
        have hs := sum_step (x := x * a k + y * ext b m k) HV.out
        rw [he, Int.mul_zero, show q + (x * a k + 0) = q + x * a k by omega] at hs
        go_roundw
        case rel => exact ⟨k + 1, (q + x * a k) / 1073741824, upd r k ((q + x * a k) % 1073741824), by omega, by go_num, rfl, by omega, by omega, hB.store k _, hD.upd k (mod_dig _), by show _ = _; rw [hs, val_succ, val_succ, he]; grind, hbw.setCell (Nat.le_refl _) _⟩
        case measure => simp [intOf]; omega
    · obtain rfl : k = n := by omega
      go_wp2_with (go_at_call 57; refine (trim_any _ _ _ _ _ (hB.row0 (Nat.le_refl _) (by omega))).mono ?_; rintro e w3 ⟨t, ht, htop, hz, rfl, rfl⟩)
      go_ret
      obtain ⟨hN, hv⟩ := nrm_of_top hD ht htop hz
      refine ⟨_, rfl, t, r, hB.cut (Nat.le_refl _) ht (by omega), hN, ?_, hbw⟩
      have e1 := HV.out
      have e2 := H0.out
      have e3 := H1.out
      rw [val_ext b hm] at e1
      have e4 := val_lt hD
      have e5 := val_nonneg hD
      have pk := P_pos k
      have h4 : q = 0 := by
        rcases Int.lt_trichotomy q 0 with h | h | h
        · have : q * P k ≤ -1 * P k := Int.mul_le_mul_of_nonneg_right (by omega) (by omega)
          omega
        · exact h
        · have : 1 * P k ≤ q * P k := Int.mul_le_mul_of_nonneg_right (by omega) (by omega)
          omega
      subst h4
      rw [hv]; omega
theorem small_ans {w w' : World} {V : Int} {v : Value} (h : Ans w w' V v) (hV : V < 1152921504606846976) :
    Calls Try.prog 68 #[v] w' fun e w'' => e = .returned (.int .i64 V) ∧ w'' = w' := by
  have hn := h.num
  obtain ⟨ao, n, cap, rfl⟩ := hn.shape
  have hl := hn.len (show V < P 2 from hV)
  obtain ⟨ao', n', cap', d, e, hR, h2, rfl⟩ := hn
  simp only [Value.slice.injEq] at e
  obtain ⟨rfl, rfl, rfl⟩ := e
  exact small_any _ _ _ _ _ hR h2.1 (by omega) (by omega)
set_option maxHeartbeats 400000 in
theorem heads_any (ao bo : Option Addr) (n m ca cb : Nat) (a b : Nat → Int) (w : World) (ha : Row w ao n ca a) (hb : Row w bo m cb b) (na : Nrm a n) (nb : Nrm b m) (hn : n ≤ 5000) (hm : m ≤ 5000) (h3 : 3 ≤ n) (hle : val b m ≤ val a n) :
    Calls Try.prog 66 #[.slice ao n ca, .slice bo m cb] w fun e w' => ∃ s : Nat, e = .returned (.tuple #[.int .i64 (val a n / 2 ^ s), .int .i64 (val b m / 2 ^ s)]) ∧ val a n < 1152921504606846976 * 2 ^ s ∧ Below w.heap.size w w' := by
  have hA := val_top na.1 (by omega) na.2
  have hp : P 2 ≤ P (n - 1) := P_le (by omega)
  have hbl := blen_ge (k := 60) (V := val a n) (by show (1152921504606846976 : Int) ≤ _; have : P 2 = 1152921504606846976 := by decide
                                                   omega)
  have hbu : blen (val a n) ≤ 30 * n := blen_le (by rw [← P_two]; exact val_lt na.1)
  obtain ⟨s, hs⟩ : ∃ s : Nat, ((blen (val a n) : Nat) : Int) - 60 = s := ⟨blen (val a n) - 60, by omega⟩
  have hs1 : (s : Int) < 9223372036854775808 := by omega
  have HS1 : Hid ((s : Int) < 9223372036854775808) := hs1
  have hlt : val a n < 1152921504606846976 * 2 ^ s := by
    have h := blen_lt (val a n)
    rw [show blen (val a n) = 60 + s by omega, Int.pow_add] at h
    exact h
  have ps := two_pos s
  have hx : val a n / 2 ^ s < 1152921504606846976 := (Int.ediv_lt_iff_lt_mul ps).2 hlt
  have hy : val b m / 2 ^ s < 1152921504606846976 := (Int.ediv_lt_iff_lt_mul ps).2 (by omega)
  have HF : Hid (val a n < 1152921504606846976 * 2 ^ s) := hlt
  have HX : Hid (val a n / 2 ^ s < 1152921504606846976) := hx
  have HY : Hid (val b m / 2 ^ s < 1152921504606846976) := hy
  clear hA hp hlt hx hy hle hs1 hbl
  go_enter Try.func66, Try.ntmps66
  go_wp2_with fail
  refine (bitLength_any _ _ _ _ _ ha na (by omega)).mono ?_
  rintro e w1 ⟨rfl, rfl⟩
  go_wp2_with fail
  refine (lower_any _ _ _ s a _ ha na.1 (by omega) HS1.out).mono ?_
  rintro e w2 ⟨v1, rfl, hA1⟩
  go_wp2_with fail
  refine (small_ans hA1 HX.out).mono ?_
  rintro e w3 ⟨rfl, rfl⟩
  go_wp2_with fail
  refine (lower_any _ _ _ s b _ (hb.keeps hA1.below) nb.1 (by omega) HS1.out).mono ?_
  rintro e w4 ⟨v2, rfl, hA2⟩
  go_wp2_with fail
  refine (small_ans hA2 HY.out).mono ?_
  rintro e w5 ⟨rfl, rfl⟩
  go_wp2
  go_ret2
  exact ⟨s, rfl, HF.out, bel_trans hA1.below hA2.below⟩
end Go.Proofs.Ytmbajngbiefilaa
