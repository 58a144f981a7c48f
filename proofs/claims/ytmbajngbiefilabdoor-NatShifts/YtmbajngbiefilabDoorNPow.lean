/-
  Package nat: power, Pow, Shl, by contracts: for every number, every exponent.
-/
import Derived.Test.YtmbajngbiefilabDoorNW4
import Derived.Test.YtmbajngbiefilabDoorNLen
import Derived.Test.YtmbajngbiefilabDoorNLaw
import Derived.Test.YtmbajngbiefilabDoorNW5
import Derived.Test.YtmbajngbiefilabDoorNW6
import Derived.WalkMore
import Derived.ScopeJumps
namespace Go.Proofs.YtmbajngbiefilabDoor
open Go Go.RowKit Go.Proofs.YtmbajngbiefilabDoor.M
set_option linter.unusedSimpArgs false
set_option linter.unusedVariables false

theorem pow_pos1 {A : Int} (h : 1 ≤ A) (i : Nat) : 1 ≤ A ^ i := by
  induction i with
  | zero => rw [Int.pow_zero]; omega
  | succ i ih =>
    rw [Int.pow_succ]
    have := Int.mul_le_mul ih h (by omega) (by omega)
    omega
theorem pow_mono {A : Int} (h : 1 ≤ A) {i j : Nat} (hij : i ≤ j) : A ^ i ≤ A ^ j := by
  obtain ⟨d, rfl⟩ := Nat.exists_eq_add_of_le hij
  rw [Int.pow_add]
  have a := pow_pos1 h i
  have b := pow_pos1 h d
  have : A ^ i * 1 ≤ A ^ i * A ^ d := Int.mul_le_mul_of_nonneg_left b (by omega)
  omega
theorem and_1 (x : Int) : bits .and .i64 x 1 = x % 2 := and_i64_mask x 1 (by decide)
theorem ans_one (w : World) {g : Nat} (hg : g = w.heap.size) : Ans w (w.alloc (.cells #[.int .i64 1] 3)) 1 (.slice (some ⟨g, 0, none⟩) 1 1) := by
  subst hg
  refine ⟨1, fun _ => 1, (Blk.new w #[.int .i64 1] (fun _ => 1) (fun i hi => by simp at hi; subst hi; rfl)).out (Nat.le_refl _) (Nat.le_refl _) (show 1 ≤ 9223372036854775807 by decide), ⟨fun i _ => by show (0 : Int) ≤ 1 ∧ (1 : Int) < 1073741824; omega, .inr (by show (1 : Int) ≠ 0; omega)⟩, by show (0 : Int) + 1 * 1 = 1; omega, bel_alloc _ _⟩
theorem half_pow (k b : Nat) : k / 2 ^ b = 2 * (k / 2 ^ (b + 1)) + k / 2 ^ b % 2 := by
  rw [Nat.pow_succ, ← Nat.div_div_eq_div_mul]; omega
theorem product_num {w : World} {x y : Value} {A B : Int} (hx : Num w x A) (hy : Num w y B) (hA : A < P 100000) (hB : B < P 100000) :
    Calls Tryd.prog 21 #[x, y] w fun e w' => ∃ v, e = .returned v ∧ Ans w w' (A * B) v := by
  obtain ⟨ao, n, ca, rfl⟩ := hx.shape
  obtain ⟨bo, m, cb, rfl⟩ := hy.shape
  have l1 := hx.len hA
  have l2 := hy.len hB
  obtain ⟨ao', n', ca', d, e1, hR, h2, rfl⟩ := hx
  obtain ⟨bo', m', cb', e, e2, kR, k2, rfl⟩ := hy
  simp only [Value.slice.injEq] at e1 e2
  obtain ⟨rfl, rfl, rfl⟩ := e1
  obtain ⟨rfl, rfl, rfl⟩ := e2
  exact product_any _ _ _ _ _ _ _ _ _ hR kR h2.1 k2.1 l1 l2

set_option maxRecDepth 100000 in
set_option maxHeartbeats 2000000 in
theorem power_any (ao : Option Addr) (n ca k : Nat) (A : Int) (w : World) (ha : Num w (.slice ao n ca) A) (hk : k < 4611686018427387904 * 2) (hA : 1 ≤ A) (hb : A ^ k < P 5000) (hAb : A < P 5000) :
    Calls Tryd.prog 19 #[.slice ao n ca, .int .i64 k] w fun e w' => ∃ v, e = .returned v ∧ Ans w w' (A ^ k) v := by
  have HB : Hid (A ^ k < P 5000) := hb
  have HA : Hid (1 ≤ A) := hA
  have HAb : Hid (A < P 5000) := hAb
  have HK : Hid (k < 4611686018427387904 * 2) := hk
  have HBP : Hid (A ^ k < P 100000) := Int.lt_of_lt_of_le hb (P_le (by decide))
  have HAb2 : Hid (A < P 100000) := Int.lt_of_lt_of_le hAb (P_le (by decide))
  have hbl : Hid (k / 2 ^ (blen (k : Int)) = 0) := by
    show _ = _
    have h := blen_lt (k : Int)
    apply Nat.div_eq_of_lt
    have : ((k : Nat) : Int) < ((2 ^ blen (k : Int) : Nat) : Int) := by simpa using h
    exact Int.ofNat_lt.1 this
  have hbl2 : blen (k : Int) ≤ 63 := blen_le (show (k : Int) < 9223372036854775808 by omega)
  have hk0 : (0 : Int) ≤ k := by omega
  have hcv : IntKind.u64.wrap (k : Int) = k := by rw [IntKind.wrap_u64]; omega
  clear hb hA hAb HB HAb hk
  go_enter Tryd.func19, Tryd.ntmps19
  go_wp2
  refine wp_scope_jumps 0 (fun a' w' => ∃ (bit : Nat) (p : Value), (∃ u7 u8 u9 u10 u11 u12 u13 u14 u15 u16 u17 u18 u19 u20 u21 u22 u23 u24 u25 u26 : Value, a' = { tmps := #[.slice ao n ca, .int .i64 k, undef, undef, .slice none 0 0, p, .int .i64 bit, u7, u8, u9, u10, u11, u12, u13, u14, u15, u16, u17, u18, u19, u20, u21, u22, u23, u24, u25, u26], defers := [] }) ∧ bit ≤ 63 ∧ Ans w w' (A ^ (k / 2 ^ bit)) p) (fun a' _ => (intOf (a'.tmps.getD 6 undef)).toNat) rfl ?_ ?_
  · go_wp2_with fail
    refine (len_any _ _ hk0 (by have := HK.out; omega)).mono ?_
    rintro e w1 ⟨rfl, rfl⟩
    obtain ⟨bit, hbit⟩ : ∃ bit, blen (k : Int) = bit := ⟨_, rfl⟩
    rw [hbit] at hbl hbl2 ⊢
    clear hbit
    have hAns : Ans w (w.alloc (.cells #[.int .i64 1] 3)) (A ^ (k / 2 ^ bit)) (.slice (some ⟨w.heap.size, 0, none⟩) 1 1) := by
      rw [hbl.out, Int.pow_zero]; exact ans_one w rfl
    clear hbl
    go_wp2
    go_step3
    by_cases h0 : bit = 0
    · subst h0
      go_wp2
      simp only [Exit.jump]
      go_ret
      exact ⟨_, rfl, by simpa using hAns⟩
    · obtain ⟨b, rfl⟩ : ∃ b, bit = b + 1 := ⟨bit - 1, by omega⟩
      have hz : (b : Int) + 1 - 1 = b := by omega
      have hz2 : (b : Int).toNat = b := by omega
      have hne : ((b : Int) + 1 == 0) = false := by simp; omega
      obtain ⟨E, hE⟩ : ∃ E : Int, (k : Int) / 2 ^ b = E := ⟨_, rfl⟩
      have HE : Hid (E = ((k / 2 ^ b : Nat) : Int)) := by show _ = _; rw [← hE]; simp
      have hh := half_pow k b
      have e1 : 2 * (k / 2 ^ (b + 1)) ≤ k := by have := Nat.div_le_self k (2 ^ b); omega
      have e2 : k / 2 ^ (b + 1) ≤ k := Nat.div_le_self _ _
      have HP1 : Hid (A ^ (k / 2 ^ (b + 1)) < P 100000) := Int.lt_of_le_of_lt (pow_mono HA.out e2) HBP.out
      have HP2 : Hid (A ^ (k / 2 ^ (b + 1)) * A ^ (k / 2 ^ (b + 1)) < P 100000) := by rw [← Int.pow_add, ← Nat.two_mul]; exact Int.lt_of_le_of_lt (pow_mono HA.out e1) HBP.out
      have HH : Hid (k / 2 ^ b = 2 * (k / 2 ^ (b + 1)) + k / 2 ^ b % 2) := hh
      clear hh e1 e2
      by_cases hodd : k / 2 ^ b % 2 = 1
      · have ha1 : bits .and .i64 E 1 = 1 := by rw [and_1, HE.out]; omega
        have HO : Hid (k / 2 ^ b % 2 = 1) := hodd
        clear hodd
        go_wp2_with fail
        refine (product_num hAns.num hAns.num HP1.out HP1.out).mono ?_
        rintro e w2 ⟨p2, rfl, hA2⟩
        go_wp2_with fail
        refine (product_num hA2.num (ha.keeps (bel_trans hAns.below hA2.below)) HP2.out HAb2.out).mono ?_
        rintro e w3 ⟨p3, rfl, hA3⟩
        have hfin : Ans w w3 (A ^ (k / 2 ^ b)) p3 := by
          have h := hA3.from (bel_trans hAns.below hA2.below)
          rw [HH.out, HO.out, Int.pow_succ, Nat.two_mul, Int.pow_add]
          exact h
        clear hA3 hA2
        go_wp2
        go_step3
        refine ⟨rfl, b, p3, ⟨_, _, _, _, _, _, _, _, _, _, _, _, _, _, _, _, _, _, _, _, rfl⟩, by omega, hfin⟩
      · have ha1 : bits .and .i64 E 1 = 0 := by rw [and_1, HE.out]; omega
        have HO : Hid (k / 2 ^ b % 2 = 0) := by show _ = _; omega
        clear hodd
        go_wp2_with fail
        refine (product_num hAns.num hAns.num HP1.out HP1.out).mono ?_
        rintro e w2 ⟨p2, rfl, hA2⟩
        have hfin : Ans w w2 (A ^ (k / 2 ^ b)) p2 := by
          have h := hA2.from hAns.below
          rw [HH.out, HO.out, Nat.add_zero, Nat.two_mul, Int.pow_add]
          exact h
        clear hA2
        go_wp2
        go_step3
        refine ⟨rfl, b, p2, ⟨_, _, _, _, _, _, _, _, _, _, _, _, _, _, _, _, _, _, _, _, rfl⟩, by omega, hfin⟩
  · rintro a' w1 ⟨bit, p, ⟨u7, u8, u9, u10, u11, u12, u13, u14, u15, u16, u17, u18, u19, u20, u21, u22, u23, u24, u25, u26, rfl⟩, hbl2, hAns⟩
    by_cases h0 : bit = 0
    · subst h0
      go_wp2
      simp only [Exit.jump]
      go_ret
      exact ⟨_, rfl, by simpa using hAns⟩
    · obtain ⟨b, rfl⟩ : ∃ b, bit = b + 1 := ⟨bit - 1, by omega⟩
      have hz : (b : Int) + 1 - 1 = b := by omega
      have hz2 : (b : Int).toNat = b := by omega
      have hne : ((b : Int) + 1 == 0) = false := by simp; omega
      obtain ⟨E, hE⟩ : ∃ E : Int, (k : Int) / 2 ^ b = E := ⟨_, rfl⟩
      have HE : Hid (E = ((k / 2 ^ b : Nat) : Int)) := by show _ = _; rw [← hE]; simp
      have hh := half_pow k b
      have e1 : 2 * (k / 2 ^ (b + 1)) ≤ k := by have := Nat.div_le_self k (2 ^ b); omega
      have e2 : k / 2 ^ (b + 1) ≤ k := Nat.div_le_self _ _
      have HP1 : Hid (A ^ (k / 2 ^ (b + 1)) < P 100000) := Int.lt_of_le_of_lt (pow_mono HA.out e2) HBP.out
      have HP2 : Hid (A ^ (k / 2 ^ (b + 1)) * A ^ (k / 2 ^ (b + 1)) < P 100000) := by rw [← Int.pow_add, ← Nat.two_mul]; exact Int.lt_of_le_of_lt (pow_mono HA.out e1) HBP.out
      have HH : Hid (k / 2 ^ b = 2 * (k / 2 ^ (b + 1)) + k / 2 ^ b % 2) := hh
      clear hh e1 e2
      by_cases hodd : k / 2 ^ b % 2 = 1
      · have ha1 : bits .and .i64 E 1 = 1 := by rw [and_1, HE.out]; omega
        have HO : Hid (k / 2 ^ b % 2 = 1) := hodd
        clear hodd
        go_wp2_with fail
        refine (product_num hAns.num hAns.num HP1.out HP1.out).mono ?_
        rintro e w2 ⟨p2, rfl, hA2⟩
        go_wp2_with fail
        refine (product_num hA2.num (ha.keeps (bel_trans hAns.below hA2.below)) HP2.out HAb2.out).mono ?_
        rintro e w3 ⟨p3, rfl, hA3⟩
        have hfin : Ans w w3 (A ^ (k / 2 ^ b)) p3 := by
          have h := hA3.from (bel_trans hAns.below hA2.below)
          rw [HH.out, HO.out, Int.pow_succ, Nat.two_mul, Int.pow_add]
          exact h
        clear hA3 hA2
        go_wp2
        go_step3
        refine ⟨rfl, ⟨b, p3, ⟨_, _, _, _, _, _, _, _, _, _, _, _, _, _, _, _, _, _, _, _, rfl⟩, by omega, hfin⟩, by simp [intOf]⟩
      · have ha1 : bits .and .i64 E 1 = 0 := by rw [and_1, HE.out]; omega
        have HO : Hid (k / 2 ^ b % 2 = 0) := by show _ = _; omega
        clear hodd
        go_wp2_with fail
        refine (product_num hAns.num hAns.num HP1.out HP1.out).mono ?_
        rintro e w2 ⟨p2, rfl, hA2⟩
        have hfin : Ans w w2 (A ^ (k / 2 ^ b)) p2 := by
          have h := hA2.from hAns.below
          rw [HH.out, HO.out, Nat.add_zero, Nat.two_mul, Int.pow_add]
          exact h
        clear hA2
        go_wp2
        go_step3
        refine ⟨rfl, ⟨b, p2, ⟨_, _, _, _, _, _, _, _, _, _, _, _, _, _, _, _, _, _, _, _, rfl⟩, by omega, hfin⟩, by simp [intOf]⟩
end Go.Proofs.YtmbajngbiefilabDoor
