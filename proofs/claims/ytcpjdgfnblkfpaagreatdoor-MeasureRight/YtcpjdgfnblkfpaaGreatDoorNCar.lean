/-
  Package digits: Carry, by its contract: columns become digits, in their place.
-/
import Derived.Test.YtcpjdgfnblkfpaaGreatDoorNPile
import Derived.Test.YtcpjdgfnblkfpaaGreatDoorDM
namespace Go.Proofs.YtcpjdgfnblkfpaaGreatDoor
open Go Go.RowKit Go.Proofs.YtcpjdgfnblkfpaaGreatDoor.M
set_option linter.unusedSimpArgs false
set_option linter.unusedVariables false

set_option maxHeartbeats 1000000 in
theorem carry_low (g N : Nat) (r0 : Nat → Int) (w : World) (hB0 : Blk w g N r0) (hNm : N ≤ 1000000) (hC0 : ∀ i, i < N → -2305843009213693952 ≤ r0 i ∧ r0 i ≤ 2305843009213693952) :
    Calls Tryz.prog 128 #[.slice (some ⟨g, 0, none⟩) N N] w fun e w' => ∃ o r, e = .returned (.int .i64 o) ∧ Blk w' g N r ∧ Wr g w w' ∧ Dig r N ∧ val r N + o * P N = val r0 N := by
  have HC : Hid (∀ i, i < N → -2305843009213693952 ≤ r0 i ∧ r0 i ≤ 2305843009213693952) := hC0
  clear hC0
  go_enter Tryz.func128, Tryz.ntmps128
  go_wp2
  go_loopw [3, 7] (fun o i wr => ∃ (k : Nat) (o' : Int) (r : Nat → Int), k ≤ N ∧ i = .int .i64 k ∧ o = .int .i64 o' ∧ -2305843009213693952 ≤ o' ∧ o' ≤ 2305843009213693952 ∧ Blk wr g N r ∧ Hid (Dig r k) ∧ Hid (∀ i, k ≤ i → r i = r0 i) ∧ Hid (val r k + o' * P k = val r0 k) ∧ Wr g w wr) (fun _ i _ => N - (intOf i).toNat)
  case atStart => exact ⟨0, 0, r0, Nat.zero_le _, rfl, rfl, by omega, by omega, hB0, fun i hi => by omega, fun _ _ => rfl, by show (0 : Int) + 0 * 1 = 0; omega, Wr.refl _ _⟩
  case round =>
    obtain ⟨k, o, r, hk, rfl, rfl, ho0, ho1, hB, HD, HZ, HV, hW⟩ := hrel
    by_cases hlt : k < N
    · have cg := hB.cell hlt
      have fg := hB.frozen k
      have hr : -2305843009213693952 ≤ r k ∧ r k ≤ 2305843009213693952 := by rw [HZ.out k (Nat.le_refl _)]; exact HC.out k hlt
      obtain ⟨hr0, hr1⟩ := hr
      have h30 := and_30 (o + r k)
      have hm := mod_dig (o + r k)
      have HV2 : Hid (val (upd r k ((o + r k) % 1073741824)) (k + 1) + (o + r k) / 1073741824 * P (k + 1) = val r0 (k + 1)) := by
        show _ = _
        rw [val_succ, upd_same, val_upd_ge _ _ (Nat.le_refl _), P_succ, carry_step, val_succ, ← HV.out, HZ.out k (Nat.le_refl _)]
      go_wp2
      go_roundw
      case rel => exact ⟨k + 1, (o + r k) / 1073741824, upd r k ((o + r k) % 1073741824), by omega, by go_num, rfl, by omega, by omega, hB.store k _, fun i hi => by
          by_cases e : i = k
          · rw [e, upd_same]; exact hm
          · rw [upd_other r _ e]; exact HD.out i (by omega), fun i hi => by rw [upd_other r _ (by omega)]; exact HZ.out i (by omega), HV2, hW.setCell _ _⟩
      case measure => simp [intOf]; omega
    · obtain rfl : k = N := by omega
      go_wp2
      go_ret
      exact ⟨_, r, rfl, hB, hW, HD.out, HV.out⟩
theorem carry_sign {S R o Pn : Int} (hP : 0 < Pn) (h0 : 0 ≤ R) (h1 : R < Pn) (e : R + o * Pn = S) (hS : -Pn < S ∧ S < Pn) : (0 ≤ S ∧ o = 0 ∧ R = S) ∨ (S < 0 ∧ o = -1 ∧ R = S + Pn) := by
  by_cases ho : 0 ≤ o
  · by_cases ho1 : o = 0
    · subst ho1; left; omega
    · have : 1 * Pn ≤ o * Pn := Int.mul_le_mul_of_nonneg_right (by omega) (by omega)
      omega
  · by_cases ho1 : o = -1
    · subst ho1; right; omega
    · have : o * Pn ≤ (-2) * Pn := Int.mul_le_mul_of_nonneg_right (by omega) (by omega)
      omega
theorem val_neg (r : Nat → Int) (n : Nat) : val (fun i => -r i) n = -val r n := by
  induction n with
  | zero => rfl
  | succ n ih => rw [val_succ, val_succ, ih, Int.neg_mul]; omega
set_option maxHeartbeats 1000000 in
theorem carry_any (g N : Nat) (r0 : Nat → Int) (w : World) (hB0 : Blk w g N r0) (hNm : N ≤ 1000000) (hC0 : ∀ i, i < N → -2305843009213693952 ≤ r0 i ∧ r0 i ≤ 2305843009213693952) (hS : -P N < val r0 N ∧ val r0 N < P N) :
    Calls Tryz.prog 100 #[.slice (some ⟨g, 0, none⟩) N N] w fun e w' => ∃ r, e = .returned (.bool (decide (val r0 N < 0))) ∧ Blk w' g N r ∧ Wr g w w' ∧ Dig r N ∧ sg (decide (val r0 N < 0)) (val r N) = val r0 N := by
  have HS : Hid (-P N < val r0 N ∧ val r0 N < P N) := hS
  clear hS
  go_enter Tryz.func100, Tryz.ntmps100
  go_wp2_with fail
  refine (carry_low g N r0 w hB0 hNm hC0).mono ?_
  rintro e w1 ⟨o, r, rfl, hB1, hW1, hD1, hV1⟩
  rcases carry_sign (P_pos N) (val_nonneg hD1) (val_lt hD1) hV1 HS.out with ⟨hs, rfl, hR⟩ | ⟨hs, rfl, hR⟩
  · have HR : Hid (val r N = val r0 N) := hR
    have HH : Hid (0 ≤ val r0 N) := hs
    clear hV1 hR hs hC0
    go_wp2
    go_ret
    have : decide (val r0 N < 0) = false := decide_eq_false (by have := HH.out; omega)
    exact ⟨r, ret_bool this.symm, hB1, hW1, hD1, by rw [this]; exact HR.out⟩
  · have HR : Hid (val r N = val r0 N + P N) := hR
    have HH : Hid (val r0 N < 0) := hs
    have HD : Hid (Dig r N) := hD1
    clear hV1 hR hs hC0 hD1
    go_wp2
    go_loopw [9] (fun i wr => ∃ (k : Nat) (r' : Nat → Int), k ≤ N ∧ i = .int .i64 k ∧ Blk wr g N r' ∧ Hid (∀ i, i < k → r' i = -r i) ∧ Hid (∀ i, k ≤ i → r' i = r i) ∧ Wr g w wr) (fun i _ => N - (intOf i).toNat)
    case atStart => exact ⟨0, r, Nat.zero_le _, rfl, hB1, fun i hi => by omega, fun _ _ => rfl, hW1⟩
    case round =>
      obtain ⟨k, r', hk, rfl, hB, HX, HY, hW⟩ := hrel
      by_cases hlt : k < N
      · have cg := hB.cell hlt
        have fg := hB.frozen k
        have hr : 0 ≤ r' k ∧ r' k < 1073741824 := by rw [HY.out k (Nat.le_refl _)]; exact HD.out k hlt
        obtain ⟨hr0, hr1⟩ := hr
        go_wp2
        go_roundw
        case rel => exact ⟨k + 1, upd r' k (-r' k), by omega, by go_num, hB.store k _, fun i hi => by
            by_cases e : i = k
            · rw [e, upd_same, HY.out k (Nat.le_refl _)]
            · rw [upd_other r' _ e]; exact HX.out i (by omega), fun i hi => by rw [upd_other r' _ (by omega)]; exact HY.out i (by omega), hW.setCell _ _⟩
        case measure => simp [intOf]; omega
      · obtain rfl : k = N := by omega
        go_wp2_with fail
        refine (carry_low g k r' _ hB hNm (fun i hi => by rw [HX.out i hi]; have := HD.out i hi; omega)).mono ?_
        rintro e w2 ⟨o2, r2, rfl, hB2, hW2, hD2, hV2⟩
        go_wp2
        go_ret
        have e1 : val r' k = -val r k := by rw [val_congr HX.out, val_neg]
        have hn := HH.out
        have hR := HR.out
        have hS := HS.out.1
        rw [e1] at hV2
        have : decide (val r0 k < 0) = true := decide_eq_true hn
        refine ⟨r2, ret_bool this.symm, hB2, hW.trans hW2, hD2, ?_⟩
        rw [this]
        show -val r2 k = val r0 k
        have a0 := val_nonneg hD2
        have a1 := val_lt hD2
        rcases carry_sign (P_pos k) a0 a1 hV2 (by omega) with ⟨c1, rfl, c3⟩ | ⟨c1, rfl, c3⟩ <;> omega
end Go.Proofs.YtcpjdgfnblkfpaaGreatDoor
