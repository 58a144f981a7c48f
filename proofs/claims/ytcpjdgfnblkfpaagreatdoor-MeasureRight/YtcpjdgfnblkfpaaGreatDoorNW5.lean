/-
  Package nat: raise, lower, by contracts: for every list of digits, every shift.
-/
import Derived.Test.YtcpjdgfnblkfpaaGreatDoorNW1
import Derived.Test.YtcpjdgfnblkfpaaGreatDoorNShM
import Derived.Test.YtcpjdgfnblkfpaaGreatDoorNPile
import Derived.Deep.Cut
import Derived.BigRegion
namespace Go.Proofs.YtcpjdgfnblkfpaaGreatDoor
open Go Go.RowKit Go.Proofs.YtcpjdgfnblkfpaaGreatDoor.M
set_option linter.unusedSimpArgs false
set_option linter.unusedVariables false

set_option maxHeartbeats 1000000 in
theorem raise_qp (ao : Option Addr) (n ca q p : Nat) (a : Nat → Int) (w : World) (ha : Row w ao n ca a) (da : Dig a n) (hn : n ≤ 100000) (hq : q ≤ 100000) (hp : p < 30) (k : Int) (hk : k = 30 * q + p) :
    Calls Tryz.prog 169 #[.slice ao n ca, .int .i64 k] w fun e w' => ∃ v, e = .returned v ∧ Ans w w' (P q * (2 ^ p * val a n)) v := by
  have hla := ha.le
  have hma := ha.max
  have e1 : k / 30 = q := by omega
  have e2 : k % 30 = p := by omega
  have hk0 : 0 ≤ k := by omega
  have HK : Hid (k = 30 * q + p) := hk
  clear hk
  go_enter Tryz.func169, Tryz.ntmps169
  go_wp2_with (at_make; refine wpList_mk rfl _ _ rfl _ _ (q + n + 1) rfl rfl (by omega) (by omega) (by omega) ?_; intro w1 hB1 hb1)
  refine (pile_qp w.heap.size (q + n + 1) (fun _ => 0) ao n ca q p a w1 hB1 ((RowX.of ha (Nat.le_refl _)).keeps (wr_of hb1)) da hn (Nat.le_refl _) (by omega) hp k HK.out 1 (.inl rfl) 0 (fun _ _ => ⟨by omega, by omega⟩) (by omega)).mono ?_
  rintro e w2 ⟨rfl, r, hB2, hW2, hP⟩
  have hb2 : Below w.heap.size w w2 := hW2.below hb1 hb1.size (Nat.le_refl _)
  go_wp2_with fail
  refine (trim_any _ _ _ _ _ (hB2.row0 (Nat.le_refl _) (by omega))).mono ?_
  rintro e w3 ⟨t, ht, htop, hz, rfl, rfl⟩
  go_wp2
  go_ret
  have D2 : Dig r (q + n + 1) := fun i hi => by have := hP.near i; omega
  obtain ⟨hN, hv⟩ := nrm_of_top D2 ht htop hz
  refine ⟨_, rfl, t, r, hB2.cut (Nat.le_refl _) ht (by omega), hN, ?_, hb2⟩
  rw [hv, hP.sum, val_zeros (Nat.zero_le _) (fun _ _ _ => rfl)]
  show 0 + 1 * _ = _
  omega
theorem raise_any (ao : Option Addr) (n ca k : Nat) (a : Nat → Int) (w : World) (ha : Row w ao n ca a) (da : Dig a n) (hn : n ≤ 100000) (hk : k ≤ 1000000) :
    Calls Tryz.prog 169 #[.slice ao n ca, .int .i64 k] w fun e w' => ∃ v, e = .returned v ∧ Ans w w' (val a n * 2 ^ k) v := by
  refine (raise_qp ao n ca (k / 30) (k % 30) a w ha da hn (by omega) (by omega) k (by omega)).mono ?_
  rintro e w' ⟨v, he, h⟩
  refine ⟨v, he, ?_⟩
  rw [two_split k]
  rwa [show val a n * (P (k / 30) * 2 ^ (k % 30)) = P (k / 30) * (2 ^ (k % 30) * val a n) by grind]

theorem shr_part {x y : Int} {p : Nat} (hx : 0 ≤ x ∧ x < 1073741824) (hy : 0 ≤ y ∧ y < 1073741824) (hp : p < 30) :
    0 ≤ x / 2 ^ p ∧ x / 2 ^ p < 2 ^ (30 - p) ∧ y * 2 ^ (30 - p) % 1073741824 = y % 2 ^ p * 2 ^ (30 - p) ∧ 0 ≤ y % 2 ^ p ∧ y % 2 ^ p * 2 ^ (30 - p) < 1073741824 := by
  have hu := two_pos p
  have hv := two_pos (30 - p)
  have huv : (2 : Int) ^ p * 2 ^ (30 - p) = 1073741824 := by rw [← Int.pow_add, show p + (30 - p) = 30 by omega]; rfl
  have m0 := Int.emod_nonneg y (show (2 : Int) ^ p ≠ 0 by omega)
  have m1 := Int.emod_lt_of_pos y hu
  refine ⟨Int.ediv_nonneg hx.1 (by omega), (Int.ediv_lt_iff_lt_mul hu).2 (by rw [Int.mul_comm, huv]; exact hx.2), ?_, m0, ?_⟩
  · rw [← huv, Int.mul_comm y, Int.mul_comm (2 ^ p : Int), Int.mul_emod_mul_of_pos _ _ hv, Int.mul_comm]
  · have h1 : (y % 2 ^ p + 1) * 2 ^ (30 - p) ≤ 2 ^ p * 2 ^ (30 - p) := Int.mul_le_mul_of_nonneg_right (by omega) (by omega)
    rw [huv, Int.add_mul] at h1
    omega
theorem low_last {s : Nat → Int} {u v : Int} {k : Nat} (h : s (k + 1) = 0) : low s u v k = s k / u := by
  unfold low; rw [h, Int.zero_emod, Int.zero_mul, Int.add_zero]
set_option maxRecDepth 100000 in
set_option maxHeartbeats 1000000 in
theorem lower_qp (ao : Option Addr) (n ca q p : Nat) (a : Nat → Int) (w : World) (ha : Row w ao n ca a) (da : Dig a n) (hn : n ≤ 100000) (hp : p < 30) (k : Int) (hk : k = 30 * q + p) (hkm : k < 9223372036854775808) :
    Calls Tryz.prog 104 #[.slice ao n ca, .int .i64 k] w fun e w' => ∃ v, e = .returned v ∧ Ans w w' (val a n / P q / 2 ^ p) v := by
  have hla := ha.le
  have hma := ha.max
  have e1 : k / 30 = q := by omega
  have e2 : k % 30 = p := by omega
  have hk0 : 0 ≤ k := by omega
  have hqm : (q : Int) < 9223372036854775808 := by omega
  clear hk
  have hu := two_pos p
  have huv : (2 : Int) ^ p * 2 ^ (30 - p) = 1073741824 := by rw [← Int.pow_add, show p + (30 - p) = 30 by omega]; rfl
  have HU : Hid ((2 : Int) ^ p * 2 ^ (30 - p) = 1073741824) := huv
  clear huv
  by_cases hqn : n ≤ q
  · have h0 : val a n / P q / 2 ^ p = 0 := by
      rw [Int.ediv_eq_zero_of_lt (val_nonneg da) (by have := val_lt da; have := P_le hqn; omega)]; exact Int.zero_ediv _
    have H0 : Hid (val a n / P q / 2 ^ p = 0) := h0
    clear h0
    go_enter Tryz.func104, Tryz.ntmps104
    go_wp2
    go_ret
    exact ⟨_, rfl, by rw [H0.out]; exact Ans.nil (bel_refl _)⟩
  · obtain ⟨ba, fa, rfl, hba, hca⟩ := ha.spot (by omega)
    have sp : (((30 : Int) - p).toNat) = 30 - p := by omega
    obtain ⟨N, hN⟩ : ∃ N, n = q + N := ⟨n - q, by omega⟩
    have HN : Hid (n = q + N) := hN
    have hn1 : q + N ≤ n := by omega
    have hn2 : n ≤ q + N := by omega
    have hN0 : 0 < N := by omega
    have hq1 : q ≤ 100000 := by omega
    have hk1 : k ≤ 4000000 := by omega
    clear hN hqn hqm hkm
    go_enter Tryz.func104, Tryz.ntmps104
    go_wp2_with (at_make; refine wpList_mk rfl _ _ rfl _ _ N rfl rfl (by omega) (by omega) (by omega) ?_; intro w1 hB1 hb1)
    go_loopw [24] (fun i wr => ∃ (k : Nat) (r : Nat → Int), k ≤ N ∧ i = .int .i64 k ∧ Blk wr w.heap.size N r ∧ Hid (∀ i, i < k → r i = low (fun j => ext a n (q + j)) (2 ^ p) (2 ^ (30 - p)) i) ∧ Below w.heap.size w wr) (fun i _ => N - (intOf i).toNat)
    case atStart => exact ⟨0, fun _ => 0, Nat.zero_le _, rfl, hB1, fun i hi => by omega, hb1⟩
    case round =>
      obtain ⟨k, r, hk, rfl, hB, HV, hbw⟩ := hrel
      by_cases hlt : k < N
      · have c1 := (hbw.cell (p := ⟨ba, fa + (q + k), none⟩) hba).trans (hca (q + k) (by omega))
        have cg := hB.cell hlt
        have fg := hB.frozen k
        have hB2 := hB.store k (a (q + k) / 2 ^ p)
        by_cases hl2 : q + k + 1 < n
        · have dx := da (q + k) (by omega)
          have dy := da (q + k + 1) (by omega)
          obtain ⟨s0, s1, s2, s3, s4⟩ := shr_part dx dy hp
          obtain ⟨t0, t1, t2⟩ := shl_dig dy (show 30 - p ≤ 30 by omega)
          have hw : wrap64 (a (q + k + 1) * 2 ^ (30 - p)) = a (q + k + 1) * 2 ^ (30 - p) := IntWalk.wrap64_in _ ⟨by omega, by omega⟩
          have h30 : bits .and .i64 (a (q + k + 1) * 2 ^ (30 - p)) 1073741823 = a (q + k + 1) % 2 ^ p * 2 ^ (30 - p) := (and_30 _).trans s2
          have hor : bits .or .i64 (a (q + k) / 2 ^ p) (a (q + k + 1) % 2 ^ p * 2 ^ (30 - p)) = a (q + k) / 2 ^ p + a (q + k + 1) % 2 ^ p * 2 ^ (30 - p) := or_add _ _ _ s0 s1 s3 (by have : (2:Int) ^ (30 - p) ≤ 2 ^ 30 := two_le (by omega); omega)
          have c2 := (hbw.cell (p := ⟨ba, fa + (q + k + 1), none⟩) hba).trans (hca (q + k + 1) (by omega))
          clear s2
          go_wp2
          go_region
          go_wp2
          go_roundw
          case rel => exact ⟨k + 1, upd (upd r k (a (q + k) / 2 ^ p)) k (a (q + k) / 2 ^ p + a (q + k + 1) % 2 ^ p * 2 ^ (30 - p)), by omega, by go_num, (hB2.store k _).of_block rfl, fun i hi => by
              by_cases e : i = k
              · rw [e, upd_same]
                show _ = ext a n (q + k) / 2 ^ p + ext a n (q + (k + 1)) % 2 ^ p * 2 ^ (30 - p)
                rw [ext_lt a (by omega), ext_lt a (by omega), Nat.add_assoc]
              · rw [upd_other _ _ e, upd_other r _ e]; exact HV.out i (by omega), ((hbw.setCell (Nat.le_refl _) _).setCell (Nat.le_refl _) _).drew⟩
          case measure => simp [intOf]; omega
        · go_wp2
          go_roundw
          case rel => exact ⟨k + 1, upd r k (a (q + k) / 2 ^ p), by omega, by go_num, hB2, fun i hi => by
              by_cases e : i = k
              · rw [e, upd_same, low_last (s := fun j => ext a n (q + j)) (ext_ge a (by omega)), ext_lt a (by omega)]
              · rw [upd_other r _ e]; exact HV.out i (by omega), hbw.setCell (Nat.le_refl _) _⟩
          case measure => simp [intOf]; omega
      · obtain rfl : k = N := by omega
        go_wp2_with (go_at_call 101; refine (trim_any _ _ _ _ _ (hB.row0 (Nat.le_refl _) (by omega))).mono ?_; rintro e w3 ⟨t, ht, htop, hz, rfl, rfl⟩)
        go_ret
        have DS : Dig (fun j => ext a n (q + j)) (k + 1) := fun i hi => ext_dig da (q + k + 1) (q + i) (by omega)
        have D2 : Dig r k := (low_dig hu HU.out DS).congr fun i hi => (HV.out i hi).symm
        obtain ⟨hNr, hv⟩ := nrm_of_top D2 ht htop hz
        refine ⟨_, rfl, t, r, hB.cut (Nat.le_refl _) ht (by omega), hNr, ?_, hbw⟩
        rw [hv, val_congr HV.out, low_eq (s := fun j => ext a n (q + j)) hu HU.out (ext_ge a (by omega))]
        have e3 := val_drop a (show q ≤ n by omega) da
        rw [← e3, show n - q = k by omega]
        congr 1
        exact val_congr fun i hi => ext_lt a (by omega)
theorem lower_any (ao : Option Addr) (n ca k : Nat) (a : Nat → Int) (w : World) (ha : Row w ao n ca a) (da : Dig a n) (hn : n ≤ 100000) (hk : (k : Int) < 9223372036854775808) :
    Calls Tryz.prog 104 #[.slice ao n ca, .int .i64 k] w fun e w' => ∃ v, e = .returned v ∧ Ans w w' (val a n / 2 ^ k) v := by
  refine (lower_qp ao n ca (k / 30) (k % 30) a w ha da hn (by omega) k (by omega) hk).mono ?_
  rintro e w' ⟨v, he, h⟩
  refine ⟨v, he, ?_⟩
  rw [two_split k, ← Int.ediv_ediv_of_nonneg (Int.le_of_lt (P_pos _))]
  exact h
end Go.Proofs.YtcpjdgfnblkfpaaGreatDoor
