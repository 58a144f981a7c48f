/-
  Parts of the proof, one behind another.
-/
import Derived.Test.YtmbajngbiefilaaGreatDoorPart4
import Derived.Test.YtmbajngbiefilaaGreatDoorPart6
import Derived.Test.YtmbajngbiefilaaGreatDoorPart2
import Derived.Test.YtmbajngbiefilaaGreatDoorPart5
import Derived.Test.YtmbajngbiefilaaGreatDoorPart3
import Derived.Deep.Cut
/-
  The document's own answers (plumbref2): From, Bits, Bit, Shl, Shr, by contracts over the same values.
-/
namespace Go.Proofs.YtmbajngbiefilaaGreatDoor
open Go Go.RowKit Go.Proofs.YtmbajngbiefilaaGreatDoor.M
set_option linter.unusedSimpArgs false
set_option linter.unusedVariables false

theorem blen_half {x : Int} (h : 0 < x) : blen x = blen (x / 2) + 1 := by
  obtain ⟨h1, h2⟩ := blen_pos h
  have h3 := blen_lt x
  obtain ⟨k, hk⟩ : ∃ k, blen x = k + 1 := ⟨blen x - 1, by omega⟩
  rw [hk] at h2 h3 ⊢
  rw [Nat.add_sub_cancel] at h2
  rw [Int.pow_succ] at h3
  cases k with
  | zero =>
    have : x = 1 := by simp at h3 h2; omega
    subst this; decide
  | succ j =>
    rw [Int.pow_succ] at h2
    have e1 : (2 : Int) ^ j ≤ x / 2 := by omega
    have e2 : x / 2 < 2 ^ (j + 1) := by omega
    rw [blen_of e1 e2]
set_option maxHeartbeats 400000 in
theorem rfrom_any (V : Int) (w : World) (h0 : 0 ≤ V) (h1 : V < 9223372036854775808) :
    Calls Tryz.prog 46 #[.int .i64 V] w fun e w' => ∃ v, e = .returned v ∧ Ans w w' V v := by
  have HM : Hid (V < 9223372036854775808) := h1
  clear h1
  go_enter Tryz.func46, Tryz.ntmps46
  go_wp2
  go_loopw [0, 3] (fun i v wr => ∃ (x : Int) (k : Nat) (r : Nat → Int), i = .int .i64 x ∧ 0 ≤ x ∧ k ≤ 3 ∧ Out w.heap.size wr v k r ∧ Dig r k ∧ Hid (x * P k ≤ V) ∧ Hid (x = 0 → Top r k) ∧ Hid (val r k + x * P k = V) ∧ Below w.heap.size w wr) (fun i _ _ => (intOf i).toNat)
  case atStart => exact ⟨V, 0, fun _ => 0, rfl, h0, by omega, Out.nil _ _ _, fun i hi => by omega, by show _ ≤ _; show V * 1 ≤ V; omega, fun _ => .inl rfl, by show _ = _; show 0 + V * 1 = V; omega, bel_refl _⟩
  case round =>
    obtain ⟨x, k, r, rfl, hx, hk3, hO, hD, HB, HT, HV, hbw⟩ := hrel
    by_cases hp : 0 < x
    · have hk2 : k ≤ 2 := by
        by_cases e : k = 3
        · subst e
          have a := HB.out
          have b := HM.out
          have c : P 3 = 1073741824 * 1073741824 * 1073741824 := by decide
          have d : 1 * P 3 ≤ x * P 3 := Int.mul_le_mul_of_nonneg_right (by omega) (Int.le_of_lt (P_pos 3))
          omega
        · omega
      have hx2 : x ≤ 9223372036854775807 := by
        have a := HB.out
        have b := HM.out
        have c : x * 1 ≤ x * P k := Int.mul_le_mul_of_nonneg_left (by have := P_pos k; omega) (by omega)
        omega
      go_wp2_with (at_builtin; refine wpList_app rfl _ _ rfl w.heap.size _ k r rfl (hO.stays (bel_alloc _ _)) _ 1 1 (fun _ => x % 1073741824) rfl (row1 _ _ rfl) (by omega) (by have := hbw.size; simp; omega) ?_; intro v' w1 hO1 hg1)
      have hb1 : Below w.heap.size w w1 := (hbw.alloc hbw.size _).grown hg1 (by have := hbw.size; simp; omega) (own_ge hO)
      have hs := sum_step (c := 0) (x := x) (show val r k + 0 * P k = val r k by omega)
      rw [Int.zero_add] at hs
      go_roundw
      case rel => exact ⟨x / 1073741824, k + 1, upd r k (x % 1073741824), rfl, by omega, by omega, hO1.congr (cat_upd r k _), dig_upd2 hD (mod_dig _), by
          show _ ≤ _
          have a := HB.out
          rw [P_succ, show x / 1073741824 * (P k * 1073741824) = (x / 1073741824 * 1073741824) * P k by grind]
          have b : (x / 1073741824 * 1073741824) * P k ≤ x * P k := Int.mul_le_mul_of_nonneg_right (by omega) (Int.le_of_lt (P_pos k))
          omega, fun e => .inr (by rw [Nat.add_sub_cancel, upd_same]; omega), by show _ = _; rw [hs]; exact HV.out, hb1⟩
      case measure => simp [intOf]; omega
    · obtain rfl : x = 0 := by omega
      go_wp2
      go_ret
      exact ⟨_, rfl, k, r, hO, ⟨hD, HT.out (by first | rfl | trivial)⟩, by have := HV.out; omega, hbw⟩
set_option maxHeartbeats 400000 in
theorem rbits_any (ao : Option Addr) (n cap : Nat) (d : Nat → Int) (w : World) (h : Row w ao n cap d) (hd : Nrm d n) (hn : n ≤ 1000000) :
    Calls Tryz.prog 26 #[.slice ao n cap] w fun e w' => e = .returned (.int .i64 (blen (val d n))) ∧ w' = w := by
  have hl := h.le
  have hm := h.max
  by_cases h0 : n = 0
  · subst h0
    go_enter Tryz.func26, Tryz.ntmps26
    go_wp2
    go_ret
    exact ⟨rfl, rfl⟩
  · obtain ⟨k, rfl⟩ : ∃ k, n = k + 1 := ⟨n - 1, by omega⟩
    obtain ⟨b, off, rfl, hb, hc⟩ := h.spot (by omega)
    have c := hc k (by omega)
    have dk := hd.1 k (by omega)
    have HV : Hid (blen (val d (k + 1)) = 30 * k + blen (d k)) := blen_val hd
    have hbl : blen (d k) ≤ 30 := blen_le (by show d k < 1073741824; exact dk.2)
    go_enter Tryz.func26, Tryz.ntmps26
    go_wp2
    go_loop [3, 4] (fun s v => ∃ (x : Int) (t : Nat), s = .int .i64 t ∧ v = .int .i64 x ∧ 0 ≤ x ∧ x < 1073741824 ∧ t ≤ 30 * k + 30 ∧ Hid (t + blen x = 30 * k + blen (d k))) (fun _ v => (intOf v).toNat)
    case atStart => exact ⟨d k, 30 * k, by go_num, rfl, dk.1, dk.2, by omega, rfl⟩
    case round =>
      obtain ⟨x, t, rfl, rfl, hx0, hx1, ht, HT⟩ := hrel
      by_cases hp : 0 < x
      · have ht2 : t + 1 ≤ 30 * k + 30 := by have := HT.out; have := blen_half hp; omega
        go_wp2
        go_round
        case rel => exact ⟨x / 2, t + 1, by go_num, rfl, by omega, by omega, ht2, by show _ = _; have := HT.out; have := blen_half hp; omega⟩
        case measure => simp [intOf]; omega
      · obtain rfl : x = 0 := by omega
        go_wp2
        go_ret
        exact ⟨ret_int (by have := HT.out; rw [blen_zero] at this; rw [HV.out]; omega), rfl⟩
theorem rbit_any (ao : Option Addr) (n cap : Nat) (d : Nat → Int) (w : World) (h : Row w ao n cap d) (hd : Nrm d n) (hn : n ≤ 100000) (i : Nat) (hi : i ≤ 4000000) :
    Calls Tryz.prog 18 #[.slice ao n cap, .int .i64 i] w fun e w' => e = .returned (.bool (bitB (val d n) i)) ∧ w' = w := by
  have hl := h.le
  have hm := h.max
  obtain ⟨q, p, hq, hp⟩ : ∃ q p : Nat, i = 30 * q + p ∧ p < 30 := ⟨i / 30, i % 30, by omega, by omega⟩
  have e1 : (i : Int) / 30 = q := by omega
  have e2 : (i : Int) % 30 = p := by omega
  by_cases hqn : q < n
  · have HV : Hid (bitB (val d n) i = (d q / 2 ^ p % 2 == 1)) := by unfold bitB; show _ = _; rw [hq, bit_val hd.1 hqn hp]
    clear hq
    obtain ⟨b, off, rfl, hb, hc⟩ := h.spot (by omega)
    have c := hc q hqn
    have dq := hd.1 q hqn
    have hd0 : 0 ≤ d q / 2 ^ p := Int.ediv_nonneg dq.1 (Int.le_of_lt (two_pos p))
    go_enter Tryz.func18, Tryz.ntmps18
    go_wp2
    go_ret
    exact ⟨ret_bool HV.out.symm, rfl⟩
  · have HV : Hid (bitB (val d n) i = false) := bit_high (val_nonneg hd.1) (by
      refine Nat.le_trans (blen_le (k := 30 * n) (by rw [← P_two]; exact val_lt hd.1)) (by omega))
    clear hq
    go_enter Tryz.func18, Tryz.ntmps18
    go_wp2
    go_ret
    exact ⟨ret_bool HV.out.symm, rfl⟩
end Go.Proofs.YtmbajngbiefilaaGreatDoor

/-
  The document's own answers (plumbref2): Shl, Shr, by contracts over the same values.
-/
namespace Go.Proofs.YtmbajngbiefilaaGreatDoor
open Go Go.RowKit Go.Proofs.YtmbajngbiefilaaGreatDoor.M
set_option linter.unusedSimpArgs false
set_option linter.unusedVariables false

set_option maxHeartbeats 1000000 in
theorem rshl_qp (ao : Option Addr) (n ca q p : Nat) (a : Nat → Int) (w : World) (ha : Row w ao n ca a) (da : Dig a n) (hn : n ≤ 100000) (hq : q ≤ 100000) (hp : p < 30) (k : Int) (hk : k = 30 * q + p) :
    Calls Tryz.prog 64 #[.slice ao n ca, .int .i64 k] w fun e w' => ∃ v, e = .returned v ∧ Ans w w' (P q * (2 ^ p * val a n)) v := by
  have hla := ha.le
  have hma := ha.max
  have e1 : k / 30 = q := by omega
  have e2 : k % 30 = p := by omega
  have hk0 : 0 ≤ k := by omega
  clear hk
  have hu := two_pos p
  have hu2 : (2 : Int) ^ p ≤ 2 ^ 29 := two_le (by omega)
  by_cases hn0 : n = 0
  · subst hn0
    have H0 : Hid (P q * (2 ^ p * val a 0) = 0) := by show _ = _; simp [val]
    go_enter Tryz.func64, Tryz.ntmps64
    go_wp2
    go_ret
    exact ⟨_, rfl, by rw [H0.out]; exact Ans.nil (bel_refl _)⟩
  · have en : ((n : Int) == 0) = false := by simp; omega
    go_enter Tryz.func64, Tryz.ntmps64
    go_wp2_with (at_make; refine wpList_mk rfl _ _ rfl _ _ q rfl rfl (by omega) (by omega) (by omega) ?_; intro w1 hB1 hb1)
    rw [e2]
    go_loopw [5, 7, 8] (fun l c i wr => ∃ (k : Nat) (c' : Int) (r : Nat → Int), k ≤ n ∧ i = .int .i64 k ∧ c = .int .i64 c' ∧ 0 ≤ c' ∧ c' < 2 ^ p ∧ Out w.heap.size wr l (q + k) r ∧ Dig r (q + k) ∧ Hid (∀ i, i < q → r i = 0) ∧ Hid (val (fun i => r (q + i)) k + c' * P k = 2 ^ p * val a k) ∧ Below w.heap.size w wr) (fun _ _ i _ => n - (intOf i).toNat)
    case atStart => exact ⟨0, 0, fun _ => 0, Nat.zero_le _, rfl, rfl, by omega, hu, hB1.out (Nat.le_refl _) (Nat.le_refl _) (by omega), zero_dig _, fun _ _ => rfl, by show _ = _; show (0 : Int) + 0 * 1 = 2 ^ p * 0; omega, hb1⟩
    case round =>
      obtain ⟨k, c, r, hk, rfl, rfl, hc0, hc1, hO, hD, HZ, HV, hbw⟩ := hrel
      by_cases hlt : k < n
      · obtain ⟨ba, fa, rfl, hba, hca⟩ := ha.spot (by omega)
        have c1 := (hbw.cell (p := ⟨ba, fa + k, none⟩) hba).trans (hca k hlt)
        have dk := da k hlt
        obtain ⟨s0, s1, s2⟩ := shl_dig dk (show p ≤ 30 by omega)
        have hc2 : (a k * 2 ^ p + c) / 1073741824 < 2 ^ p := by omega
        go_wp2_with (at_builtin; refine wpList_app rfl _ _ rfl w.heap.size _ (q + k) r rfl (hO.stays (bel_alloc _ _)) _ 1 1 (fun _ => (a k * 2 ^ p + c) % 1073741824) rfl (row1 _ _ rfl) (by omega) (by have := hbw.size; simp; omega) ?_; intro v' w1 hO1 hg1)
        have hb1 : Below w.heap.size w w1 := (hbw.alloc hbw.size _).grown hg1 (by have := hbw.size; simp; omega) (own_ge hO)
        have hs := sum_step (x := a k * 2 ^ p) HV.out
        rw [Int.add_comm c] at hs
        go_roundw
        case rel => exact ⟨k + 1, (a k * 2 ^ p + c) / 1073741824, upd r (q + k) ((a k * 2 ^ p + c) % 1073741824), by omega, by go_num, rfl, by omega, hc2, hO1.congr (cat_upd r (q + k) _), dig_upd2 hD (mod_dig _), fun i hi => by rw [upd_other r _ (by omega)]; exact HZ.out i hi, by show _ = _; rw [upd_shift, hs, val_succ]; grind, hb1⟩
        case measure => simp [intOf]; omega
      · obtain rfl : k = n := by omega
        go_wp2_with (at_builtin; refine wpList_app rfl _ _ rfl w.heap.size _ (q + k) r rfl (hO.stays (bel_alloc _ _)) _ 1 1 (fun _ => c) rfl (row1 _ _ rfl) (by omega) (by have := hbw.size; simp; omega) ?_; intro v' w1 hO1 hg1)
        have hb1 : Below w.heap.size w w1 := (hbw.alloc hbw.size _).grown hg1 (by have := hbw.size; simp; omega) (own_ge hO)
        have D2 : Dig (upd r (q + k) c) (q + k + 1) := dig_upd2 hD ⟨hc0, by omega⟩
        refine (rtrim_ans (hO1.congr (cat_upd r (q + k) c)) D2 hb1).mono ?_
        rintro e w3 ⟨v', rfl, hA, rfl⟩
        go_wp2
        go_ret
        refine ⟨_, rfl, ?_⟩
        rw [Nat.add_assoc, val_shift0 _ _ _ (fun i hi => by rw [upd_other r _ (by omega)]; exact HZ.out i hi), upd_shift, val_succ, upd_same, val_upd_ge _ _ (Nat.le_refl _), HV.out] at hA
        exact hA
theorem rshl_any (ao : Option Addr) (n ca k : Nat) (a : Nat → Int) (w : World) (ha : Row w ao n ca a) (da : Dig a n) (hn : n ≤ 100000) (hk : k ≤ 1000000) :
    Calls Tryz.prog 64 #[.slice ao n ca, .int .i64 k] w fun e w' => ∃ v, e = .returned v ∧ Ans w w' (val a n * 2 ^ k) v := by
  refine (rshl_qp ao n ca (k / 30) (k % 30) a w ha da hn (by omega) (by omega) k (by omega)).mono ?_
  rintro e w' ⟨v, he, h⟩
  refine ⟨v, he, ?_⟩
  rw [two_split k]
  rwa [show val a n * (P (k / 30) * 2 ^ (k % 30)) = P (k / 30) * (2 ^ (k % 30) * val a n) by grind]

set_option maxRecDepth 100000 in
set_option maxHeartbeats 1000000 in
theorem rshr_qp (ao : Option Addr) (n ca q p : Nat) (a : Nat → Int) (w : World) (ha : Row w ao n ca a) (da : Dig a n) (hn : n ≤ 100000) (hp : p < 30) (k : Int) (hk : k = 30 * q + p) (hkm : k ≤ 4000000) :
    Calls Tryz.prog 65 #[.slice ao n ca, .int .i64 k] w fun e w' => ∃ v, e = .returned v ∧ Ans w w' (val a n / P q / 2 ^ p) v := by
  have hla := ha.le
  have hma := ha.max
  have e1 : k / 30 = q := by omega
  have e2 : k % 30 = p := by omega
  have hk0 : 0 ≤ k := by omega
  have hq1 : q ≤ 200000 := by omega
  clear hk
  have hu := two_pos p
  have hu2 : (2 : Int) ^ p ≤ 2 ^ 29 := two_le (by omega)
  have huv : (2 : Int) ^ p * 2 ^ (30 - p) = 1073741824 := by rw [← Int.pow_add, show p + (30 - p) = 30 by omega]; rfl
  have HU : Hid ((2 : Int) ^ p * 2 ^ (30 - p) = 1073741824) := huv
  have hdv : (1073741824 : Int) / 2 ^ p = 2 ^ (30 - p) := by rw [← huv]; exact Int.mul_ediv_cancel_left _ (by omega)
  have hz : ((2 : Int) ^ p == 0) = false := by simp; omega
  clear huv
  by_cases hqn : n ≤ q
  · have H0 : Hid (val a n / P q / 2 ^ p = 0) := by
      show _ = _
      rw [Int.ediv_eq_zero_of_lt (val_nonneg da) (by have := val_lt da; have := P_le hqn; omega)]; exact Int.zero_ediv _
    go_enter Tryz.func65, Tryz.ntmps65
    go_wp2
    go_ret
    exact ⟨_, rfl, by rw [H0.out]; exact Ans.nil (bel_refl _)⟩
  · obtain ⟨ba, fa, rfl, hba, hca⟩ := ha.spot (by omega)
    obtain ⟨N, hN⟩ : ∃ N, n = q + N := ⟨n - q, by omega⟩
    have HN : Hid (n = q + N) := hN
    have hn1 : q + N ≤ n := by omega
    have hn2 : n ≤ q + N := by omega
    have hN0 : 0 < N := by omega
    clear hN
    go_enter Tryz.func65, Tryz.ntmps65
    go_wp2
    rw [e1, e2]
    go_loopw [5, 7] (fun l i wr => ∃ (k : Nat) (r : Nat → Int), k ≤ N ∧ i = .int .i64 ((q : Int) + k) ∧ Out w.heap.size wr l k r ∧ Hid (∀ i, i < k → r i = low (fun j => ext a n (q + j)) (2 ^ p) (2 ^ (30 - p)) i) ∧ Below w.heap.size w wr) (fun _ i _ => n - (intOf i).toNat)
    case atStart => exact ⟨0, fun _ => 0, Nat.zero_le _, by simp, Out.nil _ _ _, fun i hi => by omega, bel_refl _⟩
    case round =>
      obtain ⟨k, r, hk, rfl, hO, HV, hbw⟩ := hrel
      by_cases hlt : k < N
      · have c1 := (hbw.cell (p := ⟨ba, fa + (q + k), none⟩) hba).trans (hca (q + k) (by omega))
        have dx := da (q + k) (by omega)
        by_cases hl2 : q + k + 1 < n
        · have dy := da (q + k + 1) (by omega)
          obtain ⟨s0, s1, s2, s3, s4⟩ := shr_part dx dy hp
          have s5 : 0 ≤ a (q + k + 1) % 2 ^ p * 2 ^ (30 - p) := Int.mul_nonneg s3 (Int.le_of_lt (two_pos _))
          have s6 : (2 : Int) ^ (30 - p) ≤ 2 ^ 30 := two_le (by omega)
          have c2 := (hbw.cell (p := ⟨ba, fa + (q + k + 1), none⟩) hba).trans (hca (q + k + 1) (by omega))
          clear s2
          go_wp2
          go_quiet (fail)
          go_wp2_with (at_builtin; refine wpList_app rfl _ _ rfl w.heap.size _ k r rfl ((hO.stays (bDrewN (bel_refl _) _)).stays (bel_alloc _ _)) _ 1 1 (fun _ => (a (q + k) / 2 ^ p + a (q + k + 1) % 2 ^ p * 2 ^ (30 - p))) rfl (row1 _ _ rfl) (by omega) (by have := hbw.size; simp [World.drewN]; omega) ?_; intro v' w1 hO1 hg1)
          have hb1 : Below w.heap.size w w1 := ((bDrewN hbw _).alloc hbw.size _).grown hg1 (by have := hbw.size; simp [World.drewN]; omega) (own_ge hO)
          go_roundw
          case rel => exact ⟨k + 1, upd r k (a (q + k) / 2 ^ p + a (q + k + 1) % 2 ^ p * 2 ^ (30 - p)), by omega, by go_num, hO1.congr (cat_upd r k _), fun i hi => by
              by_cases e : i = k
              · rw [e, upd_same]
                show _ = ext a n (q + k) / 2 ^ p + ext a n (q + (k + 1)) % 2 ^ p * 2 ^ (30 - p)
                rw [ext_lt a (by omega), ext_lt a (by omega), Nat.add_assoc]
              · rw [upd_other _ _ e]; exact HV.out i (by omega), hb1⟩
          case measure => simp [intOf]; omega
        · obtain ⟨s0, s1, _, _, _⟩ := shr_part dx dx hp
          have s6 : (2 : Int) ^ (30 - p) ≤ 2 ^ 30 := two_le (by omega)
          go_wp2_with (at_builtin; refine wpList_app rfl _ _ rfl w.heap.size _ k r rfl (hO.stays (bel_alloc _ _)) _ 1 1 (fun _ => (a (q + k) / 2 ^ p)) rfl (row1 _ _ rfl) (by omega) (by have := hbw.size; simp; omega) ?_; intro v' w1 hO1 hg1)
          have hb1 : Below w.heap.size w w1 := (hbw.alloc hbw.size _).grown hg1 (by have := hbw.size; simp; omega) (own_ge hO)
          go_roundw
          case rel => exact ⟨k + 1, upd r k (a (q + k) / 2 ^ p), by omega, by go_num, hO1.congr (cat_upd r k _), fun i hi => by
              by_cases e : i = k
              · rw [e, upd_same, low_last (s := fun j => ext a n (q + j)) (ext_ge a (by omega)), ext_lt a (by omega)]
              · rw [upd_other r _ e]; exact HV.out i (by omega), hb1⟩
          case measure => simp [intOf]; omega
      · obtain rfl : k = N := by omega
        have DS : Dig (fun j => ext a n (q + j)) (k + 1) := fun i hi => ext_dig da (q + k + 1) (q + i) (by omega)
        have D2 : Dig r k := (low_dig hu HU.out DS).congr fun i hi => (HV.out i hi).symm
        have HD2 : Hid (Dig r k) := D2
        clear D2 DS
        go_wp2_with fail
        refine (rtrim_ans hO HD2.out hbw).mono ?_
        rintro e w3 ⟨v', rfl, hA, rfl⟩
        go_wp2
        go_ret
        refine ⟨_, rfl, ?_⟩
        rw [val_congr HV.out, low_eq (s := fun j => ext a n (q + j)) hu HU.out (ext_ge a (by omega))] at hA
        have e3 := val_drop a (show q ≤ n by omega) da
        rw [← e3, show n - q = k by omega]
        rw [show val (fun j => ext a n (q + j)) k = val (fun i => a (q + i)) k from val_congr fun i hi => ext_lt a (by omega)] at hA
        exact hA
theorem rshr_any (ao : Option Addr) (n ca k : Nat) (a : Nat → Int) (w : World) (ha : Row w ao n ca a) (da : Dig a n) (hn : n ≤ 100000) (hk : k ≤ 4000000) :
    Calls Tryz.prog 65 #[.slice ao n ca, .int .i64 k] w fun e w' => ∃ v, e = .returned v ∧ Ans w w' (val a n / 2 ^ k) v := by
  refine (rshr_qp ao n ca (k / 30) (k % 30) a w ha da hn (by omega) k (by omega) (by omega)).mono ?_
  rintro e w' ⟨v, he, h⟩
  refine ⟨v, he, ?_⟩
  rw [two_split k, ← Int.ediv_ediv_of_nonneg (Int.le_of_lt (P_pos _))]
  exact h
end Go.Proofs.YtmbajngbiefilaaGreatDoor

/-
  The document's own division, bit by bit: the mathematics and the memory of a step.
-/
namespace Go.Proofs.YtmbajngbiefilaaGreatDoor
open Go Go.RowKit Go.Proofs.YtmbajngbiefilaaGreatDoor.M
set_option linter.unusedSimpArgs false
set_option linter.unusedVariables false

/-- A digit is what is left of the value. -/
theorem dig_of {d : Nat → Int} {n q : Nat} (hd : Dig d n) (hq : q < n) : d q = val d n / P q % 1073741824 := by
  obtain ⟨m, rfl⟩ : ∃ m, n = q + (1 + m) := ⟨n - q - 1, by omega⟩
  have h := val_drop d (show q ≤ q + (1 + m) by omega) hd
  rw [← h, Nat.add_sub_cancel_left, Nat.add_comm 1 m, val_cons]
  have hq0 := hd q (by omega)
  show d q = (d q + _) % _
  rw [Int.add_mul_emod_self_left, Int.emod_eq_of_lt hq0.1 hq0.2]
/-- State of the division: c is 2 ahead of a bit's step, 1 behind it. -/
structure DivS (w0 wr : World) (n : Nat) (A B : Int) (i : Nat) (rv : Value) (qd : Nat → Int) (t : Nat) (d : Nat → Int) (Q R c : Int) : Prop where
  blk : Blk wr w0.heap.size n qd
  dig : Dig qd n
  out : Out (w0.heap.size + 1) wr rv t d
  nrm : Nrm d t
  vr : val d t = R
  eq : A / 2 ^ i = c * B * Q + R
  lt : R < c * B
  vq : val qd n = Q * (c * 2 ^ i)
  below : Below w0.heap.size w0 wr
theorem DivS.keeps {w0 wr w' : World} {n : Nat} {A B : Int} {i : Nat} {rv : Value} {qd : Nat → Int} {t : Nat} {d : Nat → Int} {Q R c : Int} (h : DivS w0 wr n A B i rv qd t d Q R c) (hb : Below wr.heap.size wr w') : DivS w0 w' n A B i rv qd t d Q R c :=
  ⟨h.blk.keeps hb, h.dig, h.out.stays hb, h.nrm, h.vr, h.eq, h.lt, h.vq, h.below.trans (hb.mono h.below.size)⟩
theorem DivS.room {w0 wr : World} {n : Nat} {A B : Int} {i q p : Nat} {rv : Value} {qd : Nat → Int} {t : Nat} {d : Nat → Int} {Q R : Int} (h : DivS w0 wr n A B i rv qd t d Q R 2) (hi : i = 30 * q + p) (hp : p < 30) (hq : q < n) : 0 ≤ qd q ∧ qd q + 2 ^ p < 1073741824 := by
  have e := dig_of h.dig hq
  have h0 := h.dig q hq
  refine ⟨h0.1, ?_⟩
  have hv : val qd n / P q = Q * 2 ^ (p + 1) := by
    rw [h.vq, hi, Int.pow_add, ← P_two, show Q * (2 * (P q * 2 ^ p)) = Q * 2 ^ (p + 1) * P q by rw [Int.pow_succ]; grind]
    exact Int.mul_ediv_cancel _ (by have := P_pos q; omega)
  have hs : (1073741824 : Int) = 2 ^ (29 - p) * 2 ^ (p + 1) := by rw [← Int.pow_add, show 29 - p + (p + 1) = 30 by omega]; rfl
  have hpp := two_pos (p + 1)
  rw [hv] at e
  have e2 : Q * 2 ^ (p + 1) % 1073741824 = Q % 2 ^ (29 - p) * 2 ^ (p + 1) := by
    rw [hs, Int.mul_comm Q, Int.mul_comm (2 ^ (29 - p)) (2 ^ (p + 1)), Int.mul_emod_mul_of_pos _ _ hpp, Int.mul_comm]
  rw [e2] at e
  have m1 := Int.emod_lt_of_pos Q (two_pos (29 - p))
  have m2 : (Q % 2 ^ (29 - p) + 1) * 2 ^ (p + 1) ≤ 2 ^ (29 - p) * 2 ^ (p + 1) := Int.mul_le_mul_of_nonneg_right (by omega) (by omega)
  rw [← hs, Int.add_mul, ← e] at m2
  have m3 : (2 : Int) ^ (p + 1) = 2 ^ p * 2 := Int.pow_succ _ _
  have := two_pos p
  omega
theorem DivS.sub {w0 wr w' : World} {n : Nat} {A B : Int} {i q p : Nat} {rv v : Value} {qd : Nat → Int} {t : Nat} {d : Nat → Int} {Q R : Int} (h : DivS w0 wr n A B i rv qd t d Q R 2) (hi : i = 30 * q + p) (hp : p < 30) (hq : q < n) (hA : Ans wr w' (R - B) v) :
    ∃ t' d', DivS w0 (w'.setCell ⟨w0.heap.size, q, none⟩ (.int .i64 (qd q + 2 ^ p))) n A B i v (upd qd q (qd q + 2 ^ p)) t' d' (2 * Q + 1) (R - B) 1 := by
  obtain ⟨t', d', hO, hN, hv, hb⟩ := hA
  have hr := h.room hi hp hq
  have h2 := h.keeps hb
  have hsz := h.blk.lt
  refine ⟨t', d', (h2.blk.store q _), h.dig.upd _ ⟨by have := two_pos p; omega, hr.2⟩, (hO.lower (by omega)).of_block fun g hg => ?_, hN, hv, ?_, ?_, ?_, h2.below.setCell (Nat.le_refl _) _⟩
  · have := (hO.ge hg).1
    exact heap_setCell_other _ _ _ _ (by show g ≠ w0.heap.size; omega)
  · rw [h.eq]; grind
  · have := h.lt; omega
  · rw [val_upd _ _ hq, h.vq, show qd q + 2 ^ p - qd q = 2 ^ p by omega, show (2 : Int) ^ p * P q = 2 ^ i by rw [hi, Int.pow_add, ← P_two, Int.mul_comm]]
    grind
theorem DivS.skip {w0 wr : World} {n : Nat} {A B : Int} {i : Nat} {rv : Value} {qd : Nat → Int} {t : Nat} {d : Nat → Int} {Q R : Int} (h : DivS w0 wr n A B i rv qd t d Q R 2) (hlt : R < B) : DivS w0 wr n A B i rv qd t d (2 * Q) R 1 :=
  ⟨h.blk, h.dig, h.out, h.nrm, h.vr, by rw [h.eq]; grind, by omega, by rw [h.vq]; grind, h.below⟩
theorem half_bit (A : Int) (i : Nat) : A / 2 ^ i = 2 * (A / 2 ^ (i + 1)) + (if bitB A i then 1 else 0) := by
  rw [Int.pow_succ, ← Int.ediv_ediv_of_nonneg (Int.le_of_lt (two_pos i))]
  unfold bitB
  generalize A / 2 ^ i = X
  by_cases h : X % 2 = 1
  · simp [h]; omega
  · have : ¬ ((X % 2 == 1) = true) := by simp [h]
    rw [if_neg this]; omega
theorem DivS.next {w0 wr w1 w' : World} {n : Nat} {A B : Int} {i : Nat} {rv v : Value} {qd : Nat → Int} {t : Nat} {d : Nat → Int} {Q R V : Int} (h : DivS w0 wr n A B (i + 1) rv qd t d Q R 1) (hb : Below wr.heap.size wr w1) (hA : Ans w1 w' V v) (hV : V = 2 * R + (if bitB A i then 1 else 0)) :
    ∃ t' d', DivS w0 w' n A B i v qd t' d' Q V 2 := by
  obtain ⟨t', d', hO, hN, hv, hb'⟩ := hA
  have hsz := h.blk.lt
  have h2 := h.keeps (bel_trans hb hb')
  have hb1 := hb.size
  refine ⟨t', d', h2.blk, h.dig, hO.lower (by omega), hN, hv, ?_, ?_, ?_, h2.below⟩
  · rw [half_bit, h.eq, hV]; grind
  · have := h.lt
    split at hV <;> omega
  · rw [h.vq, Int.pow_succ]; grind
theorem DivS.done {w0 wr : World} {n : Nat} {A B : Int} {rv : Value} {qd : Nat → Int} {t : Nat} {d : Nat → Int} {Q R : Int} (h : DivS w0 wr n A B 0 rv qd t d Q R 1) (hB : 0 < B) : A / B = Q ∧ A % B = R ∧ val qd n = Q := by
  have e := h.eq
  have h1 := h.lt
  have h0 := val_nonneg h.nrm.1
  rw [h.vr] at h0
  rw [Int.pow_zero, Int.ediv_one] at e
  have hv := h.vq
  have k := (Int.ediv_emod_unique (a := A) (b := B) (r := R) (q := Q) hB).2 ⟨by rw [e]; grind, h0, by omega⟩
  exact ⟨k.1, k.2, by rw [hv]; simp⟩
theorem DivS.ans {w0 wr : World} {n : Nat} {A B : Int} {rv v1 : Value} {qd : Nat → Int} {t : Nat} {d : Nat → Int} {Q R : Int} (h : DivS w0 wr n A B 0 rv qd t d Q R 1) (hB : 0 < B) {t1 : Nat} (hO : Out w0.heap.size wr v1 t1 qd) (ht : Nrm qd t1 ∧ val qd t1 = val qd n) (hown : ∀ k, v1.ownBlock = some k → k = w0.heap.size) : Ans2 w0 wr (A / B) v1 (A % B) rv := by
  obtain ⟨e1, e2, e3⟩ := h.done hB
  refine ⟨⟨t1, qd, hO, ht.1, by rw [ht.2, e1, e3], h.below⟩, ⟨t, d, h.out.lower (by omega), h.nrm, by rw [h.vr, e2], h.below⟩, fun k hk hk' => ?_⟩
  have a := hown k hk
  have b := (h.out.ge hk').1
  omega
end Go.Proofs.YtmbajngbiefilaaGreatDoor

/-
  Package nat: small, combine, heads (what Lehmer's way is made of), by contracts.
-/
namespace Go.Proofs.YtmbajngbiefilaaGreatDoor
open Go Go.RowKit Go.Proofs.YtmbajngbiefilaaGreatDoor.M
set_option linter.unusedSimpArgs false
set_option linter.unusedVariables false

theorem val_mono {d : Nat → Int} {n m : Nat} (h : Dig d n) (hm : m ≤ n) : val d m ≤ val d n := by
  have e := val_split d m (n - m)
  rw [show m + (n - m) = n by omega] at e
  have a := val_nonneg (show Dig (fun i => d (m + i)) (n - m) from fun i hi => h (m + i) (by omega))
  have := Int.mul_nonneg (Int.le_of_lt (P_pos m)) a
  omega
set_option maxHeartbeats 400000 in
theorem small_any (ao : Option Addr) (n cap : Nat) (d : Nat → Int) (w : World) (h : Row w ao n cap d) (hd : Dig d n) (hn : n ≤ 3) (hv : val d n < 9223372036854775808) :
    Calls Tryz.prog 51 #[.slice ao n cap] w fun e w' => e = .returned (.int .i64 (val d n)) ∧ w' = w := by
  have hl := h.le
  have hm := h.max
  have HV : Hid (val d n < 9223372036854775808) := hv
  clear hv
  go_enter Tryz.func51, Tryz.ntmps51
  go_wp2
  go_loop [3, 7] (fun v i => ∃ k : Nat, k ≤ n ∧ i = .int .i64 k ∧ v = .int .i64 (val d k)) (fun _ i => n - (intOf i).toNat)
  case atStart => exact ⟨0, Nat.zero_le _, rfl, rfl⟩
  case round =>
    obtain ⟨k, hk, rfl, rfl⟩ := hrel
    by_cases hlt : k < n
    · obtain ⟨b, off, rfl, hb, hc⟩ := h.spot (by omega)
      have c := hc k hlt
      have dk := hd k hlt
      have v0 := val_nonneg (hd.le (show k ≤ n by omega))
      have v1 := val_lt (hd.le (show k ≤ n by omega))
      have m1 := val_mono hd (show k + 1 ≤ n by omega)
      have hv2 := HV.out
      rw [P_two] at v1
      have e1 : val d (k + 1) = val d k + d k * 2 ^ (30 * k) := by rw [val_succ, P_two]
      have m0 : 0 ≤ d k * 2 ^ (30 * k) := Int.mul_nonneg dk.1 (Int.le_of_lt (two_pos _))
      have hw : wrap64 (d k * 2 ^ (30 * k)) = d k * 2 ^ (30 * k) := IntWalk.wrap64_in _ ⟨by omega, by omega⟩
      have hor : bits .or .i64 (val d k) (d k * 2 ^ (30 * k)) = val d (k + 1) := (or_add _ _ _ v0 v1 dk.1 (by omega)).trans e1.symm
      clear e1 m0 m1 hv2 v0 v1
      go_wp2
      go_round
      case rel => exact ⟨k + 1, by omega, by go_num, rfl⟩
      case measure => simp [intOf]; omega
    · obtain rfl : k = n := by omega
      go_wp2
      go_ret
      exact ⟨rfl, rfl⟩

theorem mul_bnd {x y : Int} (hx : -1073741824 < x ∧ x < 1073741824) (hy : 0 ≤ y ∧ y < 1073741824) : -1152921504606846976 ≤ x * y ∧ x * y ≤ 1152921504606846976 := by
  have h1 : x * y ≤ 1073741824 * y := Int.mul_le_mul_of_nonneg_right (by omega) hy.1
  have h2 : -1073741824 * y ≤ x * y := Int.mul_le_mul_of_nonneg_right (by omega) hy.1
  constructor <;> omega
set_option maxHeartbeats 1000000 in
theorem combine_any (ao bo : Option Addr) (n m ca cb : Nat) (a b : Nat → Int) (x y : Int) (w : World) (ha : Row w ao n ca a) (hb : Row w bo m cb b) (da : Dig a n) (db : Dig b m) (hn : n ≤ 100000) (hm : m ≤ n)
    (hx : -1073741824 < x ∧ x < 1073741824) (hy : -1073741824 < y ∧ y < 1073741824) (h0 : 0 ≤ x * val a n + y * val b m) (h1 : x * val a n + y * val b m < P n) :
    Calls Tryz.prog 109 #[.slice ao n ca, .slice bo m cb, .int .i64 x, .int .i64 y] w fun e w' => ∃ v, e = .returned v ∧ Ans w w' (x * val a n + y * val b m) v := by
  have hla := ha.le
  have hma := ha.max
  have hlb := hb.le
  have hmb := hb.max
  have H0 : Hid (0 ≤ x * val a n + y * val b m) := h0
  have H1 : Hid (x * val a n + y * val b m < P n) := h1
  clear h0 h1
  go_enter Tryz.func109, Tryz.ntmps109
  go_wp2_with (at_make; refine wpList_mk rfl _ _ rfl _ _ n rfl rfl (by omega) (by omega) (by omega) ?_; intro w1 hB1 hb1)
  go_loopw [10, 17] (fun c i wr => ∃ (k : Nat) (q : Int) (r : Nat → Int), k ≤ n ∧ i = .int .i64 k ∧ c = .int .i64 q ∧ -4294967296 ≤ q ∧ q ≤ 4294967296 ∧ Blk wr w.heap.size n r ∧ Dig r n ∧ Hid (val r k + q * P k = x * val a k + y * val (ext b m) k) ∧ Below w.heap.size w wr) (fun _ i _ => n - (intOf i).toNat)
  case atStart => exact ⟨0, 0, fun _ => 0, Nat.zero_le _, rfl, rfl, by omega, by omega, hB1, zero_dig _, by show _ = _; show (0 : Int) + 0 * 1 = x * 0 + y * 0; omega, hb1⟩
  case round =>
    obtain ⟨k, q, r, hk, rfl, rfl, hq0, hq1, hB, hD, HV, hbw⟩ := hrel
    have cg := fun h : k < n => hB.cell h
    have fg := hB.frozen k
    by_cases hlt : k < n
    · obtain ⟨ba, fa, rfl, hba, hca⟩ := ha.spot (by omega)
      have c1 := (hbw.cell (p := ⟨ba, fa + k, none⟩) hba).trans (hca k hlt)
      have dk := da k hlt
      have mx := mul_bnd hx dk
      by_cases hkm : k < m
      · obtain ⟨bb, fb, rfl, hbb, hcb⟩ := hb.spot (by omega)
        have c2 := (hbw.cell (p := ⟨bb, fb + k, none⟩) hbb).trans (hcb k hkm)
        have dbk := db k hkm
        have my := mul_bnd hy dbk
        have h30 := and_30 (q + x * a k + y * b k)
        go_wp2
        have he := ext_lt b hkm
        have hs := sum_step (x := x * a k + y * ext b m k) HV.out
        rw [he, show q + (x * a k + y * b k) = q + x * a k + y * b k by omega] at hs
        go_roundw
        case rel => exact ⟨k + 1, (q + x * a k + y * b k) / 1073741824, upd r k ((q + x * a k + y * b k) % 1073741824), by omega, by go_num, rfl, by omega, by omega, hB.store k _, hD.upd k (mod_dig _), by show _ = _; rw [hs, val_succ, val_succ, he]; grind, hbw.setCell (Nat.le_refl _) _⟩
        case measure => simp [intOf]; omega
      · have h30 := and_30 (q + x * a k)
        go_wp2
        have he := ext_ge b (show m ≤ k by omega)
        have hs := sum_step (x := x * a k + y * ext b m k) HV.out
        rw [he, Int.mul_zero, show q + (x * a k + 0) = q + x * a k by omega] at hs
        go_roundw
        case rel => exact ⟨k + 1, (q + x * a k) / 1073741824, upd r k ((q + x * a k) % 1073741824), by omega, by go_num, rfl, by omega, by omega, hB.store k _, hD.upd k (mod_dig _), by show _ = _; rw [hs, val_succ, val_succ, he]; grind, hbw.setCell (Nat.le_refl _) _⟩
        case measure => simp [intOf]; omega
    · obtain rfl : k = n := by omega
      go_wp2_with (go_at_call 76; refine (trim_any _ _ _ _ _ (hB.row0 (Nat.le_refl _) (by omega))).mono ?_; rintro e w3 ⟨t, ht, htop, hz, rfl, rfl⟩)
      go_ret
      obtain ⟨hN, hv⟩ := nrm_of_top hD ht htop hz
      refine ⟨_, rfl, t, r, hB.cut (Nat.le_refl _) ht (by omega), hN, ?_, hbw⟩
      have e1 := HV.out
      have e2 := H0.out
      have e3 := H1.out
      rw [val_ext b hm] at e1
      have e4 := val_lt hD
      have e5 := val_nonneg hD
      have pk := P_pos k
      have h4 : q = 0 := by
        rcases Int.lt_trichotomy q 0 with h | h | h
        · have : q * P k ≤ -1 * P k := Int.mul_le_mul_of_nonneg_right (by omega) (by omega)
          omega
        · exact h
        · have : 1 * P k ≤ q * P k := Int.mul_le_mul_of_nonneg_right (by omega) (by omega)
          omega
      subst h4
      rw [hv]; omega
theorem small_ans {w w' : World} {V : Int} {v : Value} (h : Ans w w' V v) (hV : V < 1152921504606846976) :
    Calls Tryz.prog 51 #[v] w' fun e w'' => e = .returned (.int .i64 V) ∧ w'' = w' := by
  have hn := h.num
  obtain ⟨ao, n, cap, rfl⟩ := hn.shape
  have hl := hn.len (show V < P 2 from hV)
  obtain ⟨ao', n', cap', d, e, hR, h2, rfl⟩ := hn
  simp only [Value.slice.injEq] at e
  obtain ⟨rfl, rfl, rfl⟩ := e
  exact small_any _ _ _ _ _ hR h2.1 (by omega) (by omega)
set_option maxHeartbeats 400000 in
theorem heads_any (ao bo : Option Addr) (n m ca cb : Nat) (a b : Nat → Int) (w : World) (ha : Row w ao n ca a) (hb : Row w bo m cb b) (na : Nrm a n) (nb : Nrm b m) (hn : n ≤ 5000) (hm : m ≤ 5000) (h3 : 3 ≤ n) (hle : val b m ≤ val a n) :
    Calls Tryz.prog 95 #[.slice ao n ca, .slice bo m cb] w fun e w' => ∃ s : Nat, e = .returned (.tuple #[.int .i64 (val a n / 2 ^ s), .int .i64 (val b m / 2 ^ s)]) ∧ val a n < 1152921504606846976 * 2 ^ s ∧ Below w.heap.size w w' := by
  have hA := val_top na.1 (by omega) na.2
  have hp : P 2 ≤ P (n - 1) := P_le (by omega)
  have hbl := blen_ge (k := 60) (V := val a n) (by show (1152921504606846976 : Int) ≤ _; have : P 2 = 1152921504606846976 := by decide
                                                   omega)
  have hbu : blen (val a n) ≤ 30 * n := blen_le (by rw [← P_two]; exact val_lt na.1)
  obtain ⟨s, hs⟩ : ∃ s : Nat, ((blen (val a n) : Nat) : Int) - 60 = s := ⟨blen (val a n) - 60, by omega⟩
  have hs1 : (s : Int) < 9223372036854775808 := by omega
  have HS1 : Hid ((s : Int) < 9223372036854775808) := hs1
  have hlt : val a n < 1152921504606846976 * 2 ^ s := by
    have h := blen_lt (val a n)
    rw [show blen (val a n) = 60 + s by omega, Int.pow_add] at h
    exact h
  have ps := two_pos s
  have hx : val a n / 2 ^ s < 1152921504606846976 := (Int.ediv_lt_iff_lt_mul ps).2 hlt
  have hy : val b m / 2 ^ s < 1152921504606846976 := (Int.ediv_lt_iff_lt_mul ps).2 (by omega)
  have HF : Hid (val a n < 1152921504606846976 * 2 ^ s) := hlt
  have HX : Hid (val a n / 2 ^ s < 1152921504606846976) := hx
  have HY : Hid (val b m / 2 ^ s < 1152921504606846976) := hy
  clear hA hp hlt hx hy hle hs1 hbl
  go_enter Tryz.func95, Tryz.ntmps95
  go_wp2_with fail
  refine (bitLength_any _ _ _ _ _ ha na (by omega)).mono ?_
  rintro e w1 ⟨rfl, rfl⟩
  go_wp2_with fail
  refine (lower_any _ _ _ s a _ ha na.1 (by omega) HS1.out).mono ?_
  rintro e w2 ⟨v1, rfl, hA1⟩
  go_wp2_with fail
  refine (small_ans hA1 HX.out).mono ?_
  rintro e w3 ⟨rfl, rfl⟩
  go_wp2_with fail
  refine (lower_any _ _ _ s b _ (hb.keeps hA1.below) nb.1 (by omega) HS1.out).mono ?_
  rintro e w4 ⟨v2, rfl, hA2⟩
  go_wp2_with fail
  refine (small_ans hA2 HY.out).mono ?_
  rintro e w5 ⟨rfl, rfl⟩
  go_wp2
  go_ret2
  exact ⟨s, rfl, HF.out, bel_trans hA1.below hA2.below⟩
end Go.Proofs.YtmbajngbiefilaaGreatDoor

/-
  Package nat: simulate (Euclid's steps on the heads), by its contract.
-/
namespace Go.Proofs.YtmbajngbiefilaaGreatDoor
open Go Go.RowKit Go.Proofs.YtmbajngbiefilaaGreatDoor.M
set_option linter.unusedSimpArgs false
set_option linter.unusedVariables false

/-- The sign of the steps put together. -/
def sgn (odd : Bool) : Int := if odd then -1 else 1
theorem sgn_not (odd : Bool) : sgn (!odd) = - sgn odd := by cases odd <;> rfl
/-- Steps that are surely those of the whole numbers. -/
def Sure (x0 y0 x y fA fB nA nB : Int) (odd : Bool) : Prop :=
  M.Steps x0 y0 x y fA fB nA nB (sgn odd) ∧ nA ≤ nB ∧ fA ≤ fB ∧ fB ≤ nB ∧ 1 ≤ fB ∧ 1 ≤ nA ∧ nB ≤ y ∧ nB + fB ≤ x - y
/-- None as yet, or sure ones. -/
def Sim (x0 y0 x y fA fB nA nB : Int) (odd : Bool) : Prop :=
  (fA = 1 ∧ fB = 0 ∧ nA = 0 ∧ nB = 1 ∧ odd = false ∧ x = x0 ∧ y = y0) ∨ Sure x0 y0 x y fA fB nA nB odd
theorem Sim.steps {x0 y0 x y fA fB nA nB : Int} {odd : Bool} (h : Sim x0 y0 x y fA fB nA nB odd) : M.Steps x0 y0 x y fA fB nA nB (sgn odd) := by
  rcases h with ⟨rfl, rfl, rfl, rfl, rfl, rfl, rfl⟩ | h
  · exact M.Steps.start _ _
  · exact h.1
theorem Sim.bounds {x0 y0 x y fA fB nA nB : Int} {odd : Bool} (h : Sim x0 y0 x y fA fB nA nB odd) (hy : 0 < y) (hxy : y ≤ x) (hx0 : x0 < 1152921504606846976) (hy0 : y0 ≤ x0) :
    1 ≤ x / y ∧ 0 ≤ x / y * nA ∧ x / y * nA ≤ 1152921504606846976 ∧ 0 ≤ x / y * nB ∧ x / y * nB ≤ 1152921504606846976 ∧ 0 ≤ fA ∧ fA ≤ 1152921504606846976 ∧ 0 ≤ fB ∧ fB ≤ 1152921504606846976 ∧ 0 ≤ nA ∧ 1 ≤ nB ∧ nA ≤ 1152921504606846976 ∧ nB ≤ 1152921504606846976 := by
  have s := h.steps
  have q1 : 1 ≤ x / y := (Int.le_ediv_iff_mul_le hy).2 (by omega)
  have t := s.step q1
  have bx := t.back_x
  have by_ := t.back_y
  have e : x - x / y * y = x % y := by have := Int.mul_ediv_add_emod x y; rw [Int.mul_comm]; omega
  rw [e] at bx by_ t
  have m0 := Int.emod_nonneg x (show y ≠ 0 by omega)
  have a1 := Int.mul_nonneg (show 0 ≤ x / y by omega) s.nA0
  have a2 := Int.mul_nonneg (show 0 ≤ x / y by omega) (show 0 ≤ nB by have := s.nB1; omega)
  have f0 := s.fA0
  have g0 := s.fB0
  have n0 := s.nA0
  have n1 := s.nB1
  have c1 : (fB + x / y * nB) * 1 ≤ (fB + x / y * nB) * y := mul_le_l (by omega) (by omega)
  have c2 : (fA + x / y * nA) * 1 ≤ (fA + x / y * nA) * y := mul_le_l (by omega) (by omega)
  have c3 : 0 ≤ nB * (x % y) := Int.mul_nonneg (by omega) m0
  have c4 : 0 ≤ nA * (x % y) := Int.mul_nonneg n0 m0
  have d1 : 1 * nB ≤ x / y * nB := mul_le_r q1 (by omega)
  have d2 : 1 * nA ≤ x / y * nA := mul_le_r q1 n0
  refine ⟨q1, a1, ?_, a2, ?_, f0, ?_, g0, ?_, n0, n1, ?_, ?_⟩ <;> omega
theorem Sim.step {x0 y0 x y fA fB nA nB : Int} {odd : Bool} (h : Sim x0 y0 x y fA fB nA nB odd) (hy : 0 < y) (hxy : y ≤ x) (h1 : fB + x / y * nB ≤ x % y) (h2 : fB + x / y * nB + nB ≤ y - x % y) :
    Sim x0 y0 y (x % y) nA nB (fA + x / y * nA) (fB + x / y * nB) (!odd) := by
  have s := h.steps
  have q1 : 1 ≤ x / y := (Int.le_ediv_iff_mul_le hy).2 (by omega)
  have t := s.step q1
  have e : x - x / y * y = x % y := by have := Int.mul_ediv_add_emod x y; rw [Int.mul_comm]; omega
  rw [e, ← sgn_not] at t
  have n1 := s.nB1
  have n0 := s.nA0
  have f0 := s.fA0
  have g0 := s.fB0
  have d1 : 1 * nB ≤ x / y * nB := mul_le_r q1 (by omega)
  have d2 : 1 * nA ≤ x / y * nA := mul_le_r q1 n0
  refine .inr ⟨t, ?_, ?_, by omega, n1, ?_, h1, h2⟩
  · rcases h with ⟨rfl, rfl, rfl, rfl, rfl, rfl, rfl⟩ | ⟨_, c1, c2, _⟩
    · omega
    · have : x / y * nA ≤ x / y * nB := mul_le_l c1 (by omega)
      omega
  · rcases h with ⟨rfl, rfl, rfl, rfl, rfl, rfl, rfl⟩ | ⟨_, c1, _⟩
    · omega
    · exact c1
  · rcases h with ⟨rfl, rfl, rfl, rfl, rfl, rfl, rfl⟩ | ⟨_, _, c2, _, c4, c5, _⟩
    · omega
    · omega
/-- The block of five cells that holds steps. -/
structure StB (w : World) (g : Nat) (fA fB nA nB : Int) (odd : Bool) : Prop where
  blk : w.heap[g]? = some (.cells #[.int .i64 fA, .int .i64 fB, .int .i64 nA, .int .i64 nB, .bool odd] 95 (0, 0))
theorem StB.cells {w : World} {g : Nat} {fA fB nA nB : Int} {odd : Bool} (h : StB w g fA fB nA nB odd) :
    w.cell? ⟨g, 0, none⟩ = some (.int .i64 fA) ∧ w.cell? ⟨g, 1, none⟩ = some (.int .i64 fB) ∧ w.cell? ⟨g, 2, none⟩ = some (.int .i64 nA) ∧ w.cell? ⟨g, 3, none⟩ = some (.int .i64 nB) ∧ w.cell? ⟨g, 4, none⟩ = some (.bool odd) := by
  refine ⟨?_, ?_, ?_, ?_, ?_⟩ <;> (rw [cell_of_row w g _ _ _ _ h.blk]; rfl)
theorem StB.frozen {w : World} {g : Nat} {fA fB nA nB : Int} {odd : Bool} (h : StB w g fA fB nA nB odd) (o : Nat) : w.frozen? ⟨g, o, none⟩ = false := frozen_of_row w g o _ _ h.blk
theorem StB.of {w w' : World} {g : Nat} {fA fB nA nB : Int} {odd : Bool} (h : StB w g fA fB nA nB odd) (e : w'.heap[g]? = w.heap[g]?) : StB w' g fA fB nA nB odd := ⟨e.trans h.blk⟩
theorem StB.new {w : World} {fA fB nA nB : Int} {odd : Bool} : StB (w.alloc (.cells #[.int .i64 fA, .int .i64 fB, .int .i64 nA, .int .i64 nB, .bool odd] 95)) w.heap.size fA fB nA nB odd := ⟨heap_alloc_new w _⟩
theorem StB.lt {w : World} {g : Nat} {fA fB nA nB : Int} {odd : Bool} (h : StB w g fA fB nA nB odd) : g < w.heap.size := (Array.getElem?_eq_some_iff.1 h.blk).1
theorem StB.alloc {w : World} {g : Nat} {fA fB nA nB : Int} {odd : Bool} (h : StB w g fA fB nA nB odd) (o : Obj) : StB (w.alloc o) g fA fB nA nB odd := h.of (Below.heap_alloc w o g h.lt)
/-- The world with five cells of block g written. -/
def put5 (w : World) (g : Nat) (fA fB nA nB : Int) (odd : Bool) : World :=
  ((((w.setCell ⟨g, 0, none⟩ (.int .i64 fA)).setCell ⟨g, 1, none⟩ (.int .i64 fB)).setCell ⟨g, 2, none⟩ (.int .i64 nA)).setCell ⟨g, 3, none⟩ (.int .i64 nB)).setCell ⟨g, 4, none⟩ (.bool odd)
theorem StB.put {w : World} {g : Nat} {a b c d : Int} {e : Bool} (h : StB w g a b c d e) (fA fB nA nB : Int) (odd : Bool) : StB (put5 w g fA fB nA nB odd) g fA fB nA nB odd :=
  ⟨heap_setCell_same _ g 4 _ _ _ (heap_setCell_same _ g 3 _ _ _ (heap_setCell_same _ g 2 _ _ _ (heap_setCell_same _ g 1 _ _ _ (heap_setCell_same _ g 0 _ _ _ h.blk))))⟩
theorem put5_other {w : World} {g k : Nat} (fA fB nA nB : Int) (odd : Bool) (hk : k ≠ g) : (put5 w g fA fB nA nB odd).heap[k]? = w.heap[k]? := by
  unfold put5
  rw [heap_setCell_other _ _ k _ hk, heap_setCell_other _ _ k _ hk, heap_setCell_other _ _ k _ hk, heap_setCell_other _ _ k _ hk, heap_setCell_other _ _ k _ hk]
theorem put5_below {B : Nat} {a w : World} {g : Nat} (fA fB nA nB : Int) (odd : Bool) (h : Below B a w) (hg : B ≤ g) : Below B a (put5 w g fA fB nA nB odd) :=
  ((((h.setCell hg _).setCell hg _).setCell hg _).setCell hg _).setCell hg _
/-- What simulate tells. -/
def SimA (x0 y0 : Int) (v : Value) : Prop := ∃ x y fA fB nA nB odd, v = .agg #[.int .i64 fA, .int .i64 fB, .int .i64 nA, .int .i64 nB, .bool odd] ∧ Sim x0 y0 x y fA fB nA nB odd
set_option maxHeartbeats 2000000 in
theorem simulate_any (x0 y0 : Int) (w : World) (h0 : 0 ≤ y0) (h1 : y0 ≤ x0) (h2 : x0 < 1152921504606846976) :
    Calls Tryz.prog 94 #[.int .i64 x0, .int .i64 y0] w fun e w' => ∃ v, e = .returned v ∧ SimA x0 y0 v ∧ Below w.heap.size w w' := by
  go_enter Tryz.func94, Tryz.ntmps94
  go_wp2
  go_loopw [0, 1] (fun x y wr => ∃ (x' y' fA fB nA nB : Int) (odd : Bool), x = .int .i64 x' ∧ y = .int .i64 y' ∧ 0 ≤ y' ∧ y' ≤ x' ∧ x' ≤ x0 ∧ Hid (Sim x0 y0 x' y' fA fB nA nB odd) ∧ StB wr (w.heap.size + 1) fA fB nA nB odd ∧ StB wr w.heap.size 0 0 0 0 false ∧ Below w.heap.size w wr) (fun _ y _ => (intOf y).toNat)
  case atStart => exact ⟨x0, y0, 1, 0, 0, 1, false, rfl, rfl, h0, h1, Int.le_refl _, .inl ⟨rfl, rfl, rfl, rfl, rfl, rfl, rfl⟩, by have := StB.new (w := w.alloc (.cells #[.int .i64 0, .int .i64 0, .int .i64 0, .int .i64 0, .bool false] 95)) (fA := 1) (fB := 0) (nA := 0) (nB := 1) (odd := false); simpa using this, StB.new.alloc _, bel_alloc2 _ _ _⟩
  case round =>
    obtain ⟨x, y, fA, fB, nA, nB, odd, rfl, rfl, hy, hxy, hxx, HS, hB, hB0, hbw⟩ := hrel
    obtain ⟨c0, c1, c2, c3, c4⟩ := hB.cells
    obtain ⟨z0, z1, z2, z3, z4⟩ := hB0.cells
    have fz := hB.frozen
    have fz0 := hB0.frozen
    by_cases hz : y = 0
    · subst hz
      go_wp2
      refine bodyPost_ret (v := .agg #[.int .i64 fA, .int .i64 fB, .int .i64 nA, .int .i64 nB, .bool odd]) ?_ rfl ⟨_, rfl, ⟨x, 0, fA, fB, nA, nB, odd, rfl, HS.out⟩, put5_below fA fB nA nB odd hbw (Nat.le_refl _)⟩
      have hc := (hB0.put fA fB nA nB odd).cells
      unfold put5 at hc
      obtain ⟨d0, d1, d2, d3, d4⟩ := hc
      simp [results, Tryz.results94, go_sem, d0, d1, d2, d3, d4]
    · have hyp : 0 < y := by omega
      obtain ⟨q1, m1, m2, m3, m4, f0, f1, g0, g1, n0, n1, n2, n3⟩ := HS.out.bounds hyp hxy h2 h1
      have r0 := Int.emod_nonneg x (show y ≠ 0 by omega)
      have r1 := Int.emod_lt_of_pos x hyp
      have hzz : (y == 0) = false := by simp; omega
      go_wp2
      go_quiet (fail)
      have hB1 : StB (wr.drewN nq) (w.heap.size + 1) fA fB nA nB odd := hB.of rfl
      have hB01 : StB (wr.drewN nq) w.heap.size 0 0 0 0 false := hB0.of rfl
      have hbw1 := bDrewN hbw nq
      generalize wr.drewN nq = w1 at hB1 hB01 hbw1 ⊢
      clear c0 c1 c2 c3 c4 z0 z1 z2 z3 z4 fz fz0 hB hB0 hbw
      obtain ⟨c0, c1, c2, c3, c4⟩ := hB1.cells
      obtain ⟨z0, z1, z2, z3, z4⟩ := hB01.cells
      have fz := hB1.frozen
      have fz0 := hB01.frozen
      have hl1 := hB1.lt
      have hsz := hB1.lt
      go_upto_region 6 with (fail)
      have hM : StB (w1.alloc (.cells #[.int .i64 nA, .int .i64 nB, .int .i64 (fA + x / y * nA), .int .i64 (fB + x / y * nB), .bool (!odd)] 95)) w1.heap.size nA nB (fA + x / y * nA) (fB + x / y * nB) (!odd) := StB.new
      have hB2 := hB1.alloc (.cells #[.int .i64 nA, .int .i64 nB, .int .i64 (fA + x / y * nA), .int .i64 (fB + x / y * nB), .bool (!odd)] 95)
      have hB02 := hB01.alloc (.cells #[.int .i64 nA, .int .i64 nB, .int .i64 (fA + x / y * nA), .int .i64 (fB + x / y * nB), .bool (!odd)] 95)
      have hbw2 := hbw1.alloc hbw1.size (.cells #[.int .i64 nA, .int .i64 nB, .int .i64 (fA + x / y * nA), .int .i64 (fB + x / y * nB), .bool (!odd)] 95)
      generalize (w1.alloc (.cells #[.int .i64 nA, .int .i64 nB, .int .i64 (fA + x / y * nA), .int .i64 (fB + x / y * nB), .bool (!odd)] 95)) = w2 at hM hB2 hB02 hbw2 ⊢
      clear c0 c1 c2 c3 c4 z0 z1 z2 z3 z4 fz fz0 hB1 hB01 hbw1
      obtain ⟨c0, c1, c2, c3, c4⟩ := hB2.cells
      obtain ⟨z0, z1, z2, z3, z4⟩ := hB02.cells
      obtain ⟨k0, k1, k2, k3, k4⟩ := hM.cells
      have fz := hB2.frozen
      have fz0 := hB02.frozen
      by_cases b1 : x % y < fB + x / y * nB
      · go_wp2
        refine bodyPost_ret (v := .agg #[.int .i64 fA, .int .i64 fB, .int .i64 nA, .int .i64 nB, .bool odd]) ?_ rfl ⟨_, rfl, ⟨x, y, fA, fB, nA, nB, odd, rfl, HS.out⟩, put5_below fA fB nA nB odd hbw2 (Nat.le_refl _)⟩
        have hc := (hB02.put fA fB nA nB odd).cells
        unfold put5 at hc
        obtain ⟨d0, d1, d2, d3, d4⟩ := hc
        simp [results, Tryz.results94, go_sem, d0, d1, d2, d3, d4]
      · by_cases b2 : y - x % y < fB + x / y * nB + nB
        · go_wp2
          refine bodyPost_ret (v := .agg #[.int .i64 fA, .int .i64 fB, .int .i64 nA, .int .i64 nB, .bool odd]) ?_ rfl ⟨_, rfl, ⟨x, y, fA, fB, nA, nB, odd, rfl, HS.out⟩, put5_below fA fB nA nB odd hbw2 (Nat.le_refl _)⟩
          have hc := (hB02.put fA fB nA nB odd).cells
          unfold put5 at hc
          obtain ⟨d0, d1, d2, d3, d4⟩ := hc
          simp [results, Tryz.results94, go_sem, d0, d1, d2, d3, d4]
        · have HN := HS.out.step hyp hxy (by omega) (by omega)
          have H2 := hB2.put nA nB (fA + x / y * nA) (fB + x / y * nB) (!odd)
          have H3 := hB02.of (put5_other (w := w2) (g := w.heap.size + 1) nA nB (fA + x / y * nA) (fB + x / y * nB) (!odd) (by omega))
          have H4 := put5_below nA nB (fA + x / y * nA) (fB + x / y * nB) (!odd) hbw2 (show w.heap.size ≤ w.heap.size + 1 by omega)
          unfold put5 at H2 H3 H4
          have HH : Hid (Sim x0 y0 y (x % y) nA nB (fA + x / y * nA) (fB + x / y * nB) (!odd)) := HN
          clear HN
          go_wp2
          go_roundw
          case rel => exact ⟨y, x % y, nA, nB, fA + x / y * nA, fB + x / y * nB, !odd, rfl, rfl, r0, by omega, by omega, HH, H2, H3, H4⟩
          case measure => simp [intOf]; omega
end Go.Proofs.YtmbajngbiefilaaGreatDoor
