/-
  The document's own answers (plumbref2): fits, Answer, From, Cmp, Sub, Mul, by contracts over the same values.
-/
import Derived.Test.YtmbajngbiefilaaNRef
namespace Go.Proofs.Ytmbajngbiefilaa
open Go Go.RowKit Go.Proofs.Ytmbajngbiefilaa.M
set_option linter.unusedSimpArgs false
set_option linter.unusedVariables false

theorem rfits_any (ao : Option Addr) (t cap : Nat) (w : World) : Calls Try.prog 55 #[.slice ao t cap] w fun e w' => e = .returned (.int .i64 (fitE t)) ∧ w' = w := by
  by_cases h : 2000 < t
  · go_enter Try.func55, Try.ntmps55
    go_wp2
    go_ret
    exact ⟨by simp [fitE, h], rfl⟩
  · go_enter Try.func55, Try.ntmps55
    go_wp2
    go_ret
    exact ⟨by simp [fitE, h], rfl⟩
theorem ranswer_any (ao : Option Addr) (t cap : Nat) (w : World) : Calls Try.prog 38 #[.slice ao t cap] w fun e w' => e = .returned (.tuple #[fitV ao t cap, .int .i64 (fitE t)]) ∧ w' = w := by
  by_cases h : 2000 < t
  · have h2 : (fitE t != 0) = true := by simp [fitE, h]
    go_enter Try.func38, Try.ntmps38
    go_wp2_with (go_at_call 55; refine (rfits_any _ _ _ _).mono ?_; rintro e w' ⟨rfl, rfl⟩)
    go_ret2
    exact ⟨by simp [fitV, fitE, h], rfl⟩
  · have h2 : (fitE t != 0) = false := by simp [fitE, h]
    go_enter Try.func38, Try.ntmps38
    go_wp2_with (go_at_call 55; refine (rfits_any _ _ _ _).mono ?_; rintro e w' ⟨rfl, rfl⟩)
    go_ret2
    exact ⟨by simp [fitV, fitE, h], rfl⟩
theorem rtrim_out {B : Nat} {w : World} {v : Value} {n : Nat} {d : Nat → Int} (h : Out B w v n d) :
    Calls Try.prog 50 #[v] w fun e w' => ∃ v', e = .returned v' ∧ ∃ t, t ≤ n ∧ Top d t ∧ (∀ i, t ≤ i → i < n → d i = 0) ∧ Out B w v' t d ∧ w' = w := by
  have h0 := h
  rcases h.2 with ⟨rfl, rfl⟩ | ⟨g, cap, cur, rfl, hb, hg, hn, hm, hs, ht⟩
  · go_enter Try.func50, Try.ntmps50
    go_wp2
    go_loop [3] (fun i => i = .int .i64 0) (fun i => 0)
    case atStart => rfl
    case round =>
      subst hrel
      go_wp2
      go_ret
      exact ⟨_, rfl, .inl rfl, Out.nil _ _ _, rfl⟩
  · obtain ⟨ao, c, e, hR⟩ := h0.row
    simp only [Value.slice.injEq] at e
    obtain ⟨rfl, _, rfl⟩ := e
    refine (rtrim_any g n cap d w hR).mono ?_
    rintro e w' ⟨t, h1, h2, h3, rfl, rfl⟩
    exact ⟨_, rfl, t, h1, h2, h3, h0.cut h1, rfl⟩
theorem rtrim_ans {w0 w : World} {v : Value} {n : Nat} {d : Nat → Int} (h : Out w0.heap.size w v n d) (hd : Dig d n) (hb : Below w0.heap.size w0 w) :
    Calls Try.prog 50 #[v] w fun e w' => ∃ v', e = .returned v' ∧ Ans w0 w (val d n) v' ∧ w' = w := by
  refine (rtrim_out h).mono ?_
  rintro e w' ⟨v', rfl, t, ht, htop, hz, hO, rfl⟩
  obtain ⟨hN, hv⟩ := nrm_of_top hd ht htop hz
  exact ⟨v', rfl, ⟨t, d, hO, hN, hv, hb⟩, rfl⟩
set_option maxHeartbeats 1000000 in
theorem rcmp_any (ao bo : Option Addr) (n m ca cb : Nat) (a b : Nat → Int) (w : World) (ha : Row w ao n ca a) (hb : Row w bo m cb b) (na : Nrm a n) (nb : Nrm b m) :
    Calls Try.prog 27 #[.slice ao n ca, .slice bo m cb] w fun e w' => e = .returned (.int .i64 (ord (val a n) (val b m))) ∧ Below w.heap.size w w' := by
  have hla := ha.le
  have hma := ha.max
  have hlb := hb.le
  have hmb := hb.max
  by_cases hnm : n = m
  · subst hnm
    go_enter Try.func27, Try.ntmps27
    go_wp2
    go_loopw [5] (fun i wr => ∃ k : Nat, k ≤ n ∧ i = .int .i64 ((k : Int) - 1) ∧ Hid (∀ i, k ≤ i → i < n → a i = b i) ∧ Below w.heap.size w wr) (fun i _ => (intOf i + 1).toNat)
    case atStart => exact ⟨n, Nat.le_refl _, rfl, fun i _ _ => by omega, bel_refl _⟩
    case round =>
      obtain ⟨k, hk, rfl, HS, hbw⟩ := hrel
      by_cases hlt : 0 < k
      · obtain ⟨j, rfl⟩ : ∃ j, k = j + 1 := ⟨k - 1, by omega⟩
        have ej : ((j + 1 : Nat) : Int) - 1 = j := by omega
        obtain ⟨ba, fa, rfl, hba, hca⟩ := ha.spot (by omega)
        obtain ⟨bb, fb, rfl, hbb, hcb⟩ := hb.spot (by omega)
        have c1 := (hbw.cell (p := ⟨ba, fa + j, none⟩) hba).trans (hca j (by omega))
        have c2 := (hbw.cell (p := ⟨bb, fb + j, none⟩) hbb).trans (hcb j (by omega))
        rw [ej]
        by_cases h1 : a j < b j
        · go_wp2
          go_quiet (fail)
          go_wp2
          go_ret
          exact ⟨ret_int ((ord_lt h1).symm.trans (ord_top na.1 nb.1 (show j < n by omega) (fun i x y => HS.out i (by omega) y) (by omega))), bDrewN hbw _⟩
        · by_cases h2 : b j < a j
          · go_wp2
            go_quiet (fail)
            go_wp2
            go_quiet (fail)
            go_wp2
            go_ret
            exact ⟨ret_int ((ord_gt h2).symm.trans (ord_top na.1 nb.1 (show j < n by omega) (fun i x y => HS.out i (by omega) y) (by omega))), bDrewN (bDrewN hbw _) _⟩
          · go_wp2
            go_quiet (fail)
            go_wp2
            go_quiet (fail)
            go_wp2
            go_roundw
            case rel => exact ⟨j, by omega, by go_num, fun i x y => by by_cases e : i = j; (· rw [e]; omega); (· exact HS.out i (by omega) y), bDrewN hbw _⟩
            case measure => simp [intOf]; try omega
      · obtain rfl : k = 0 := by omega
        go_wp2
        go_ret
        exact ⟨ret_int (ord_eq (val_congr fun i hi => HS.out i (by omega) hi)).symm, hbw⟩
  · by_cases hlt : n < m
    · go_enter Try.func27, Try.ntmps27
      go_wp2
      go_ret
      exact ⟨ret_int (ord_lt (nrm_lt na.1 nb hlt)).symm, bel_refl _⟩
    · go_enter Try.func27, Try.ntmps27
      go_wp2
      go_ret
      exact ⟨ret_int (ord_gt (nrm_lt nb.1 na (by omega))).symm, bel_refl _⟩
set_option maxHeartbeats 2000000 in
theorem rsub_any (ao bo : Option Addr) (n m ca cb : Nat) (a b : Nat → Int) (w : World) (ha : Row w ao n ca a) (hb : Row w bo m cb b) (na : Nrm a n) (nb : Nrm b m) (hn : n ≤ 100000) (hle : val b m ≤ val a n) :
    Calls Try.prog 31 #[.slice ao n ca, .slice bo m cb] w fun e w' => ∃ v, e = .returned v ∧ Ans w w' (val a n - val b m) v := by
  have hla := ha.le
  have hma := ha.max
  have hlb := hb.le
  have hmb := hb.max
  have da := na.1
  have db := nb.1
  have hmn : m ≤ n := nrm_le_len nb da hle
  have HLE : Hid (val b m ≤ val a n) := hle
  clear hle
  go_enter Try.func31, Try.ntmps31
  go_wp2
  go_loopw [5, 6, 7] (fun l c i wr => ∃ (k : Nat) (q : Int) (r : Nat → Int), k ≤ n ∧ i = .int .i64 k ∧ c = .int .i64 q ∧ 0 ≤ q ∧ q ≤ 1 ∧ Out w.heap.size wr l k r ∧ Dig r k ∧ Hid (val r k - q * P k = val (ext a n) k - val (ext b m) k) ∧ Below w.heap.size w wr) (fun _ _ i _ => n - (intOf i).toNat)
  case atStart => exact ⟨0, 0, fun _ => 0, Nat.zero_le _, rfl, rfl, by omega, by omega, Out.nil _ _ _, fun i hi => by omega, by show _ = _; rfl, bel_refl _⟩
  case round =>
    obtain ⟨k, q, r, hk, rfl, rfl, hq0, hq1, hO, hD, HV, hbw⟩ := hrel
    by_cases hkn : k < n
    · obtain ⟨ba, fa, rfl, hba, hca⟩ := ha.spot (by omega)
      have c1 := (hbw.cell (p := ⟨ba, fa + k, none⟩) hba).trans (hca k hkn)
      have dk := da k hkn
      by_cases hkm : k < m
      · obtain ⟨bb, fb, rfl, hbb, hcb⟩ := hb.spot (by omega)
        have c2 := (hbw.cell (p := ⟨bb, fb + k, none⟩) hbb).trans (hcb k hkm)
        have dbk := db k hkm
        have HX : Hid (-q + (ext a n k - ext b m k) = a k - q - b k) := by show _ = _; rw [ext_lt a hkn, ext_lt b hkm]; omega
        by_cases hneg : a k - q - b k < 0
        · go_wp2_with (at_builtin; refine wpList_app rfl _ _ rfl w.heap.size _ k r rfl (hO.stays (bel_alloc _ _)) _ 1 1 (fun _ => (a k - q - b k + 1073741824)) rfl (row1 _ _ rfl) (by omega) (by have := hbw.size; simp; omega) ?_; intro v' w1 hO1 hg1)
          have hb1 : Below w.heap.size w w1 := (hbw.alloc hbw.size _).grown hg1 (by have := hbw.size; simp; omega) (own_ge hO)
          have hs := sum_step (c := -q) (x := ext a n k - ext b m k) (r := r) (k := k) (V := val (ext a n) k - val (ext b m) k) (by have := HV.out; rw [Int.neg_mul]; omega)
          rw [show -q + (ext a n k - ext b m k) = a k - q - b k from HX.out, show (a k - q - b k) % 1073741824 = (a k - q - b k + 1073741824) by omega, show (a k - q - b k) / 1073741824 = -1 by omega] at hs
          go_roundw
          case rel => exact ⟨k + 1, 1, upd r k (a k - q - b k + 1073741824), by omega, by go_num, rfl, by omega, by omega, hO1.congr (cat_upd r k _), dig_upd2 hD (by omega), by show _ = _; rw [val_succ (ext a n), val_succ (ext b m)]; rw [Int.sub_mul] at hs; omega, hb1⟩
          case measure => simp [intOf]; omega
        · go_wp2_with (at_builtin; refine wpList_app rfl _ _ rfl w.heap.size _ k r rfl (hO.stays (bel_alloc _ _)) _ 1 1 (fun _ => (a k - q - b k)) rfl (row1 _ _ rfl) (by omega) (by have := hbw.size; simp; omega) ?_; intro v' w1 hO1 hg1)
          have hb1 : Below w.heap.size w w1 := (hbw.alloc hbw.size _).grown hg1 (by have := hbw.size; simp; omega) (own_ge hO)
          have hs := sum_step (c := -q) (x := ext a n k - ext b m k) (r := r) (k := k) (V := val (ext a n) k - val (ext b m) k) (by have := HV.out; rw [Int.neg_mul]; omega)
          rw [show -q + (ext a n k - ext b m k) = a k - q - b k from HX.out, show (a k - q - b k) % 1073741824 = (a k - q - b k) by omega, show (a k - q - b k) / 1073741824 = -0 by omega] at hs
          go_roundw
          case rel => exact ⟨k + 1, 0, upd r k (a k - q - b k), by omega, by go_num, rfl, by omega, by omega, hO1.congr (cat_upd r k _), dig_upd2 hD (by omega), by show _ = _; rw [val_succ (ext a n), val_succ (ext b m)]; rw [Int.sub_mul] at hs; omega, hb1⟩
          case measure => simp [intOf]; omega
      · have HX : Hid (-q + (ext a n k - ext b m k) = a k - q) := by show _ = _; rw [ext_lt a hkn, ext_ge b (by omega)]; omega
        by_cases hneg : a k - q < 0
        · go_wp2_with (at_builtin; refine wpList_app rfl _ _ rfl w.heap.size _ k r rfl (hO.stays (bel_alloc _ _)) _ 1 1 (fun _ => (a k - q + 1073741824)) rfl (row1 _ _ rfl) (by omega) (by have := hbw.size; simp; omega) ?_; intro v' w1 hO1 hg1)
          have hb1 : Below w.heap.size w w1 := (hbw.alloc hbw.size _).grown hg1 (by have := hbw.size; simp; omega) (own_ge hO)
          have hs := sum_step (c := -q) (x := ext a n k - ext b m k) (r := r) (k := k) (V := val (ext a n) k - val (ext b m) k) (by have := HV.out; rw [Int.neg_mul]; omega)
          rw [show -q + (ext a n k - ext b m k) = a k - q from HX.out, show (a k - q) % 1073741824 = (a k - q + 1073741824) by omega, show (a k - q) / 1073741824 = -1 by omega] at hs
          go_roundw
          case rel => exact ⟨k + 1, 1, upd r k (a k - q + 1073741824), by omega, by go_num, rfl, by omega, by omega, hO1.congr (cat_upd r k _), dig_upd2 hD (by omega), by show _ = _; rw [val_succ (ext a n), val_succ (ext b m)]; rw [Int.sub_mul] at hs; omega, hb1⟩
          case measure => simp [intOf]; omega
        · go_wp2_with (at_builtin; refine wpList_app rfl _ _ rfl w.heap.size _ k r rfl (hO.stays (bel_alloc _ _)) _ 1 1 (fun _ => (a k - q)) rfl (row1 _ _ rfl) (by omega) (by have := hbw.size; simp; omega) ?_; intro v' w1 hO1 hg1)
          have hb1 : Below w.heap.size w w1 := (hbw.alloc hbw.size _).grown hg1 (by have := hbw.size; simp; omega) (own_ge hO)
          have hs := sum_step (c := -q) (x := ext a n k - ext b m k) (r := r) (k := k) (V := val (ext a n) k - val (ext b m) k) (by have := HV.out; rw [Int.neg_mul]; omega)
          rw [show -q + (ext a n k - ext b m k) = a k - q from HX.out, show (a k - q) % 1073741824 = (a k - q) by omega, show (a k - q) / 1073741824 = -0 by omega] at hs
          go_roundw
          case rel => exact ⟨k + 1, 0, upd r k (a k - q), by omega, by go_num, rfl, by omega, by omega, hO1.congr (cat_upd r k _), dig_upd2 hD (by omega), by show _ = _; rw [val_succ (ext a n), val_succ (ext b m)]; rw [Int.sub_mul] at hs; omega, hb1⟩
          case measure => simp [intOf]; omega
    · obtain rfl : k = n := by omega
      have HD : Hid (Dig r k ∧ val r k = val a k - val b m) := by
        refine ⟨hD, ?_⟩
        have h1 := HV.out
        rw [val_ext a (Nat.le_refl _), val_ext b hmn] at h1
        have h2 := val_lt hD
        have h3 := HLE.out
        have hp := P_pos k
        rcases (show q = 0 ∨ q = 1 by omega) with e | e
        · subst e; omega
        · subst e; omega
      go_wp2_with (go_at_call 50; refine (rtrim_ans hO hD hbw).mono ?_; rintro e w3 ⟨v', rfl, hA, rfl⟩)
      go_ret
      exact ⟨_, rfl, by rw [← HD.out.2]; exact hA⟩
set_option maxHeartbeats 2000000 in
theorem rmul_any (ao bo : Option Addr) (n m ca cb : Nat) (a b : Nat → Int) (w : World) (ha : Row w ao n ca a) (hb : Row w bo m cb b) (na : Nrm a n) (nb : Nrm b m) (hn : n ≤ 100000) (hm : m ≤ 100000) :
    Calls Try.prog 30 #[.slice ao n ca, .slice bo m cb] w fun e w' => ∃ v, e = .returned v ∧ Ans w w' (val a n * val b m) v := by
  have hla := ha.le
  have hma := ha.max
  have hlb := hb.le
  have hmb := hb.max
  have da := na.1
  have db := nb.1
  by_cases hn0 : n = 0
  · subst hn0
    go_enter Try.func30, Try.ntmps30
    go_wp2
    go_ret
    exact ⟨_, rfl, by rw [show val a 0 * val b m = 0 from Int.zero_mul _]; exact Ans.nil (bel_refl _)⟩
  · by_cases hm0 : m = 0
    · subst hm0
      go_enter Try.func30, Try.ntmps30
      go_wp2
      go_ret
      exact ⟨_, rfl, by rw [show val a n * val b 0 = 0 from Int.mul_zero _]; exact Ans.nil (bel_refl _)⟩
    · have e1 : ((n : Int) == 0) = false := by simp; omega
      have e2 : ((m : Int) == 0) = false := by simp; omega
      go_enter Try.func30, Try.ntmps30
      go_wp2_with (at_make; refine wpList_mk rfl _ _ rfl _ _ (n + m) rfl rfl (by omega) (by omega) (by omega) ?_; intro w1 hB1 hb1)
      go_loopw [6] (fun i wr => ∃ (k : Nat) (r : Nat → Int), k ≤ n ∧ i = .int .i64 k ∧ Blk wr w.heap.size (n + m) r ∧ Dig r (n + m) ∧ Hid (∀ t, k + m ≤ t → r t = 0) ∧ Hid (val r (k + m) = val a k * val b m) ∧ Below w.heap.size w wr) (fun i _ => n - (intOf i).toNat)
      case atStart => exact ⟨0, fun _ => 0, Nat.zero_le _, rfl, hB1, zero_dig _, fun _ _ => rfl, by show _ = _; rw [val_zeros (Nat.zero_le (0 + m)) (fun _ _ _ => rfl)]; show 0 = 0 * val b m; omega, hb1⟩
      case round =>
        obtain ⟨i, r0, hi, rfl, hB0, hD0, HZ0, HV0, hbw0⟩ := hrel
        by_cases hlt : i < n
        · obtain ⟨ba, fa, rfl, hba, hca⟩ := ha.spot (by omega)
          have dai := da i hlt
          go_wp2
          go_loopw [7, 8] (fun c j wr => ∃ (k : Nat) (q : Int) (r : Nat → Int), k ≤ m ∧ j = .int .i64 k ∧ c = .int .i64 q ∧ 0 ≤ q ∧ q < 1073741824 ∧ Blk wr w.heap.size (n + m) r ∧ Dig r (n + m) ∧ Hid (∀ t, i + k ≤ t → r t = r0 t) ∧ Hid (val r (i + k) + q * P (i + k) = val r0 (i + k) + a i * val b k * P i) ∧ Below w.heap.size w wr) (fun _ j _ => m - (intOf j).toNat)
          case atStart => exact ⟨0, 0, r0, Nat.zero_le _, rfl, rfl, by omega, by omega, hB0, hD0, fun _ _ => rfl, by show _ = _; show val r0 i + 0 * P i = val r0 i + a i * 0 * P i; grind, hbw0⟩
          case round =>
            obtain ⟨k, q, r, hk, rfl, rfl, hq0, hq1, hB, hD, HS, HV, hbw⟩ := hrel
            have c1 := (hbw.cell (p := ⟨ba, fa + i, none⟩) hba).trans (hca i hlt)
            by_cases hkm : k < m
            · obtain ⟨bb, fb, rfl, hbb, hcb⟩ := hb.spot (by omega)
              have c2 := (hbw.cell (p := ⟨bb, fb + k, none⟩) hbb).trans (hcb k hkm)
              have c3 := hB.cell (show i + k < n + m by omega)
              have fg := hB.frozen (i + k)
              have drk := hD (i + k) (by omega)
              have hmul := dig_mul dai (db k hkm)
              go_wp2
              go_quiet (fail)
              go_wp2
              have hs := mul_step (b := b) (j := k) HV.out (HS.out (i + k) (Nat.le_refl _))
              rw [show q + (a i * b k + r (i + k)) = r (i + k) + a i * b k + q by omega] at hs
              go_roundw
              case rel => exact ⟨k + 1, (r (i + k) + a i * b k + q) / 1073741824, upd r (i + k) ((r (i + k) + a i * b k + q) % 1073741824), by omega, by go_num, rfl, by omega, by omega, hB.store (i + k) _, hD.upd _ (mod_dig _), fun t ht => by rw [upd_other r _ (by omega)]; exact HS.out t (by omega), hs, (bDrewN hbw _).setCell (Nat.le_refl _) _⟩
              case measure => simp [intOf]; omega
            · obtain rfl : k = m := by omega
              have c3 := hB.cell (show i + k < n + k by omega)
              have fg := hB.frozen (i + k)
              go_wp2
              have hr := mul_row HV.out HV0.out
              go_roundw
              case rel => exact ⟨i + 1, upd r (i + k) q, by omega, by go_num, hB.store (i + k) _, hD.upd _ ⟨hq0, hq1⟩, fun t ht => by rw [upd_other r _ (by omega), HS.out t (by omega)]; exact HZ0.out t (by omega), by show _ = _; rw [hr, val_succ], hbw.setCell (Nat.le_refl _) _⟩
              case measure => simp [intOf]; omega
        · obtain rfl : i = n := by omega
          go_wp2_with (go_at_call 50; refine (rtrim_ans (hB0.out (Nat.le_refl _) (Nat.le_refl _) (by omega)) hD0 hbw0).mono ?_; rintro e w3 ⟨v', rfl, hA, rfl⟩)
          go_ret
          exact ⟨_, rfl, by rw [← HV0.out]; exact hA⟩
end Go.Proofs.Ytmbajngbiefilaa
