/-
  Parts of the proof, one behind another.
-/
import Derived.Test.YtlmoeclfjogoaaaDoorPart7
import Derived.Test.YtlmoeclfjogoaaaDoorPart4
import Derived.Test.YtlmoeclfjogoaaaDoorPart2
import Derived.Test.YtlmoeclfjogoaaaDoorPart5
import Derived.Test.YtlmoeclfjogoaaaDoorPart6
import Derived.Test.YtlmoeclfjogoaaaDoorPart3
/-
  The document's own answers (plumbref2): fits, Answer, From, Cmp, Sub, Mul, by contracts over the same values.
-/
namespace Go.Proofs.YtlmoeclfjogoaaaDoor
open Go Go.RowKit Go.Proofs.YtlmoeclfjogoaaaDoor.M
set_option linter.unusedSimpArgs false
set_option linter.unusedVariables false

theorem rtrim_out {B : Nat} {w : World} {v : Value} {n : Nat} {d : Nat → Int} (h : Out B w v n d) :
    Calls Tryd.prog 114 #[v] w fun e w' => ∃ v', e = .returned v' ∧ ∃ t, t ≤ n ∧ Top d t ∧ (∀ i, t ≤ i → i < n → d i = 0) ∧ Out B w v' t d ∧ w' = w := by
  have h0 := h
  rcases h.2 with ⟨rfl, rfl⟩ | ⟨g, cap, cur, rfl, hb, hg, hn, hm, hs, ht⟩
  · go_enter Tryd.func114, Tryd.ntmps114
    go_wp2
    go_loop [3] (fun i => i = .int .i64 0) (fun i => 0)
    case atStart => rfl
    case round =>
      subst hrel
      go_wp2
      go_ret
      exact ⟨_, rfl, .inl rfl, Out.nil _ _ _, rfl⟩
  · obtain ⟨ao, c, e, hR⟩ := h0.row
    simp only [Value.slice.injEq] at e
    obtain ⟨rfl, _, rfl⟩ := e
    refine (rtrim_any g n cap d w hR).mono ?_
    rintro e w' ⟨t, h1, h2, h3, rfl, rfl⟩
    exact ⟨_, rfl, t, h1, h2, h3, h0.cut h1, rfl⟩
theorem rtrim_ans {w0 w : World} {v : Value} {n : Nat} {d : Nat → Int} (h : Out w0.heap.size w v n d) (hd : Dig d n) (hb : Below w0.heap.size w0 w) :
    Calls Tryd.prog 114 #[v] w fun e w' => ∃ v', e = .returned v' ∧ Ans w0 w (val d n) v' ∧ w' = w := by
  refine (rtrim_out h).mono ?_
  rintro e w' ⟨v', rfl, t, ht, htop, hz, hO, rfl⟩
  obtain ⟨hN, hv⟩ := nrm_of_top hd ht htop hz
  exact ⟨v', rfl, ⟨t, d, hO, hN, hv, hb⟩, rfl⟩
set_option maxHeartbeats 1000000 in
theorem rcmp_any (ao bo : Option Addr) (n m ca cb : Nat) (a b : Nat → Int) (w : World) (ha : Row w ao n ca a) (hb : Row w bo m cb b) (na : Nrm a n) (nb : Nrm b m) :
    Calls Tryd.prog 86 #[.slice ao n ca, .slice bo m cb] w fun e w' => e = .returned (.int .i64 (ord (val a n) (val b m))) ∧ Below w.heap.size w w' := by
  have hla := ha.le
  have hma := ha.max
  have hlb := hb.le
  have hmb := hb.max
  by_cases hnm : n = m
  · subst hnm
    go_enter Tryd.func86, Tryd.ntmps86
    go_wp2
    go_loopw [5] (fun i wr => ∃ k : Nat, k ≤ n ∧ i = .int .i64 ((k : Int) - 1) ∧ Hid (∀ i, k ≤ i → i < n → a i = b i) ∧ Below w.heap.size w wr) (fun i _ => (intOf i + 1).toNat)
    case atStart => exact ⟨n, Nat.le_refl _, rfl, fun i _ _ => by omega, bel_refl _⟩
    case round =>
      obtain ⟨k, hk, rfl, HS, hbw⟩ := hrel
      by_cases hlt : 0 < k
      · obtain ⟨j, rfl⟩ : ∃ j, k = j + 1 := ⟨k - 1, by omega⟩
        have ej : ((j + 1 : Nat) : Int) - 1 = j := by omega
        obtain ⟨ba, fa, rfl, hba, hca⟩ := ha.spot (by omega)
        obtain ⟨bb, fb, rfl, hbb, hcb⟩ := hb.spot (by omega)
        have c1 := (hbw.cell (p := ⟨ba, fa + j, none⟩) hba).trans (hca j (by omega))
        have c2 := (hbw.cell (p := ⟨bb, fb + j, none⟩) hbb).trans (hcb j (by omega))
        rw [ej]
        by_cases h1 : a j < b j
        · go_wp2
          go_quiet (fail)
          go_wp2
          go_ret
          exact ⟨ret_int ((ord_lt h1).symm.trans (ord_top na.1 nb.1 (show j < n by omega) (fun i x y => HS.out i (by omega) y) (by omega))), bDrewN hbw _⟩
        · by_cases h2 : b j < a j
          · go_wp2
            go_quiet (fail)
            go_wp2
            go_quiet (fail)
            go_wp2
            go_ret
            exact ⟨ret_int ((ord_gt h2).symm.trans (ord_top na.1 nb.1 (show j < n by omega) (fun i x y => HS.out i (by omega) y) (by omega))), bDrewN (bDrewN hbw _) _⟩
          · go_wp2
            go_quiet (fail)
            go_wp2
            go_quiet (fail)
            go_wp2
            go_roundw
            case rel => exact ⟨j, by omega, by go_num, fun i x y => by by_cases e : i = j; (· rw [e]; omega); (· exact HS.out i (by omega) y), bDrewN hbw _⟩
            case measure => simp [intOf]; try omega
      · obtain rfl : k = 0 := by omega
        go_wp2
        go_ret
        exact ⟨ret_int (ord_eq (val_congr fun i hi => HS.out i (by omega) hi)).symm, hbw⟩
  · by_cases hlt : n < m
    · go_enter Tryd.func86, Tryd.ntmps86
      go_wp2
      go_ret
      exact ⟨ret_int (ord_lt (nrm_lt na.1 nb hlt)).symm, bel_refl _⟩
    · go_enter Tryd.func86, Tryd.ntmps86
      go_wp2
      go_ret
      exact ⟨ret_int (ord_gt (nrm_lt nb.1 na (by omega))).symm, bel_refl _⟩
set_option maxHeartbeats 2000000 in
theorem rsub_any (ao bo : Option Addr) (n m ca cb : Nat) (a b : Nat → Int) (w : World) (ha : Row w ao n ca a) (hb : Row w bo m cb b) (na : Nrm a n) (nb : Nrm b m) (hn : n ≤ 100000) (hle : val b m ≤ val a n) :
    Calls Tryd.prog 87 #[.slice ao n ca, .slice bo m cb] w fun e w' => ∃ v, e = .returned v ∧ Ans w w' (val a n - val b m) v := by
  have hla := ha.le
  have hma := ha.max
  have hlb := hb.le
  have hmb := hb.max
  have da := na.1
  have db := nb.1
  have hmn : m ≤ n := nrm_le_len nb da hle
  have HLE : Hid (val b m ≤ val a n) := hle
  clear hle
  go_enter Tryd.func87, Tryd.ntmps87
  go_wp2
  go_loopw [5, 6, 7] (fun l c i wr => ∃ (k : Nat) (q : Int) (r : Nat → Int), k ≤ n ∧ i = .int .i64 k ∧ c = .int .i64 q ∧ 0 ≤ q ∧ q ≤ 1 ∧ Out w.heap.size wr l k r ∧ Dig r k ∧ Hid (val r k - q * P k = val (ext a n) k - val (ext b m) k) ∧ Below w.heap.size w wr) (fun _ _ i _ => n - (intOf i).toNat)
  case atStart => exact ⟨0, 0, fun _ => 0, Nat.zero_le _, rfl, rfl, by omega, by omega, Out.nil _ _ _, fun i hi => by omega, by show _ = _; rfl, bel_refl _⟩
  case round =>
    obtain ⟨k, q, r, hk, rfl, rfl, hq0, hq1, hO, hD, HV, hbw⟩ := hrel
    by_cases hkn : k < n
    · obtain ⟨ba, fa, rfl, hba, hca⟩ := ha.spot (by omega)
      have c1 := (hbw.cell (p := ⟨ba, fa + k, none⟩) hba).trans (hca k hkn)
      have dk := da k hkn
      by_cases hkm : k < m
      · obtain ⟨bb, fb, rfl, hbb, hcb⟩ := hb.spot (by omega)
        have c2 := (hbw.cell (p := ⟨bb, fb + k, none⟩) hbb).trans (hcb k hkm)
        have dbk := db k hkm
        have HX : Hid (-q + (ext a n k - ext b m k) = a k - q - b k) := by show _ = _; rw [ext_lt a hkn, ext_lt b hkm]; omega
        by_cases hneg : a k - q - b k < 0
        · go_wp2_with (at_builtin; refine wpList_app rfl _ _ rfl w.heap.size _ k r rfl (hO.stays (bel_alloc _ _)) _ 1 1 (fun _ => (a k - q - b k + 1073741824)) rfl (row1 _ _ rfl) (by omega) (by have := hbw.size; simp; omega) ?_; intro v' w1 hO1 hg1)
          have hb1 : Below w.heap.size w w1 := (hbw.alloc hbw.size _).grown hg1 (by have := hbw.size; simp; omega) (own_ge hO)
          have hs := sum_step (c := -q) (x := ext a n k - ext b m k) (r := r) (k := k) (V := val (ext a n) k - val (ext b m) k) (by have := HV.out; rw [Int.neg_mul]; omega)
          rw [show -q + (ext a n k - ext b m k) = a k - q - b k from HX.out, show (a k - q - b k) % 1073741824 = (a k - q - b k + 1073741824) by omega, show (a k - q - b k) / 1073741824 = -1 by omega] at hs
          go_roundw
          case rel => exact ⟨k + 1, 1, upd r k (a k - q - b k + 1073741824), by omega, by go_num, rfl, by omega, by omega, hO1.congr (cat_upd r k _), dig_upd2 hD (by omega), by show _ = _; rw [val_succ (ext a n), val_succ (ext b m)]; rw [Int.sub_mul] at hs; omega, hb1⟩
          case measure => simp [intOf]; omega
        · go_wp2_with (at_builtin; refine wpList_app rfl _ _ rfl w.heap.size _ k r rfl (hO.stays (bel_alloc _ _)) _ 1 1 (fun _ => (a k - q - b k)) rfl (row1 _ _ rfl) (by omega) (by have := hbw.size; simp; omega) ?_; intro v' w1 hO1 hg1)
          have hb1 : Below w.heap.size w w1 := (hbw.alloc hbw.size _).grown hg1 (by have := hbw.size; simp; omega) (own_ge hO)
          have hs := sum_step (c := -q) (x := ext a n k - ext b m k) (r := r) (k := k) (V := val (ext a n) k - val (ext b m) k) (by have := HV.out; rw [Int.neg_mul]; omega)
          rw [show -q + (ext a n k - ext b m k) = a k - q - b k from HX.out, show (a k - q - b k) % 1073741824 = (a k - q - b k) by omega, show (a k - q - b k) / 1073741824 = -0 by omega] at hs
          go_roundw
          case rel => exact ⟨k + 1, 0, upd r k (a k - q - b k), by omega, by go_num, rfl, by omega, by omega, hO1.congr (cat_upd r k _), dig_upd2 hD (by omega), by show _ = _; rw [val_succ (ext a n), val_succ (ext b m)]; rw [Int.sub_mul] at hs; omega, hb1⟩
          case measure => simp [intOf]; omega
      · have HX : Hid (-q + (ext a n k - ext b m k) = a k - q) := by show _ = _; rw [ext_lt a hkn, ext_ge b (by omega)]; omega
        by_cases hneg : a k - q < 0
        · go_wp2_with (at_builtin; refine wpList_app rfl _ _ rfl w.heap.size _ k r rfl (hO.stays (bel_alloc _ _)) _ 1 1 (fun _ => (a k - q + 1073741824)) rfl (row1 _ _ rfl) (by omega) (by have := hbw.size; simp; omega) ?_; intro v' w1 hO1 hg1)
          have hb1 : Below w.heap.size w w1 := (hbw.alloc hbw.size _).grown hg1 (by have := hbw.size; simp; omega) (own_ge hO)
          have hs := sum_step (c := -q) (x := ext a n k - ext b m k) (r := r) (k := k) (V := val (ext a n) k - val (ext b m) k) (by have := HV.out; rw [Int.neg_mul]; omega)
          rw [show -q + (ext a n k - ext b m k) = a k - q from HX.out, show (a k - q) % 1073741824 = (a k - q + 1073741824) by omega, show (a k - q) / 1073741824 = -1 by omega] at hs
          go_roundw
          case rel => exact ⟨k + 1, 1, upd r k (a k - q + 1073741824), by omega, by go_num, rfl, by omega, by omega, hO1.congr (cat_upd r k _), dig_upd2 hD (by omega), by show _ = _; rw [val_succ (ext a n), val_succ (ext b m)]; rw [Int.sub_mul] at hs; omega, hb1⟩
          case measure => simp [intOf]; omega
        · go_wp2_with (at_builtin; refine wpList_app rfl _ _ rfl w.heap.size _ k r rfl (hO.stays (bel_alloc _ _)) _ 1 1 (fun _ => (a k - q)) rfl (row1 _ _ rfl) (by omega) (by have := hbw.size; simp; omega) ?_; intro v' w1 hO1 hg1)
          have hb1 : Below w.heap.size w w1 := (hbw.alloc hbw.size _).grown hg1 (by have := hbw.size; simp; omega) (own_ge hO)
          have hs := sum_step (c := -q) (x := ext a n k - ext b m k) (r := r) (k := k) (V := val (ext a n) k - val (ext b m) k) (by have := HV.out; rw [Int.neg_mul]; omega)
          rw [show -q + (ext a n k - ext b m k) = a k - q from HX.out, show (a k - q) % 1073741824 = (a k - q) by omega, show (a k - q) / 1073741824 = -0 by omega] at hs
          go_roundw
          case rel => exact ⟨k + 1, 0, upd r k (a k - q), by omega, by go_num, rfl, by omega, by omega, hO1.congr (cat_upd r k _), dig_upd2 hD (by omega), by show _ = _; rw [val_succ (ext a n), val_succ (ext b m)]; rw [Int.sub_mul] at hs; omega, hb1⟩
          case measure => simp [intOf]; omega
    · obtain rfl : k = n := by omega
      have HD : Hid (Dig r k ∧ val r k = val a k - val b m) := by
        refine ⟨hD, ?_⟩
        have h1 := HV.out
        rw [val_ext a (Nat.le_refl _), val_ext b hmn] at h1
        have h2 := val_lt hD
        have h3 := HLE.out
        have hp := P_pos k
        rcases (show q = 0 ∨ q = 1 by omega) with e | e
        · subst e; omega
        · subst e; omega
      go_wp2_with (go_at_call 114; refine (rtrim_ans hO hD hbw).mono ?_; rintro e w3 ⟨v', rfl, hA, rfl⟩)
      go_ret
      exact ⟨_, rfl, by rw [← HD.out.2]; exact hA⟩
set_option maxHeartbeats 2000000 in
theorem rmul_any (ao bo : Option Addr) (n m ca cb : Nat) (a b : Nat → Int) (w : World) (ha : Row w ao n ca a) (hb : Row w bo m cb b) (na : Nrm a n) (nb : Nrm b m) (hn : n ≤ 100000) (hm : m ≤ 100000) :
    Calls Tryd.prog 88 #[.slice ao n ca, .slice bo m cb] w fun e w' => ∃ v, e = .returned v ∧ Ans w w' (val a n * val b m) v := by
  have hla := ha.le
  have hma := ha.max
  have hlb := hb.le
  have hmb := hb.max
  have da := na.1
  have db := nb.1
  by_cases hn0 : n = 0
  · subst hn0
    go_enter Tryd.func88, Tryd.ntmps88
    go_wp2
    go_ret
    exact ⟨_, rfl, by rw [show val a 0 * val b m = 0 from Int.zero_mul _]; exact Ans.nil (bel_refl _)⟩
  · by_cases hm0 : m = 0
    · subst hm0
      go_enter Tryd.func88, Tryd.ntmps88
      go_wp2
      go_ret
      exact ⟨_, rfl, by rw [show val a n * val b 0 = 0 from Int.mul_zero _]; exact Ans.nil (bel_refl _)⟩
    · have e1 : ((n : Int) == 0) = false := by simp; omega
      have e2 : ((m : Int) == 0) = false := by simp; omega
      go_enter Tryd.func88, Tryd.ntmps88
      go_wp2_with (at_make; refine wpList_mk rfl _ _ rfl _ _ (n + m) rfl rfl (by omega) (by omega) (by omega) ?_; intro w1 hB1 hb1)
      go_loopw [6] (fun i wr => ∃ (k : Nat) (r : Nat → Int), k ≤ n ∧ i = .int .i64 k ∧ Blk wr w.heap.size (n + m) r ∧ Dig r (n + m) ∧ Hid (∀ t, k + m ≤ t → r t = 0) ∧ Hid (val r (k + m) = val a k * val b m) ∧ Below w.heap.size w wr) (fun i _ => n - (intOf i).toNat)
      case atStart => exact ⟨0, fun _ => 0, Nat.zero_le _, rfl, hB1, zero_dig _, fun _ _ => rfl, by show _ = _; rw [val_zeros (Nat.zero_le (0 + m)) (fun _ _ _ => rfl)]; show 0 = 0 * val b m; omega, hb1⟩
      case round =>
        obtain ⟨i, r0, hi, rfl, hB0, hD0, HZ0, HV0, hbw0⟩ := hrel
        by_cases hlt : i < n
        · obtain ⟨ba, fa, rfl, hba, hca⟩ := ha.spot (by omega)
          have dai := da i hlt
          go_wp2
          go_loopw [7, 8] (fun c j wr => ∃ (k : Nat) (q : Int) (r : Nat → Int), k ≤ m ∧ j = .int .i64 k ∧ c = .int .i64 q ∧ 0 ≤ q ∧ q < 1073741824 ∧ Blk wr w.heap.size (n + m) r ∧ Dig r (n + m) ∧ Hid (∀ t, i + k ≤ t → r t = r0 t) ∧ Hid (val r (i + k) + q * P (i + k) = val r0 (i + k) + a i * val b k * P i) ∧ Below w.heap.size w wr) (fun _ j _ => m - (intOf j).toNat)
          case atStart => exact ⟨0, 0, r0, Nat.zero_le _, rfl, rfl, by omega, by omega, hB0, hD0, fun _ _ => rfl, by show _ = _; show val r0 i + 0 * P i = val r0 i + a i * 0 * P i; grind, hbw0⟩
          case round =>
            obtain ⟨k, q, r, hk, rfl, rfl, hq0, hq1, hB, hD, HS, HV, hbw⟩ := hrel
            have c1 := (hbw.cell (p := ⟨ba, fa + i, none⟩) hba).trans (hca i hlt)
            by_cases hkm : k < m
            · obtain ⟨bb, fb, rfl, hbb, hcb⟩ := hb.spot (by omega)
              have c2 := (hbw.cell (p := ⟨bb, fb + k, none⟩) hbb).trans (hcb k hkm)
              have c3 := hB.cell (show i + k < n + m by omega)
              have fg := hB.frozen (i + k)
              have drk := hD (i + k) (by omega)
              have hmul := dig_mul dai (db k hkm)
              go_wp2
              go_quiet (fail)
              go_wp2
              have hs := mul_step (b := b) (j := k) HV.out (HS.out (i + k) (Nat.le_refl _))
              rw [show q + (a i * b k + r (i + k)) = r (i + k) + a i * b k + q by omega] at hs
              go_roundw
              case rel => exact ⟨k + 1, (r (i + k) + a i * b k + q) / 1073741824, upd r (i + k) ((r (i + k) + a i * b k + q) % 1073741824), by omega, by go_num, rfl, by omega, by omega, hB.store (i + k) _, hD.upd _ (mod_dig _), fun t ht => by rw [upd_other r _ (by omega)]; exact HS.out t (by omega), hs, (bDrewN hbw _).setCell (Nat.le_refl _) _⟩
              case measure => simp [intOf]; omega
            · obtain rfl : k = m := by omega
              have c3 := hB.cell (show i + k < n + k by omega)
              have fg := hB.frozen (i + k)
              go_wp2
              have hr := mul_row HV.out HV0.out
              go_roundw
              case rel => exact ⟨i + 1, upd r (i + k) q, by omega, by go_num, hB.store (i + k) _, hD.upd _ ⟨hq0, hq1⟩, fun t ht => by rw [upd_other r _ (by omega), HS.out t (by omega)]; exact HZ0.out t (by omega), by show _ = _; rw [hr, val_succ], hbw.setCell (Nat.le_refl _) _⟩
              case measure => simp [intOf]; omega
        · obtain rfl : i = n := by omega
          go_wp2_with (go_at_call 114; refine (rtrim_ans (hB0.out (Nat.le_refl _) (Nat.le_refl _) (by omega)) hD0 hbw0).mono ?_; rintro e w3 ⟨v', rfl, hA, rfl⟩)
          go_ret
          exact ⟨_, rfl, by rw [← HV0.out]; exact hA⟩
end Go.Proofs.YtlmoeclfjogoaaaDoor

/-
  The document's own answers (plumbref2): From, Bits, Bit, Shl, Shr, by contracts over the same values.
-/
namespace Go.Proofs.YtlmoeclfjogoaaaDoor
open Go Go.RowKit Go.Proofs.YtlmoeclfjogoaaaDoor.M
set_option linter.unusedSimpArgs false
set_option linter.unusedVariables false

theorem blen_half {x : Int} (h : 0 < x) : blen x = blen (x / 2) + 1 := by
  obtain ⟨h1, h2⟩ := blen_pos h
  have h3 := blen_lt x
  obtain ⟨k, hk⟩ : ∃ k, blen x = k + 1 := ⟨blen x - 1, by omega⟩
  rw [hk] at h2 h3 ⊢
  rw [Nat.add_sub_cancel] at h2
  rw [Int.pow_succ] at h3
  cases k with
  | zero =>
    have : x = 1 := by simp at h3 h2; omega
    subst this; decide
  | succ j =>
    rw [Int.pow_succ] at h2
    have e1 : (2 : Int) ^ j ≤ x / 2 := by omega
    have e2 : x / 2 < 2 ^ (j + 1) := by omega
    rw [blen_of e1 e2]
set_option maxHeartbeats 400000 in
theorem rfrom_any (V : Int) (w : World) (h0 : 0 ≤ V) (h1 : V < 9223372036854775808) :
    Calls Tryd.prog 75 #[.int .i64 V] w fun e w' => ∃ v, e = .returned v ∧ Ans w w' V v := by
  have HM : Hid (V < 9223372036854775808) := h1
  clear h1
  go_enter Tryd.func75, Tryd.ntmps75
  go_wp2
  go_loopw [0, 3] (fun i v wr => ∃ (x : Int) (k : Nat) (r : Nat → Int), i = .int .i64 x ∧ 0 ≤ x ∧ k ≤ 3 ∧ Out w.heap.size wr v k r ∧ Dig r k ∧ Hid (x * P k ≤ V) ∧ Hid (x = 0 → Top r k) ∧ Hid (val r k + x * P k = V) ∧ Below w.heap.size w wr) (fun i _ _ => (intOf i).toNat)
  case atStart => exact ⟨V, 0, fun _ => 0, rfl, h0, by omega, Out.nil _ _ _, fun i hi => by omega, by show _ ≤ _; show V * 1 ≤ V; omega, fun _ => .inl rfl, by show _ = _; show 0 + V * 1 = V; omega, bel_refl _⟩
  case round =>
    obtain ⟨x, k, r, rfl, hx, hk3, hO, hD, HB, HT, HV, hbw⟩ := hrel
    by_cases hp : 0 < x
    · have hk2 : k ≤ 2 := by
        by_cases e : k = 3
        · subst e
          have a := HB.out
          have b := HM.out
          have c : P 3 = 1073741824 * 1073741824 * 1073741824 := by decide
          have d : 1 * P 3 ≤ x * P 3 := Int.mul_le_mul_of_nonneg_right (by omega) (Int.le_of_lt (P_pos 3))
          omega
        · omega
      have hx2 : x ≤ 9223372036854775807 := by
        have a := HB.out
        have b := HM.out
        have c : x * 1 ≤ x * P k := Int.mul_le_mul_of_nonneg_left (by have := P_pos k; omega) (by omega)
        omega
      go_wp2_with (at_builtin; refine wpList_app rfl _ _ rfl w.heap.size _ k r rfl (hO.stays (bel_alloc _ _)) _ 1 1 (fun _ => x % 1073741824) rfl (row1 _ _ rfl) (by omega) (by have := hbw.size; simp; omega) ?_; intro v' w1 hO1 hg1)
      have hb1 : Below w.heap.size w w1 := (hbw.alloc hbw.size _).grown hg1 (by have := hbw.size; simp; omega) (own_ge hO)
      have hs := sum_step (c := 0) (x := x) (show val r k + 0 * P k = val r k by omega)
      rw [Int.zero_add] at hs
      go_roundw
      case rel => exact ⟨x / 1073741824, k + 1, upd r k (x % 1073741824), rfl, by omega, by omega, hO1.congr (cat_upd r k _), dig_upd2 hD (mod_dig _), by
          show _ ≤ _
          have a := HB.out
          rw [P_succ, show x / 1073741824 * (P k * 1073741824) = (x / 1073741824 * 1073741824) * P k by grind]
          have b : (x / 1073741824 * 1073741824) * P k ≤ x * P k := Int.mul_le_mul_of_nonneg_right (by omega) (Int.le_of_lt (P_pos k))
          omega, fun e => .inr (by rw [Nat.add_sub_cancel, upd_same]; omega), by show _ = _; rw [hs]; exact HV.out, hb1⟩
      case measure => simp [intOf]; omega
    · obtain rfl : x = 0 := by omega
      go_wp2
      go_ret
      exact ⟨_, rfl, k, r, hO, ⟨hD, HT.out (by first | rfl | trivial)⟩, by have := HV.out; omega, hbw⟩
end Go.Proofs.YtlmoeclfjogoaaaDoor

/-
  Package nat: small, combine, heads (what Lehmer's way is made of), by contracts.
-/
namespace Go.Proofs.YtlmoeclfjogoaaaDoor
open Go Go.RowKit Go.Proofs.YtlmoeclfjogoaaaDoor.M
set_option linter.unusedSimpArgs false
set_option linter.unusedVariables false

theorem val_mono {d : Nat → Int} {n m : Nat} (h : Dig d n) (hm : m ≤ n) : val d m ≤ val d n := by
  have e := val_split d m (n - m)
  rw [show m + (n - m) = n by omega] at e
  have a := val_nonneg (show Dig (fun i => d (m + i)) (n - m) from fun i hi => h (m + i) (by omega))
  have := Int.mul_nonneg (Int.le_of_lt (P_pos m)) a
  omega
set_option maxHeartbeats 400000 in
theorem small_any (ao : Option Addr) (n cap : Nat) (d : Nat → Int) (w : World) (h : Row w ao n cap d) (hd : Dig d n) (hn : n ≤ 3) (hv : val d n < 9223372036854775808) :
    Calls Tryd.prog 109 #[.slice ao n cap] w fun e w' => e = .returned (.int .i64 (val d n)) ∧ w' = w := by
  have hl := h.le
  have hm := h.max
  have HV : Hid (val d n < 9223372036854775808) := hv
  clear hv
  go_enter Tryd.func109, Tryd.ntmps109
  go_wp2
  go_loop [3, 7] (fun v i => ∃ k : Nat, k ≤ n ∧ i = .int .i64 k ∧ v = .int .i64 (val d k)) (fun _ i => n - (intOf i).toNat)
  case atStart => exact ⟨0, Nat.zero_le _, rfl, rfl⟩
  case round =>
    obtain ⟨k, hk, rfl, rfl⟩ := hrel
    by_cases hlt : k < n
    · obtain ⟨b, off, rfl, hb, hc⟩ := h.spot (by omega)
      have c := hc k hlt
      have dk := hd k hlt
      have v0 := val_nonneg (hd.le (show k ≤ n by omega))
      have v1 := val_lt (hd.le (show k ≤ n by omega))
      have m1 := val_mono hd (show k + 1 ≤ n by omega)
      have hv2 := HV.out
      rw [P_two] at v1
      have e1 : val d (k + 1) = val d k + d k * 2 ^ (30 * k) := by rw [val_succ, P_two]
      have m0 : 0 ≤ d k * 2 ^ (30 * k) := Int.mul_nonneg dk.1 (Int.le_of_lt (two_pos _))
      have hw : wrap64 (d k * 2 ^ (30 * k)) = d k * 2 ^ (30 * k) := IntWalk.wrap64_in _ ⟨by omega, by omega⟩
      have hor : bits .or .i64 (val d k) (d k * 2 ^ (30 * k)) = val d (k + 1) := (or_add _ _ _ v0 v1 dk.1 (by omega)).trans e1.symm
      clear e1 m0 m1 hv2 v0 v1
      go_wp2
      go_round
      case rel => exact ⟨k + 1, by omega, by go_num, rfl⟩
      case measure => simp [intOf]; omega
    · obtain rfl : k = n := by omega
      go_wp2
      go_ret
      exact ⟨rfl, rfl⟩

theorem mul_bnd {x y : Int} (hx : -1073741824 < x ∧ x < 1073741824) (hy : 0 ≤ y ∧ y < 1073741824) : -1152921504606846976 ≤ x * y ∧ x * y ≤ 1152921504606846976 := by
  have h1 : x * y ≤ 1073741824 * y := Int.mul_le_mul_of_nonneg_right (by omega) hy.1
  have h2 : -1073741824 * y ≤ x * y := Int.mul_le_mul_of_nonneg_right (by omega) hy.1
  constructor <;> omega
theorem small_ans {w w' : World} {V : Int} {v : Value} (h : Ans w w' V v) (hV : V < 1152921504606846976) :
    Calls Tryd.prog 109 #[v] w' fun e w'' => e = .returned (.int .i64 V) ∧ w'' = w' := by
  have hn := h.num
  obtain ⟨ao, n, cap, rfl⟩ := hn.shape
  have hl := hn.len (show V < P 2 from hV)
  obtain ⟨ao', n', cap', d, e, hR, h2, rfl⟩ := hn
  simp only [Value.slice.injEq] at e
  obtain ⟨rfl, rfl, rfl⟩ := e
  exact small_any _ _ _ _ _ hR h2.1 (by omega) (by omega)
end Go.Proofs.YtlmoeclfjogoaaaDoor

/-
  Package nat's calls that take one list and a number: Int, Bit at every number; what they answer on no number and on a negative one.
-/
namespace Go.Proofs.YtlmoeclfjogoaaaDoor
open Go Go.RowKit Go.Proofs.YtlmoeclfjogoaaaDoor.M
set_option linter.unusedSimpArgs false
set_option linter.unusedVariables false

/-- A bit, at every int. -/
def bitI (A n : Int) : Bool := if n < 0 then false else bitB A n.toNat
theorem bitI_neg {A n : Int} (h : n < 0) : bitI A n = false := by simp [bitI, h]
theorem bitI_nat (A : Int) (i : Nat) : bitI A i = bitB A i := by simp [bitI]
theorem bitI_big {A n : Int} (h0 : 0 ≤ A) (h : (blen A : Int) ≤ n) : bitI A n = false := by
  unfold bitI
  split
  · rfl
  · exact bit_high h0 (by omega)
theorem blen60 {A : Int} (hA : A < P 2000) : blen A ≤ 60000 := blen_le (by rw [← P2000_two]; exact hA)
theorem int_bad (ao : Option Addr) (n ca : Nat) (a : Nat → Int) (w : World) (h : Row w ao n ca a) (hbad : okB a n = false) :
    Calls Tryd.prog 79 #[.slice ao n ca] w fun e w' => e = .returned (.tuple #[.int .i64 0, .bool false]) ∧ w' = w := by
  go_enter Tryd.func79, Tryd.ntmps79
  go_wp2_with fail
  refine (valid_any _ _ _ _ _ h).mono ?_
  rintro e w' ⟨rfl, rfl⟩
  go_wp2
  go_ret2
  exact ⟨rfl, rfl⟩
/-- The int of a number, and whether it is one. -/
def intV (A : Int) : Int := if blen A ≤ 63 then A else 0
theorem int_num {w : World} {x : Value} {A : Int} (hx : Num w x A) (hA : A < P 2000) :
    Calls Tryd.prog 79 #[x] w fun e w' => e = .returned (.tuple #[.int .i64 (intV A), .bool (decide (blen A ≤ 63))]) ∧ w' = w := by
  have A0 := hx.nonneg
  obtain ⟨ao, t, ca, rfl⟩ := hx.shape
  have hx0 := hx
  obtain ⟨ao', t', ca', d, e, hR, h2, rfl⟩ := hx
  simp only [Value.slice.injEq] at e
  obtain ⟨rfl, rfl, rfl⟩ := e
  have ok := Num.ok h2 hA
  have hn2 := (okB_out ok).1
  clear hA
  by_cases hb : blen (val d t) ≤ 63
  · have h63 : val d t < 9223372036854775808 := Int.lt_of_lt_of_le (blen_lt _) (Int.le_trans (two_le hb) (by decide))
    have h3 : t ≤ 3 := hx0.len (k := 3) (Int.lt_of_lt_of_le h63 (by decide))
    have HV : Hid (intV (val d t) = val d t) := by show _ = _; simp [intV, hb]
    have hbi : ((blen (val d t) : Nat) : Int) ≤ 63 := by omega
    have HS := small_any ao t ca d w hR h2.1 h3 h63
    have HS' : Hid (Calls Tryd.prog 109 #[.slice ao t ca] w fun e w' => e = .returned (.int .i64 (val d t)) ∧ w' = w) := HS
    clear HS h63 hx0
    go_enter Tryd.func79, Tryd.ntmps79
    go_wp2_with fail
    refine (valid_any _ _ _ _ _ hR).mono ?_
    rintro e w' ⟨rfl, rfl⟩
    go_wp2_with fail
    refine (bitLength_any _ _ _ _ _ hR h2 (by omega)).mono ?_
    rintro e w' ⟨rfl, rfl⟩
    go_wp2_with fail
    refine HS'.out.mono ?_
    rintro e w' ⟨rfl, rfl⟩
    go_wp2
    go_ret2
    exact ⟨by rw [HV.out, decide_eq_true hb]; rfl, rfl⟩
  · have HV : Hid (intV (val d t) = 0) := by show _ = _; simp [intV, hb]
    have hbi : (63 : Int) < ((blen (val d t) : Nat) : Int) := by omega
    go_enter Tryd.func79, Tryd.ntmps79
    go_wp2_with fail
    refine (valid_any _ _ _ _ _ hR).mono ?_
    rintro e w' ⟨rfl, rfl⟩
    go_wp2_with fail
    refine (bitLength_any _ _ _ _ _ hR h2 (by omega)).mono ?_
    rintro e w' ⟨rfl, rfl⟩
    go_wp2
    go_ret2
    exact ⟨by rw [HV.out, decide_eq_false hb]; rfl, rfl⟩
end Go.Proofs.YtlmoeclfjogoaaaDoor

/-
  Package dyadic: Of, Of32, Float, by contracts.
-/
namespace Go.Proofs.YtlmoeclfjogoaaaDoor
open Go Go.RowKit Go.Proofs.YtlmoeclfjogoaaaDoor.M
set_option linter.unusedSimpArgs false
set_option linter.unusedVariables false

/-- The cells of binary64's layout. -/
structure Lay64 (w : World) : Prop where
  a0 : w.cell? ⟨0, 0, none⟩ = some (.int .i64 52)
  a1 : w.cell? ⟨0, 1, none⟩ = some (.int .i64 2047)
  a2 : w.cell? ⟨0, 2, none⟩ = some (.int .i64 (-1074))
theorem Lay64.keeps {w w' : World} (h : Lay64 w) (hb : Below w.heap.size w w') : Lay64 w' := ⟨cell_keeps h.a0 hb, cell_keeps h.a1 hb, cell_keeps h.a2 hb⟩
/-- The cells of binary32's. -/
structure Lay32 (w : World) : Prop where
  b0 : w.cell? ⟨1, 0, none⟩ = some (.int .i64 23)
  b1 : w.cell? ⟨1, 1, none⟩ = some (.int .i64 255)
  b2 : w.cell? ⟨1, 2, none⟩ = some (.int .i64 (-149))
theorem Lay32.keeps {w w' : World} (h : Lay32 w) (hb : Below w.heap.size w w') : Lay32 w' := ⟨cell_keeps h.b0 hb, cell_keeps h.b1 hb, cell_keeps h.b2 hb⟩
theorem bitsPartsA (b : Int) (w : World) (L : Lay64 w) :
    Calls Tryd.prog 66 #[.int .i64 b] w fun e w' => e = .returned (.tuple #[.bool (pneg b), .int .i64 (pmag b), .int .i64 (pexp b), .bool (pok b)]) ∧ Below w.heap.size w w' := by
  obtain ⟨a0, a1, a2⟩ := L
  by_cases h : pok b = true
  all_goals
    go_enter Tryd.func66, Tryd.ntmps66
    go_wp2_with (go_at_call 104; refine (parts64 _ _).mono ?_; rintro e w1 ⟨rfl, hg⟩)
    refine bodyPost_ret (v := .tuple #[.bool (pneg b), .int .i64 (pmag b), .int .i64 (pexp b), .bool (pok b)]) (by simp [results, Tryd.results66, go_sem, pneg, h]) rfl ⟨rfl, hg.be⟩
theorem bitsParts32A (b : Int) (w : World) (L : Lay32 w) :
    Calls Tryd.prog 70 #[.int .i64 b] w fun e w' => e = .returned (.tuple #[.bool (pneg32 b), .int .i64 (pmag32 b), .int .i64 (pexp32 b), .bool (pok32 b)]) ∧ Below w.heap.size w w' := by
  obtain ⟨b0, b1, b2⟩ := L
  by_cases h : in32 b = true
  · by_cases h2 : pok32 b = true
    all_goals
      go_enter Tryd.func70, Tryd.ntmps70
      go_wp2_with (first
        | (go_at_call 106; refine (bitsFits32 _ _).mono ?_; rintro e w1 ⟨rfl, rfl⟩)
        | (go_at_call 104; refine (parts32 _ _ h).mono ?_; rintro e w1 ⟨rfl, hg⟩))
      refine bodyPost_ret (v := .tuple #[.bool (pneg32 b), .int .i64 (pmag32 b), .int .i64 (pexp32 b), .bool (pok32 b)]) (by simp [results, Tryd.results70, go_sem, pneg32, h2]) rfl ⟨rfl, hg.be⟩
  · have h' : in32 b = false := by simpa using h
    have h2 : pok32 b = false := by simp [pok32, h']
    go_enter Tryd.func70, Tryd.ntmps70
    go_wp2_with (go_at_call 106; refine (bitsFits32 _ _).mono ?_; rintro e w1 ⟨rfl, rfl⟩)
    refine bodyPost_ret (v := .tuple #[.bool (pneg32 b), .int .i64 (pmag32 b), .int .i64 (pexp32 b), .bool (pok32 b)]) (by simp [results, Tryd.results70, go_sem, pneg32, pmag32, pexp32, h2]) rfl ⟨rfl, bel_refl _⟩
theorem bitsJoinA (neg : Bool) (mag exp : Int) (w : World) (L : Lay64 w) (hT : Tab w) (hm : rng mag) (he : rng exp) :
    Calls Tryd.prog 80 #[.bool neg, .int .i64 mag, .int .i64 exp] w fun e w' => e = .returned (.tuple #[.int .i64 (jp neg mag exp), .bool (jk 52 2047 (-1074) mag exp)]) ∧ Below w.heap.size w w' := by
  obtain ⟨a0, a1, a2⟩ := L
  have hb := jv_le (mag := mag) (exp := exp) hm
  have ho := or_i64_sign (jv 52 2047 (-1074) mag exp) (by omega) (by omega)
  have Ho := keepIt ho
  clear ho
  cases hk : jk 52 2047 (-1074) mag exp
  all_goals
    have HK := keepIt hk
    cases neg
    all_goals
      go_enter Tryd.func80, Tryd.ntmps80
      go_wp2_with (go_at_call 110; refine (join64 _ _ _ hT hm he).mono ?_; rintro e w1 ⟨rfl, hg⟩)
      go_ret2
      exact ⟨ret_ib (by simp [jp, HK.out, Ho.out]) (by simp [HK.out]), hg.be⟩
theorem pmag_in {b : Int} (hp : pok b = true) : 0 ≤ pmag b ∧ pmag b < 9007199254740992 ∧ -1074 ≤ pexp b ∧ pexp b ≤ 971 := by
  have hf := fld_le b
  have hr := frc_le b
  have h1 : fld b ≠ 2047 := by simpa [pok] using hp
  unfold pmag pexp
  rw [if_neg h1, if_neg h1]
  split <;> omega
theorem pmag32_in {b : Int} (hp : pok32 b = true) : 0 ≤ pmag32 b ∧ pmag32 b < 16777216 ∧ -149 ≤ pexp32 b ∧ pexp32 b ≤ 104 := by
  have hf := fld32_le b
  have hr := frc32_le b
  have h1 : fld32 b ≠ 255 := by
    intro h
    simp [pok32, h] at hp
  unfold pmag32 pexp32
  rw [if_pos hp, if_pos hp]
  split <;> omega
theorem ofNat_any (x : Int) (w : World) (h0 : 0 ≤ x) (h1 : x < 9223372036854775808) :
    Calls Tryd.prog 103 #[.int .i64 x] w fun e w' => ∃ v, e = .returned (.tuple #[v, .int .i64 0]) ∧ Ans w w' x v := by
  have HX := digits_nat x w h0 h1
  have HX' : Hid (Calls Tryd.prog 119 #[.int .i64 x] w fun e w' => ∃ v, e = .returned v ∧ Ans w w' x v) := HX
  clear HX h1
  go_enter Tryd.func103, Tryd.ntmps103
  go_wp2_with fail
  refine HX'.out.mono ?_
  rintro e w2 ⟨v, rfl, hA⟩
  go_wp2
  go_ret2
  exact ⟨_, rfl, hA⟩
theorem P2000_big2 : 9223372036854775808 < P 2000 := by
  have := P_le (show 3 ≤ 2000 by omega)
  have e : P 3 = 1237940039285380274899124224 := rfl
  omega
/-- A finite float's worth has a valid form. -/
theorem dok_small {ng : Bool} {M e : Int} (h0 : 0 ≤ M) (h1 : M < 9223372036854775808) (e0 : -1074 ≤ e) (e1 : e ≤ 971) : Dok (sg ng M * pw e) := by
  by_cases hz : M = 0
  · rw [hz, sg_zero, Int.zero_mul]; exact dok_zero
  · obtain ⟨l, hl⟩ := isLow_ex (show 0 < M by omega)
    have hy := Dy.of ng hl (show 0 < M by omega) (show -4194304 ≤ e by omega)
    obtain ⟨c1, c2, c3⟩ := isLow_odd hl (show 0 < M by omega)
    have hp := two_pos l
    have hl63 : l < 63 := by
      have h3 : (1 : Int) * 2 ^ l ≤ M / 2 ^ l * 2 ^ l := Int.mul_le_mul_of_nonneg_right (by omega) (by omega)
      rw [c3] at h3
      refine two_lt_iff ?_
      rw [show (2 : Int) ^ 63 = 9223372036854775808 by decide]
      omega
    refine hy.ok.2 ⟨?_, by omega, by omega⟩
    have : M / 2 ^ l ≤ M := Int.ediv_le_self _ h0
    have := P2000_big2
    omega
set_option maxRecDepth 100000 in
set_option maxHeartbeats 1000000 in
theorem value_yes (ng : Bool) (M e : Int) (w : World) (hT : Tab w) (h0 : 0 ≤ M) (h1 : M < 9223372036854775808) (e0 : -1074 ≤ e) (e1 : e ≤ 971) :
    Calls Tryd.prog 65 #[.bool ng, .int .i64 M, .int .i64 e, .bool true] w fun r w' => ∃ v, r = .returned (.tuple #[v, .int .i64 0]) ∧ DAns w w' (sg ng M * pw e) v := by
  have hok := dok_small (ng := ng) h0 h1 e0 e1
  go_enter Tryd.func65, Tryd.ntmps65
  go_wp2_with fail
  refine (ofNat_any M _ h0 h1).mono ?_
  rintro r w1 ⟨v, rfl, hA⟩
  obtain ⟨so, sn, sc, d, rfl, hR, hN, hv⟩ := hA.num
  have hsn : sn ≤ 100 := hA.num.len (k := 100) (by have := P_le (show 3 ≤ 100 by omega); have : P 3 = 1237940039285380274899124224 := rfl; omega)
  have hbw := bel_trans (bel_alloc w _) hA.below
  go_wp2_with fail
  refine (settle_any (V := sg ng M * pw e) hR hN.1 (by omega) (hT.keeps hbw) (by omega) (by rw [hv])).mono ?_
  rintro r w7 (⟨_, v, rfl, hD⟩ | ⟨hno, _⟩)
  · have hb7 := hD.below
    obtain ⟨ng', s', m', e', rfl, hyy, hA2⟩ := id hD
    obtain ⟨so', sn', sc', rfl⟩ := hA2.num.shape
    have q0 := ((bel_trans hA.below hb7).block w.heap.size (by rw [size1]; omega)).trans (heap_a1 _ _)
    have x0 := blkC q0 0 rfl
    have x1 := blkC q0 1 rfl
    have x2 := blkC q0 2 rfl
    have z0 := blkF q0 0
    have z1 := blkF q0 1
    have z2 := blkF q0 2
    go_wp2
    refine bodyPost_ret (v := .tuple #[.agg #[.bool ng', .slice so' sn' sc', .int .i64 e'], .int .i64 0]) (by simp [results, Tryd.results65, go_sem, x0, x1, x2]) rfl ⟨_, rfl, ?_⟩
    exact dans_res3 (g := w.heap.size) hD hbw (Nat.le_refl _) (Nat.lt_of_lt_of_le (by rw [size1]; omega) hA.below.size) _ _ _
  · exact absurd hok hno
set_option maxRecDepth 100000 in
theorem value_no (ng : Bool) (M e : Int) (w : World) :
    Calls Tryd.prog 65 #[.bool ng, .int .i64 M, .int .i64 e, .bool false] w fun r w' => r = .returned (.tuple #[zeroV, .int .i64 10]) ∧ Below w.heap.size w w' := by
  go_enter Tryd.func65, Tryd.ntmps65
  go_wp2
  refine bodyPost_ret (v := .tuple #[zeroV, .int .i64 10]) (by simp [results, Tryd.results65, go_sem, zeroV]) rfl ⟨rfl, ?_⟩
  exact bel_alloc _ _
set_option maxRecDepth 100000 in
set_option maxHeartbeats 1000000 in
theorem dof_any (b : Int) (w : World) (L : Lay64 w) (hT : Tab w) :
    Calls Tryd.prog 22 #[.int .i64 b] w fun r w' => ∃ v er, r = .returned (.tuple #[v, .int .i64 er]) ∧ Below w.heap.size w w' ∧ ((pok b = true ∧ er = 0 ∧ DAns w w' (sg (pneg b) (pmag b) * pw (pexp b)) v) ∨ (pok b = false ∧ er = 10 ∧ v = zeroV)) := by
  have hVy : pok b = true → ∀ W, Below w.heap.size w W → Calls Tryd.prog 65 #[.bool (pneg b), .int .i64 (pmag b), .int .i64 (pexp b), .bool true] W fun r w' => ∃ v, r = .returned (.tuple #[v, .int .i64 0]) ∧ DAns W w' (sg (pneg b) (pmag b) * pw (pexp b)) v := fun hp W hb => by
    have hi := pmag_in hp
    exact value_yes _ _ _ W (hT.keeps hb) (by omega) (by omega) (by omega) (by omega)
  have hP := fun W hb => bitsPartsA b W (L.keeps hb)
  generalize sg (pneg b) (pmag b) * pw (pexp b) = V at hVy ⊢
  generalize pneg b = ng at *
  generalize pmag b = mg at *
  generalize pexp b = ex at *
  clear L hT
  cases hp : pok b
  · rw [hp] at hP hVy
    go_enter Tryd.func22, Tryd.ntmps22
    go_wp2_with fail
    refine (hP _ (bel_alloc _ _)).mono ?_
    rintro r w1 ⟨rfl, hb1⟩
    go_wp2_with fail
    refine (value_no _ _ _ _).mono ?_
    unfold zeroV
    rintro r w2 ⟨rfl, hb2⟩
    have hbw := bel_trans (bel_alloc w (.cells #[.bool false, .slice none 0 0, .int .i64 0] 31)) (bel_trans hb1 hb2)
    have q0 := ((bel_trans hb1 hb2).block w.heap.size (by rw [size1]; omega)).trans (heap_a1 _ _)
    have x0 := blkC q0 0 rfl
    have x1 := blkC q0 1 rfl
    have x2 := blkC q0 2 rfl
    have z0 := blkF q0 0
    have z1 := blkF q0 1
    have z2 := blkF q0 2
    go_wp2
    refine bodyPost_ret (v := .tuple #[zeroV, .int .i64 10]) (by simp [results, Tryd.results22, go_sem, x0, x1, x2, zeroV]) rfl ⟨_, _, rfl, ?_, .inr ⟨by trivial, rfl, rfl⟩⟩
    exact bel_set3 hbw (Nat.le_refl _) _ _ _
  · rw [hp] at hP hVy
    go_enter Tryd.func22, Tryd.ntmps22
    go_wp2_with fail
    refine (hP _ (bel_alloc _ _)).mono ?_
    rintro r w1 ⟨rfl, hb1⟩
    have hbw := bel_trans (bel_alloc w (.cells #[.bool false, .slice none 0 0, .int .i64 0] 31)) hb1
    go_wp2_with fail
    refine (hVy (by trivial) _ hbw).mono ?_
    rintro r w2 ⟨v, rfl, hD⟩
    obtain ⟨ng', s', m', e', rfl, hyy, hA2⟩ := id hD
    obtain ⟨so', sn', sc', rfl⟩ := hA2.num.shape
    have q0 := ((bel_trans hb1 hD.below).block w.heap.size (by rw [size1]; omega)).trans (heap_a1 _ _)
    have x0 := blkC q0 0 rfl
    have x1 := blkC q0 1 rfl
    have x2 := blkC q0 2 rfl
    have z0 := blkF q0 0
    have z1 := blkF q0 1
    have z2 := blkF q0 2
    go_wp2
    refine bodyPost_ret (v := .tuple #[.agg #[.bool ng', .slice so' sn' sc', .int .i64 e'], .int .i64 0]) (by simp [results, Tryd.results22, go_sem, x0, x1, x2]) rfl ⟨_, _, rfl, ?_, .inl ⟨by trivial, rfl, ?_⟩⟩
    · exact bel_set3 (bel_trans hbw hD.below) (Nat.le_refl _) _ _ _
    · exact dans_res3 (g := w.heap.size) hD hbw (Nat.le_refl _) (Nat.lt_of_lt_of_le (by rw [size1]; omega) hb1.size) _ _ _
set_option maxRecDepth 100000 in
set_option maxHeartbeats 1000000 in
theorem dof32_any (b : Int) (w : World) (L : Lay32 w) (hT : Tab w) :
    Calls Tryd.prog 27 #[.int .i64 b] w fun r w' => ∃ v er, r = .returned (.tuple #[v, .int .i64 er]) ∧ Below w.heap.size w w' ∧ ((pok32 b = true ∧ er = 0 ∧ DAns w w' (sg (pneg32 b) (pmag32 b) * pw (pexp32 b)) v) ∨ (pok32 b = false ∧ er = 10 ∧ v = zeroV)) := by
  have hVy : pok32 b = true → ∀ W, Below w.heap.size w W → Calls Tryd.prog 65 #[.bool (pneg32 b), .int .i64 (pmag32 b), .int .i64 (pexp32 b), .bool true] W fun r w' => ∃ v, r = .returned (.tuple #[v, .int .i64 0]) ∧ DAns W w' (sg (pneg32 b) (pmag32 b) * pw (pexp32 b)) v := fun hp W hb => by
    have hi := pmag32_in hp
    exact value_yes _ _ _ W (hT.keeps hb) (by omega) (by omega) (by omega) (by omega)
  have hP := fun W hb => bitsParts32A b W (L.keeps hb)
  generalize sg (pneg32 b) (pmag32 b) * pw (pexp32 b) = V at hVy ⊢
  generalize pneg32 b = ng at *
  generalize pmag32 b = mg at *
  generalize pexp32 b = ex at *
  clear L hT
  cases hp : pok32 b
  · rw [hp] at hP hVy
    go_enter Tryd.func27, Tryd.ntmps27
    go_wp2_with fail
    refine (hP _ (bel_alloc _ _)).mono ?_
    rintro r w1 ⟨rfl, hb1⟩
    go_wp2_with fail
    refine (value_no _ _ _ _).mono ?_
    unfold zeroV
    rintro r w2 ⟨rfl, hb2⟩
    have hbw := bel_trans (bel_alloc w (.cells #[.bool false, .slice none 0 0, .int .i64 0] 31)) (bel_trans hb1 hb2)
    have q0 := ((bel_trans hb1 hb2).block w.heap.size (by rw [size1]; omega)).trans (heap_a1 _ _)
    have x0 := blkC q0 0 rfl
    have x1 := blkC q0 1 rfl
    have x2 := blkC q0 2 rfl
    have z0 := blkF q0 0
    have z1 := blkF q0 1
    have z2 := blkF q0 2
    go_wp2
    refine bodyPost_ret (v := .tuple #[zeroV, .int .i64 10]) (by simp [results, Tryd.results27, go_sem, x0, x1, x2, zeroV]) rfl ⟨_, _, rfl, ?_, .inr ⟨by trivial, rfl, rfl⟩⟩
    exact bel_set3 hbw (Nat.le_refl _) _ _ _
  · rw [hp] at hP hVy
    go_enter Tryd.func27, Tryd.ntmps27
    go_wp2_with fail
    refine (hP _ (bel_alloc _ _)).mono ?_
    rintro r w1 ⟨rfl, hb1⟩
    have hbw := bel_trans (bel_alloc w (.cells #[.bool false, .slice none 0 0, .int .i64 0] 31)) hb1
    go_wp2_with fail
    refine (hVy (by trivial) _ hbw).mono ?_
    rintro r w2 ⟨v, rfl, hD⟩
    obtain ⟨ng', s', m', e', rfl, hyy, hA2⟩ := id hD
    obtain ⟨so', sn', sc', rfl⟩ := hA2.num.shape
    have q0 := ((bel_trans hb1 hD.below).block w.heap.size (by rw [size1]; omega)).trans (heap_a1 _ _)
    have x0 := blkC q0 0 rfl
    have x1 := blkC q0 1 rfl
    have x2 := blkC q0 2 rfl
    have z0 := blkF q0 0
    have z1 := blkF q0 1
    have z2 := blkF q0 2
    go_wp2
    refine bodyPost_ret (v := .tuple #[.agg #[.bool ng', .slice so' sn' sc', .int .i64 e'], .int .i64 0]) (by simp [results, Tryd.results27, go_sem, x0, x1, x2]) rfl ⟨_, _, rfl, ?_, .inl ⟨by trivial, rfl, ?_⟩⟩
    · exact bel_set3 (bel_trans hbw hD.below) (Nat.le_refl _) _ _ _
    · exact dans_res3 (g := w.heap.size) hD hbw (Nat.le_refl _) (Nat.lt_of_lt_of_le (by rw [size1]; omega) hb1.size) _ _ _
set_option maxRecDepth 100000 in
set_option maxHeartbeats 1000000 in
theorem dfloat_any (x : NumR) (w : World) (hx : Row w x.ao x.n x.cap x.d) (L : Lay64 w) (hT : Tab w) (he : rng x.e) :
    Calls Tryd.prog 39 #[x.v] w fun r w' => r = .returned (.tuple #[.int .i64 (if okR x && decide (blen (val x.d x.n) ≤ 63) then jp x.ng (val x.d x.n) x.e else 0), .bool (okR x && decide (blen (val x.d x.n) ≤ 63) && jk 52 2047 (-1074) (val x.d x.n) x.e)]) ∧ Below w.heap.size w w' := by
  have hV := fun W hb => dvalid_any x.ng x.ao x.n x.cap x.d x.e W (hx.keeps hb)
  have hk : okN x.ng x.d x.n x.e = okR x := rfl
  rw [hk] at hV
  have hb0 : okR x = true → okB x.d x.n = true := fun h => by
    rcases of_decide_eq_true h with ⟨h1, h2, h3⟩ | ⟨h1, h2, _⟩
    · exact okB_yes (by omega) ⟨fun i hi => by omega, .inl h1⟩
    · exact okB_yes h2.1 h2.2
  generalize okR x = ok at *
  obtain ⟨an, ao, n, ca, a, e⟩ := x
  unfold NumR.v
  simp only at *
  clear hk
  have g0 := heap_a1 w (.cells #[.bool an, .slice ao n ca, .int .i64 e] 31)
  have hb1 := bel_alloc w (.cells #[.bool an, .slice ao n ca, .int .i64 e] 31)
  cases hB : okB a n
  · have hok : ok = false := by cases ok; (· rfl); (· have := hb0 rfl; rw [hB] at this; cases this)
    subst hok
    have hI := fun W hb => int_bad ao n ca a W (hx.keeps hb) hB
    go_enter Tryd.func39, Tryd.ntmps39
    go_wp2_with fail
    refine (hI _ hb1).mono ?_
    rintro r w1 ⟨rfl, rfl⟩
    go_wp2
    go_ret2
    exact ⟨rfl, hb1⟩
  · obtain ⟨hn, hN⟩ := okB_out hB
    have hlt : val a n < P 2000 := Int.lt_of_lt_of_le (val_lt hN.1) (P_le hn)
    have hI := fun W hb => int_num (w := W) (x := .slice ao n ca) (A := val a n) ⟨_, _, _, _, rfl, hx.keeps hb, hN, rfl⟩ hlt
    have h63 : blen (val a n) ≤ 63 → val a n < 9223372036854775808 := fun h => by
      have h1 := blen_lt (val a n)
      have h2 : (2 : Int) ^ blen (val a n) ≤ 2 ^ 63 := two_le h
      rw [show (2 : Int) ^ 63 = 9223372036854775808 by decide] at h2
      omega
    have hnn := val_nonneg hN.1
    generalize val a n = M at *
    by_cases hs : blen M ≤ 63
    · have hs' : decide (blen M ≤ 63) = true := decide_eq_true hs
      have hi : intV M = M := by unfold intV; rw [if_pos hs]
      rw [hs', hi] at hI
      rw [hs']
      have hM := h63 hs
      have hJ := fun W hb => bitsJoinA an M e W (L.keeps hb) (hT.keeps hb) (by unfold rng; omega) he
      generalize jp an M e = jv at *
      generalize jk 52 2047 (-1074) M e = jkv at *
      cases ok
      · go_enter Tryd.func39, Tryd.ntmps39
        go_wp2_with fail
        refine (hI _ hb1).mono ?_
        rintro r w1 ⟨rfl, rfl⟩
        go_wp2_with fail
        refine (hV _ hb1).mono ?_
        rintro r w2 ⟨rfl, hb2⟩
        go_wp2
        go_ret2
        exact ⟨rfl, bel_trans hb1 hb2⟩
      · go_enter Tryd.func39, Tryd.ntmps39
        go_wp2_with fail
        refine (hI _ hb1).mono ?_
        rintro r w1 ⟨rfl, rfl⟩
        go_wp2_with fail
        refine (hV _ hb1).mono ?_
        rintro r w2 ⟨rfl, hb2⟩
        have q0 := (hb2.block w.heap.size (by rw [size1]; omega)).trans g0
        have k0 := blkC q0 0 rfl
        have k1 := blkC q0 1 rfl
        have k2 := blkC q0 2 rfl
        go_wp2_with fail
        refine (hJ _ (bel_trans hb1 hb2)).mono ?_
        rintro r w3 ⟨rfl, hb3⟩
        go_wp2
        go_ret2
        exact ⟨rfl, bel_trans (bel_trans hb1 hb2) hb3⟩
    · have hs' : decide (blen M ≤ 63) = false := decide_eq_false hs
      rw [hs'] at hI
      rw [hs', Bool.and_false, Bool.false_and]
      go_enter Tryd.func39, Tryd.ntmps39
      go_wp2_with fail
      refine (hI _ hb1).mono ?_
      rintro r w1 ⟨rfl, rfl⟩
      go_wp2
      go_ret2
      exact ⟨rfl, hb1⟩
end Go.Proofs.YtlmoeclfjogoaaaDoor

/-
  Package dyadic's calls on numbers that are told by their worth.
-/
namespace Go.Proofs.YtlmoeclfjogoaaaDoor
open Go Go.RowKit Go.Proofs.YtlmoeclfjogoaaaDoor.M
set_option linter.unusedSimpArgs false
set_option linter.unusedVariables false

/-- A number by its worth, laid open. -/
theorem DNum.open {w : World} {v : Value} {V : Int} (h : DNum w v V) (ok : Dok V) : ∃ x : NumR, v = x.v ∧ Row w x.ao x.n x.cap x.d ∧ okR x = true ∧ x.V = V := by
  obtain ⟨ng, s, m, e, rfl, hy, ao, n, cap, d, rfl, hR, hN, rfl⟩ := h
  refine ⟨⟨ng, ao, n, cap, d, e⟩, rfl, hR, ?_, hy.val.symm⟩
  obtain ⟨o1, o2, o3⟩ := hy.ok.1 ok
  refine decide_eq_true ?_
  by_cases h0 : n = 0
  · left
    have hz : val d n = 0 := by rw [h0]; rfl
    rcases hy.form with ⟨_, f2, f3⟩ | ⟨f1, _⟩
    · exact ⟨h0, f2, f3⟩
    · omega
  · right
    have hp := val_pos hN (show 0 < n by omega)
    rcases hy.form with ⟨f1, _⟩ | ⟨_, f2⟩
    · omega
    · refine ⟨by show 0 < n; omega, ⟨?_, hN⟩, ?_, o2, o3⟩
      · exact Num.len (w := w) (ao := ao) (cap := cap) ⟨_, _, _, _, rfl, hR, hN, rfl⟩ o1
      · obtain ⟨k, hk⟩ : ∃ k, n = 1 + k := ⟨n - 1, by omega⟩
        have := val_split d 1 k
        rw [← hk] at this
        rw [this, show val d 1 = d 0 by show 0 + d 0 * 1 = _; omega, show P 1 = 1073741824 from rfl] at f2
        show d 0 % 2 = 1
        omega
theorem DFit.yes {w w' : World} {V er : Int} {v : Value} (h : DFit w w' V v er) (ok : Dok V) : er = 0 ∧ DAns w w' V v := by
  rcases h.2 with ⟨_, h1, h2⟩ | ⟨hn, _⟩
  · exact ⟨h1, h2⟩
  · exact absurd ok hn
theorem add_D {w : World} {x y : Value} {A B : Int} (hx : DNum w x A) (hy : DNum w y B) (oA : Dok A) (oB : Dok B) (hT : Tab w) :
    Calls Tryd.prog 16 #[x, y] w fun r w' => ∃ v er, r = .returned (.tuple #[v, .int .i64 er]) ∧ DFit w w' (A + B) v er := by
  obtain ⟨x, rfl, hR, ok, rfl⟩ := hx.open oA
  obtain ⟨y, rfl, hR', ok', rfl⟩ := hy.open oB
  exact dadd_ok x y w hR hR' ok ok' hT
theorem sub_D {w : World} {x y : Value} {A B : Int} (hx : DNum w x A) (hy : DNum w y B) (oA : Dok A) (oB : Dok B) (hT : Tab w) :
    Calls Tryd.prog 17 #[x, y] w fun r w' => ∃ v er, r = .returned (.tuple #[v, .int .i64 er]) ∧ DFit w w' (A - B) v er := by
  obtain ⟨x, rfl, hR, ok, rfl⟩ := hx.open oA
  obtain ⟨y, rfl, hR', ok', rfl⟩ := hy.open oB
  exact dsub_ok x y w hR hR' ok ok' hT
theorem mul_D {w : World} {x y : Value} {A B : Int} (hx : DNum w x A) (hy : DNum w y B) (oA : Dok A) (oB : Dok B) (hT : Tab w) :
    Calls Tryd.prog 18 #[x, y] w fun r w' => ∃ v er C, r = .returned (.tuple #[v, .int .i64 er]) ∧ C * 2 ^ 4194304 = A * B ∧ DFit w w' C v er := by
  obtain ⟨x, rfl, hR, ok, rfl⟩ := hx.open oA
  obtain ⟨y, rfl, hR', ok', rfl⟩ := hy.open oB
  refine (dmul_ok x y w hR hR' ok ok' hT).mono ?_
  rintro r w' ⟨v, er, rfl, hF⟩
  exact ⟨v, er, _, rfl, mulV_eq (by have := (okR_sane ok).2.2.1; omega) (by have := (okR_sane ok').2.2.1; omega), hF⟩
theorem cmp_D {w : World} {x y : Value} {A B : Int} (hx : DNum w x A) (hy : DNum w y B) (oA : Dok A) (oB : Dok B) :
    Calls Tryd.prog 45 #[x, y] w fun r w' => r = .returned (.tuple #[.int .i64 (ord A B), .int .i64 0]) ∧ Below w.heap.size w w' := by
  obtain ⟨x, rfl, hR, ok, rfl⟩ := hx.open oA
  obtain ⟨y, rfl, hR', ok', rfl⟩ := hy.open oB
  have := dcmp_any x y w hR hR'
  rwa [ok, ok'] at this
theorem sign_D {w : World} {x : Value} {A : Int} (hx : DNum w x A) (oA : Dok A) :
    Calls Tryd.prog 38 #[x] w fun r w' => r = .returned (.tuple #[.int .i64 (ord A 0), .int .i64 0]) ∧ Below w.heap.size w w' := by
  obtain ⟨x, rfl, hR, ok, rfl⟩ := hx.open oA
  have := dsignF_any x w hR
  rw [ok] at this
  have e : sgn x.ng x.n = ord x.V 0 := by
    rcases sgn_V (okR_sane ok) with ⟨a, b, _⟩ | ⟨a, b, _⟩ | ⟨a, b, _⟩
    · rw [a, b, ord_eq rfl]
    · rw [a, ord_gt b]
    · rw [a, ord_lt b]
  rw [← e]
  exact this
theorem neg_D {w : World} {x : Value} {A : Int} (hx : DNum w x A) (oA : Dok A) :
    Calls Tryd.prog 36 #[x] w fun r w' => ∃ v, r = .returned (.tuple #[v, .int .i64 0]) ∧ DAns w w' (-A) v := by
  obtain ⟨x, rfl, hR, ok, rfl⟩ := hx.open oA
  exact dneg_ok x w hR ok
theorem valid_D {w : World} {x : Value} {A : Int} (hx : DNum w x A) (oA : Dok A) :
    Calls Tryd.prog 20 #[x] w fun r w' => r = .returned (.bool true) ∧ Below w.heap.size w w' := by
  obtain ⟨x, rfl, hR, ok, rfl⟩ := hx.open oA
  have := dvalid_any x.ng x.ao x.n x.cap x.d x.e w hR
  rwa [show okN x.ng x.d x.n x.e = true from ok] at this
theorem float_D {w : World} {x : Value} {A : Int} (hx : DNum w x A) (oA : Dok A) (L : Lay64 w) (hT : Tab w) :
    Calls Tryd.prog 39 #[x] w fun r w' => ∃ ng m e, Dy A ng m e ∧ r = .returned (.tuple #[.int .i64 (if decide (blen m ≤ 63) then jp ng m e else 0), .bool (decide (blen m ≤ 63) && jk 52 2047 (-1074) m e)]) ∧ Below w.heap.size w w' := by
  obtain ⟨x, rfl, hR, ok, rfl⟩ := hx.open oA
  have hd := (okR_dy ok).1
  have hb := hd.ok.1 oA
  have := dfloat_any x w hR L hT (by unfold rng; omega)
  rw [ok] at this
  refine this.mono ?_
  rintro r w' ⟨rfl, hb⟩
  exact ⟨_, _, _, hd, rfl, hb⟩
/-- To scale is to multiply. -/
theorem scale_D {w : World} {x : Value} {A : Int} (hx : DNum w x A) (oA : Dok A) (k : Int) (hk : -1000000 ≤ k ∧ k ≤ 1000000) (hT : Tab w) :
    Calls Tryd.prog 40 #[x, .int .i64 k] w fun r w' => ∃ v er C, r = .returned (.tuple #[v, .int .i64 er]) ∧ C * 2 ^ 4194304 = A * pw k ∧ DFit w w' C v er := by
  obtain ⟨x, rfl, hR, ok, rfl⟩ := hx.open oA
  refine (dscale_ok x w hR k (by unfold rng; omega) ok hT).mono ?_
  rintro r w' ⟨v, er, rfl, hF⟩
  refine ⟨v, er, _, rfl, ?_, hF⟩
  have hb := (okR_dy ok).1.ok.1 oA
  unfold mkV
  by_cases h0 : val x.d x.n = 0
  · rw [if_pos h0]
    show 0 * _ = sg x.ng (val x.d x.n) * pw x.e * pw k
    rw [h0, sg_zero, Int.zero_mul, Int.zero_mul, Int.zero_mul]
  · rw [if_neg h0, if_neg (by omega)]
    show _ = sg x.ng (val x.d x.n) * pw x.e * pw k
    rw [Int.mul_assoc, Int.mul_assoc, pw_mul (by omega) (by omega)]
theorem make_D {w : World} {s : Value} {m : Int} (ng : Bool) (e : Int) (hs : Num w s m) (hm : m < P 2000) (hT : Tab w) :
    Calls Tryd.prog 21 #[.bool ng, s, .int .i64 e] w fun r w' => ∃ v er, r = .returned (.tuple #[v, .int .i64 er]) ∧ DFit w w' (mkV ng m e) v er := by
  obtain ⟨ao, n, cap, d, rfl, hR, hN, rfl⟩ := hs
  exact dmake_all ng ao n cap d e w hR (Num.ok hN hm) hT
set_option maxRecDepth 100000 in
set_option maxHeartbeats 1000000 in
theorem same_R (an bn : Bool) (ao bo : Option Addr) (n m ca cb : Nat) (a b : Nat → Int) (e f : Int) (w : World) (ha : Row w ao n ca a) (hb : Row w bo m cb b) :
    Calls Tryd.prog 19 #[.agg #[.bool an, .slice ao n ca, .int .i64 e], .agg #[.bool bn, .slice bo m cb, .int .i64 f]] w fun r w' => r = .returned (.bool ((an == bn) && (e == f) && sameB a b n m)) ∧ Below w.heap.size w w' := by
  have hb2 := bel_alloc2 w (.cells #[.bool an, .slice ao n ca, .int .i64 e] 31) (.cells #[.bool bn, .slice bo m cb, .int .i64 f] 31)
  have hC := same_any ao bo n m ca cb a b _ (ha.keeps hb2) (hb.keeps hb2)
  by_cases h1 : an = bn
  · by_cases h2 : e = f
    · subst h1 h2
      have e0 : ((an == an) && (e == e) && sameB a b n m) = sameB a b n m := by simp
      rw [e0]
      go_enter Tryd.func19, Tryd.ntmps19
      go_wp2_with fail
      refine hC.mono ?_
      rintro r w1 ⟨rfl, h1⟩
      go_wp2
      go_ret
      exact ⟨rfl, bel_trans hb2 h1⟩
    · have h2' : (e == f) = false := by simp [h2]
      subst h1
      have e0 : ((an == an) && (e == f) && sameB a b n m) = false := by simp [h2]
      rw [e0]
      go_enter Tryd.func19, Tryd.ntmps19
      go_wp2
      go_ret
      exact ⟨rfl, hb2⟩
  · have h1' : (an == bn) = false := by simp [h1]
    have e0 : ((an == bn) && (e == f) && sameB a b n m) = false := by simp [h1]
    rw [e0]
    go_enter Tryd.func19, Tryd.ntmps19
    go_wp2
    go_ret
    exact ⟨rfl, hb2⟩
theorem sameB_iff {a b : Nat → Int} {n m : Nat} (ha : Nrm a n) (hb : Nrm b m) : sameB a b n m = decide (val a n = val b m) := by
  by_cases h : val a n = val b m
  · rw [sameB_of ha hb h, decide_eq_true h]
  · rw [decide_eq_false h]
    refine decide_eq_false fun ⟨h1, h2⟩ => h ?_
    subst h1
    exact val_congr h2
theorem same_D {w : World} {x y : Value} {A B : Int} (hx : DNum w x A) (hy : DNum w y B) :
    Calls Tryd.prog 19 #[x, y] w fun r w' => r = .returned (.bool (decide (A = B))) ∧ Below w.heap.size w w' := by
  obtain ⟨ng, s, m, e, rfl, hA, ao, n, ca, a, rfl, hR, hN, rfl⟩ := hx
  obtain ⟨ng', s', m', e', rfl, hB, ao', n', ca', a', rfl, hR', hN', rfl⟩ := hy
  have := same_R ng ng' ao ao' n n' ca ca' a a' e e' w hR hR'
  rw [sameB_iff hN hN'] at this
  have e0 : ((ng == ng') && (e == e') && decide (val a n = val a' n')) = decide (A = B) := by
    by_cases h : A = B
    · subst h
      obtain ⟨h1, h2, h3⟩ := hA.unique hB
      subst h1 h3
      simp [h2]
    · rw [decide_eq_false h]
      cases hx : ((ng == ng') && (e == e') && decide (val a n = val a' n'))
      · rfl
      · simp only [Bool.and_eq_true, beq_iff_eq, decide_eq_true_eq] at hx
        obtain ⟨⟨h1, h2⟩, h3⟩ := hx
        exfalso
        apply h
        rw [hA.val, hB.val, h1, h2, h3]
  rwa [e0] at this
end Go.Proofs.YtlmoeclfjogoaaaDoor
