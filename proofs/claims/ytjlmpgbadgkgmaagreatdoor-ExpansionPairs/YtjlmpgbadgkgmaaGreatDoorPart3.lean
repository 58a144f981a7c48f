/-
  Parts of the proof, one behind another.
-/
import Derived.Test.YtjlmpgbadgkgmaaGreatDoorPart2
/-
  The document's own answers (plumbref2): fits, Answer, From, Cmp, Sub, Mul, by contracts over the same values.
-/
namespace Go.Proofs.YtjlmpgbadgkgmaaGreatDoor
open Go Go.RowKit Go.Proofs.YtjlmpgbadgkgmaaGreatDoor.M
set_option linter.unusedSimpArgs false
set_option linter.unusedVariables false

theorem rtrim_out {B : Nat} {w : World} {v : Value} {n : Nat} {d : Nat → Int} (h : Out B w v n d) :
    Calls Tryz.prog 110 #[v] w fun e w' => ∃ v', e = .returned v' ∧ ∃ t, t ≤ n ∧ Top d t ∧ (∀ i, t ≤ i → i < n → d i = 0) ∧ Out B w v' t d ∧ w' = w := by
  have h0 := h
  rcases h.2 with ⟨rfl, rfl⟩ | ⟨g, cap, cur, rfl, hb, hg, hn, hm, hs, ht⟩
  · go_enter Tryz.func110, Tryz.ntmps110
    go_wp2
    go_loop [3] (fun i => i = .int .i64 0) (fun i => 0)
    case atStart => rfl
    case round =>
      subst hrel
      go_wp2
      go_ret
      exact ⟨_, rfl, .inl rfl, Out.nil _ _ _, rfl⟩
  · obtain ⟨ao, c, e, hR⟩ := h0.row
    simp only [Value.slice.injEq] at e
    obtain ⟨rfl, _, rfl⟩ := e
    refine (rtrim_any g n cap d w hR).mono ?_
    rintro e w' ⟨t, h1, h2, h3, rfl, rfl⟩
    exact ⟨_, rfl, t, h1, h2, h3, h0.cut h1, rfl⟩
theorem rtrim_ans {w0 w : World} {v : Value} {n : Nat} {d : Nat → Int} (h : Out w0.heap.size w v n d) (hd : Dig d n) (hb : Below w0.heap.size w0 w) :
    Calls Tryz.prog 110 #[v] w fun e w' => ∃ v', e = .returned v' ∧ Ans w0 w (val d n) v' ∧ w' = w := by
  refine (rtrim_out h).mono ?_
  rintro e w' ⟨v', rfl, t, ht, htop, hz, hO, rfl⟩
  obtain ⟨hN, hv⟩ := nrm_of_top hd ht htop hz
  exact ⟨v', rfl, ⟨t, d, hO, hN, hv, hb⟩, rfl⟩
set_option maxHeartbeats 1000000 in
theorem rcmp_any (ao bo : Option Addr) (n m ca cb : Nat) (a b : Nat → Int) (w : World) (ha : Row w ao n ca a) (hb : Row w bo m cb b) (na : Nrm a n) (nb : Nrm b m) :
    Calls Tryz.prog 99 #[.slice ao n ca, .slice bo m cb] w fun e w' => e = .returned (.int .i64 (ord (val a n) (val b m))) ∧ Below w.heap.size w w' := by
  have hla := ha.le
  have hma := ha.max
  have hlb := hb.le
  have hmb := hb.max
  by_cases hnm : n = m
  · subst hnm
    go_enter Tryz.func99, Tryz.ntmps99
    go_wp2
    go_loopw [5] (fun i wr => ∃ k : Nat, k ≤ n ∧ i = .int .i64 ((k : Int) - 1) ∧ Hid (∀ i, k ≤ i → i < n → a i = b i) ∧ Below w.heap.size w wr) (fun i _ => (intOf i + 1).toNat)
    case atStart => exact ⟨n, Nat.le_refl _, rfl, fun i _ _ => by omega, bel_refl _⟩
    case round =>
      obtain ⟨k, hk, rfl, HS, hbw⟩ := hrel
      by_cases hlt : 0 < k
      · obtain ⟨j, rfl⟩ : ∃ j, k = j + 1 := ⟨k - 1, by omega⟩
        have ej : ((j + 1 : Nat) : Int) - 1 = j := by omega
        obtain ⟨ba, fa, rfl, hba, hca⟩ := ha.spot (by omega)
        obtain ⟨bb, fb, rfl, hbb, hcb⟩ := hb.spot (by omega)
        have c1 := (hbw.cell (p := ⟨ba, fa + j, none⟩) hba).trans (hca j (by omega))
        have c2 := (hbw.cell (p := ⟨bb, fb + j, none⟩) hbb).trans (hcb j (by omega))
        rw [ej]
        by_cases h1 : a j < b j
        · go_wp2
          go_quiet (fail)
          go_wp2
          go_ret
          exact ⟨ret_int ((ord_lt h1).symm.trans (ord_top na.1 nb.1 (show j < n by omega) (fun i x y => HS.out i (by omega) y) (by omega))), bDrewN hbw _⟩
        · by_cases h2 : b j < a j
          · go_wp2
            go_quiet (fail)
            go_wp2
            go_quiet (fail)
            go_wp2
            go_ret
            exact ⟨ret_int ((ord_gt h2).symm.trans (ord_top na.1 nb.1 (show j < n by omega) (fun i x y => HS.out i (by omega) y) (by omega))), bDrewN (bDrewN hbw _) _⟩
          · go_wp2
            go_quiet (fail)
            go_wp2
            go_quiet (fail)
            go_wp2
            go_roundw
            case rel => exact ⟨j, by omega, by go_num, fun i x y => by by_cases e : i = j; (· rw [e]; omega); (· exact HS.out i (by omega) y), bDrewN hbw _⟩
            case measure => simp [intOf]; try omega
      · obtain rfl : k = 0 := by omega
        go_wp2
        go_ret
        exact ⟨ret_int (ord_eq (val_congr fun i hi => HS.out i (by omega) hi)).symm, hbw⟩
  · by_cases hlt : n < m
    · go_enter Tryz.func99, Tryz.ntmps99
      go_wp2
      go_ret
      exact ⟨ret_int (ord_lt (nrm_lt na.1 nb hlt)).symm, bel_refl _⟩
    · go_enter Tryz.func99, Tryz.ntmps99
      go_wp2
      go_ret
      exact ⟨ret_int (ord_gt (nrm_lt nb.1 na (by omega))).symm, bel_refl _⟩
set_option maxHeartbeats 2000000 in
theorem rsub_any (ao bo : Option Addr) (n m ca cb : Nat) (a b : Nat → Int) (w : World) (ha : Row w ao n ca a) (hb : Row w bo m cb b) (na : Nrm a n) (nb : Nrm b m) (hn : n ≤ 100000) (hle : val b m ≤ val a n) :
    Calls Tryz.prog 100 #[.slice ao n ca, .slice bo m cb] w fun e w' => ∃ v, e = .returned v ∧ Ans w w' (val a n - val b m) v := by
  have hla := ha.le
  have hma := ha.max
  have hlb := hb.le
  have hmb := hb.max
  have da := na.1
  have db := nb.1
  have hmn : m ≤ n := nrm_le_len nb da hle
  have HLE : Hid (val b m ≤ val a n) := hle
  clear hle
  go_enter Tryz.func100, Tryz.ntmps100
  go_wp2
  go_loopw [5, 6, 7] (fun l c i wr => ∃ (k : Nat) (q : Int) (r : Nat → Int), k ≤ n ∧ i = .int .i64 k ∧ c = .int .i64 q ∧ 0 ≤ q ∧ q ≤ 1 ∧ Out w.heap.size wr l k r ∧ Dig r k ∧ Hid (val r k - q * P k = val (ext a n) k - val (ext b m) k) ∧ Below w.heap.size w wr) (fun _ _ i _ => n - (intOf i).toNat)
  case atStart => exact ⟨0, 0, fun _ => 0, Nat.zero_le _, rfl, rfl, by omega, by omega, Out.nil _ _ _, fun i hi => by omega, by show _ = _; rfl, bel_refl _⟩
  case round =>
    obtain ⟨k, q, r, hk, rfl, rfl, hq0, hq1, hO, hD, HV, hbw⟩ := hrel
    by_cases hkn : k < n
    · obtain ⟨ba, fa, rfl, hba, hca⟩ := ha.spot (by omega)
      have c1 := (hbw.cell (p := ⟨ba, fa + k, none⟩) hba).trans (hca k hkn)
      have dk := da k hkn
      by_cases hkm : k < m
      · obtain ⟨bb, fb, rfl, hbb, hcb⟩ := hb.spot (by omega)
        have c2 := (hbw.cell (p := ⟨bb, fb + k, none⟩) hbb).trans (hcb k hkm)
        have dbk := db k hkm
        have HX : Hid (-q + (ext a n k - ext b m k) = a k - q - b k) := by show _ = _; rw [ext_lt a hkn, ext_lt b hkm]; omega
        by_cases hneg : a k - q - b k < 0
        · go_wp2_with (at_builtin; refine wpList_app rfl _ _ rfl w.heap.size _ k r rfl (hO.stays (bel_alloc _ _)) _ 1 1 (fun _ => (a k - q - b k + 1073741824)) rfl (row1 _ _ rfl) (by omega) (by have := hbw.size; simp; omega) ?_; intro v' w1 hO1 hg1)
          have hb1 : Below w.heap.size w w1 := (hbw.alloc hbw.size _).grown hg1 (by have := hbw.size; simp; omega) (own_ge hO)
          have hs := sum_step (c := -q) (x := ext a n k - ext b m k) (r := r) (k := k) (V := val (ext a n) k - val (ext b m) k) (by have := HV.out; rw [Int.neg_mul]; omega)
          rw [show -q + (ext a n k - ext b m k) = a k - q - b k from HX.out, show (a k - q - b k) % 1073741824 = (a k - q - b k + 1073741824) by omega, show (a k - q - b k) / 1073741824 = -1 by omega] at hs
          go_roundw
          case rel => exact ⟨k + 1, 1, upd r k (a k - q - b k + 1073741824), by omega, by go_num, rfl, by omega, by omega, hO1.congr (cat_upd r k _), dig_upd2 hD (by omega), by show _ = _; rw [val_succ (ext a n), val_succ (ext b m)]; rw [Int.sub_mul] at hs; omega, hb1⟩
          case measure => simp [intOf]; omega
        · go_wp2_with (at_builtin; refine wpList_app rfl _ _ rfl w.heap.size _ k r rfl (hO.stays (bel_alloc _ _)) _ 1 1 (fun _ => (a k - q - b k)) rfl (row1 _ _ rfl) (by omega) (by have := hbw.size; simp; omega) ?_; intro v' w1 hO1 hg1)
          have hb1 : Below w.heap.size w w1 := (hbw.alloc hbw.size _).grown hg1 (by have := hbw.size; simp; omega) (own_ge hO)
          have hs := sum_step (c := -q) (x := ext a n k - ext b m k) (r := r) (k := k) (V := val (ext a n) k - val (ext b m) k) (by have := HV.out; rw [Int.neg_mul]; omega)
          rw [show -q + (ext a n k - ext b m k) = a k - q - b k from HX.out, show (a k - q - b k) % 1073741824 = (a k - q - b k) by omega, show (a k - q - b k) / 1073741824 = -0 by omega] at hs
          go_roundw
          case rel => exact ⟨k + 1, 0, upd r k (a k - q - b k), by omega, by go_num, rfl, by omega, by omega, hO1.congr (cat_upd r k _), dig_upd2 hD (by omega), by show _ = _; rw [val_succ (ext a n), val_succ (ext b m)]; rw [Int.sub_mul] at hs; omega, hb1⟩
          case measure => simp [intOf]; omega
      · have HX : Hid (-q + (ext a n k - ext b m k) = a k - q) := by show _ = _; rw [ext_lt a hkn, ext_ge b (by omega)]; omega
        by_cases hneg : a k - q < 0
        · go_wp2_with (at_builtin; refine wpList_app rfl _ _ rfl w.heap.size _ k r rfl (hO.stays (bel_alloc _ _)) _ 1 1 (fun _ => (a k - q + 1073741824)) rfl (row1 _ _ rfl) (by omega) (by have := hbw.size; simp; omega) ?_; intro v' w1 hO1 hg1)
          have hb1 : Below w.heap.size w w1 := (hbw.alloc hbw.size _).grown hg1 (by have := hbw.size; simp; omega) (own_ge hO)
          have hs := sum_step (c := -q) (x := ext a n k - ext b m k) (r := r) (k := k) (V := val (ext a n) k - val (ext b m) k) (by have := HV.out; rw [Int.neg_mul]; omega)
          rw [show -q + (ext a n k - ext b m k) = a k - q from HX.out, show (a k - q) % 1073741824 = (a k - q + 1073741824) by omega, show (a k - q) / 1073741824 = -1 by omega] at hs
          go_roundw
          case rel => exact ⟨k + 1, 1, upd r k (a k - q + 1073741824), by omega, by go_num, rfl, by omega, by omega, hO1.congr (cat_upd r k _), dig_upd2 hD (by omega), by show _ = _; rw [val_succ (ext a n), val_succ (ext b m)]; rw [Int.sub_mul] at hs; omega, hb1⟩
          case measure => simp [intOf]; omega
        · go_wp2_with (at_builtin; refine wpList_app rfl _ _ rfl w.heap.size _ k r rfl (hO.stays (bel_alloc _ _)) _ 1 1 (fun _ => (a k - q)) rfl (row1 _ _ rfl) (by omega) (by have := hbw.size; simp; omega) ?_; intro v' w1 hO1 hg1)
          have hb1 : Below w.heap.size w w1 := (hbw.alloc hbw.size _).grown hg1 (by have := hbw.size; simp; omega) (own_ge hO)
          have hs := sum_step (c := -q) (x := ext a n k - ext b m k) (r := r) (k := k) (V := val (ext a n) k - val (ext b m) k) (by have := HV.out; rw [Int.neg_mul]; omega)
          rw [show -q + (ext a n k - ext b m k) = a k - q from HX.out, show (a k - q) % 1073741824 = (a k - q) by omega, show (a k - q) / 1073741824 = -0 by omega] at hs
          go_roundw
          case rel => exact ⟨k + 1, 0, upd r k (a k - q), by omega, by go_num, rfl, by omega, by omega, hO1.congr (cat_upd r k _), dig_upd2 hD (by omega), by show _ = _; rw [val_succ (ext a n), val_succ (ext b m)]; rw [Int.sub_mul] at hs; omega, hb1⟩
          case measure => simp [intOf]; omega
    · obtain rfl : k = n := by omega
      have HD : Hid (Dig r k ∧ val r k = val a k - val b m) := by
        refine ⟨hD, ?_⟩
        have h1 := HV.out
        rw [val_ext a (Nat.le_refl _), val_ext b hmn] at h1
        have h2 := val_lt hD
        have h3 := HLE.out
        have hp := P_pos k
        rcases (show q = 0 ∨ q = 1 by omega) with e | e
        · subst e; omega
        · subst e; omega
      go_wp2_with (go_at_call 110; refine (rtrim_ans hO hD hbw).mono ?_; rintro e w3 ⟨v', rfl, hA, rfl⟩)
      go_ret
      exact ⟨_, rfl, by rw [← HD.out.2]; exact hA⟩
set_option maxHeartbeats 2000000 in
theorem rmul_any (ao bo : Option Addr) (n m ca cb : Nat) (a b : Nat → Int) (w : World) (ha : Row w ao n ca a) (hb : Row w bo m cb b) (na : Nrm a n) (nb : Nrm b m) (hn : n ≤ 100000) (hm : m ≤ 100000) :
    Calls Tryz.prog 103 #[.slice ao n ca, .slice bo m cb] w fun e w' => ∃ v, e = .returned v ∧ Ans w w' (val a n * val b m) v := by
  have hla := ha.le
  have hma := ha.max
  have hlb := hb.le
  have hmb := hb.max
  have da := na.1
  have db := nb.1
  by_cases hn0 : n = 0
  · subst hn0
    go_enter Tryz.func103, Tryz.ntmps103
    go_wp2
    go_ret
    exact ⟨_, rfl, by rw [show val a 0 * val b m = 0 from Int.zero_mul _]; exact Ans.nil (bel_refl _)⟩
  · by_cases hm0 : m = 0
    · subst hm0
      go_enter Tryz.func103, Tryz.ntmps103
      go_wp2
      go_ret
      exact ⟨_, rfl, by rw [show val a n * val b 0 = 0 from Int.mul_zero _]; exact Ans.nil (bel_refl _)⟩
    · have e1 : ((n : Int) == 0) = false := by simp; omega
      have e2 : ((m : Int) == 0) = false := by simp; omega
      go_enter Tryz.func103, Tryz.ntmps103
      go_wp2_with (at_make; refine wpList_mk rfl _ _ rfl _ _ (n + m) rfl rfl (by omega) (by omega) (by omega) ?_; intro w1 hB1 hb1)
      go_loopw [6] (fun i wr => ∃ (k : Nat) (r : Nat → Int), k ≤ n ∧ i = .int .i64 k ∧ Blk wr w.heap.size (n + m) r ∧ Dig r (n + m) ∧ Hid (∀ t, k + m ≤ t → r t = 0) ∧ Hid (val r (k + m) = val a k * val b m) ∧ Below w.heap.size w wr) (fun i _ => n - (intOf i).toNat)
      case atStart => exact ⟨0, fun _ => 0, Nat.zero_le _, rfl, hB1, zero_dig _, fun _ _ => rfl, by show _ = _; rw [val_zeros (Nat.zero_le (0 + m)) (fun _ _ _ => rfl)]; show 0 = 0 * val b m; omega, hb1⟩
      case round =>
        obtain ⟨i, r0, hi, rfl, hB0, hD0, HZ0, HV0, hbw0⟩ := hrel
        by_cases hlt : i < n
        · obtain ⟨ba, fa, rfl, hba, hca⟩ := ha.spot (by omega)
          have dai := da i hlt
          go_wp2
          go_loopw [7, 8] (fun c j wr => ∃ (k : Nat) (q : Int) (r : Nat → Int), k ≤ m ∧ j = .int .i64 k ∧ c = .int .i64 q ∧ 0 ≤ q ∧ q < 1073741824 ∧ Blk wr w.heap.size (n + m) r ∧ Dig r (n + m) ∧ Hid (∀ t, i + k ≤ t → r t = r0 t) ∧ Hid (val r (i + k) + q * P (i + k) = val r0 (i + k) + a i * val b k * P i) ∧ Below w.heap.size w wr) (fun _ j _ => m - (intOf j).toNat)
          case atStart => exact ⟨0, 0, r0, Nat.zero_le _, rfl, rfl, by omega, by omega, hB0, hD0, fun _ _ => rfl, by show _ = _; show val r0 i + 0 * P i = val r0 i + a i * 0 * P i; grind, hbw0⟩
          case round =>
            obtain ⟨k, q, r, hk, rfl, rfl, hq0, hq1, hB, hD, HS, HV, hbw⟩ := hrel
            have c1 := (hbw.cell (p := ⟨ba, fa + i, none⟩) hba).trans (hca i hlt)
            by_cases hkm : k < m
            · obtain ⟨bb, fb, rfl, hbb, hcb⟩ := hb.spot (by omega)
              have c2 := (hbw.cell (p := ⟨bb, fb + k, none⟩) hbb).trans (hcb k hkm)
              have c3 := hB.cell (show i + k < n + m by omega)
              have fg := hB.frozen (i + k)
              have drk := hD (i + k) (by omega)
              have hmul := dig_mul dai (db k hkm)
              go_wp2
              go_quiet (fail)
              go_wp2
              have hs := mul_step (b := b) (j := k) HV.out (HS.out (i + k) (Nat.le_refl _))
              rw [show q + (a i * b k + r (i + k)) = r (i + k) + a i * b k + q by omega] at hs
              go_roundw
              case rel => exact ⟨k + 1, (r (i + k) + a i * b k + q) / 1073741824, upd r (i + k) ((r (i + k) + a i * b k + q) % 1073741824), by omega, by go_num, rfl, by omega, by omega, hB.store (i + k) _, hD.upd _ (mod_dig _), fun t ht => by rw [upd_other r _ (by omega)]; exact HS.out t (by omega), hs, (bDrewN hbw _).setCell (Nat.le_refl _) _⟩
              case measure => simp [intOf]; omega
            · obtain rfl : k = m := by omega
              have c3 := hB.cell (show i + k < n + k by omega)
              have fg := hB.frozen (i + k)
              go_wp2
              have hr := mul_row HV.out HV0.out
              go_roundw
              case rel => exact ⟨i + 1, upd r (i + k) q, by omega, by go_num, hB.store (i + k) _, hD.upd _ ⟨hq0, hq1⟩, fun t ht => by rw [upd_other r _ (by omega), HS.out t (by omega)]; exact HZ0.out t (by omega), by show _ = _; rw [hr, val_succ], hbw.setCell (Nat.le_refl _) _⟩
              case measure => simp [intOf]; omega
        · obtain rfl : i = n := by omega
          go_wp2_with (go_at_call 110; refine (rtrim_ans (hB0.out (Nat.le_refl _) (Nat.le_refl _) (by omega)) hD0 hbw0).mono ?_; rintro e w3 ⟨v', rfl, hA, rfl⟩)
          go_ret
          exact ⟨_, rfl, by rw [← HV0.out]; exact hA⟩
end Go.Proofs.YtjlmpgbadgkgmaaGreatDoor

/-
  What is kept, with the blocks it lies in (Kept); Keep.Add and answer of a number (An); Lent and Back.
-/
namespace Go.Proofs.YtjlmpgbadgkgmaaGreatDoor
open Go Go.RowKit Go.Proofs.YtjlmpgbadgkgmaaGreatDoor.M
set_option linter.unusedSimpArgs false
set_option linter.unusedVariables false

/-- What is kept: all its answers and copies lie in blocks of S. -/
def Kept (B : Nat) (w : World) (k : Nat) (S : Nat → Prop) : Prop :=
  ∃ m v u n d, m ≤ 400 ∧ Kp B w k m v u n d ∧ (∀ i, i < m → ∀ g, (v i).ownBlock = some g → S g) ∧ (∀ i, i < m → ∀ g, (u i).ownBlock = some g → S g)
theorem Kept.keeps {B : Nat} {w w' : World} {k : Nat} {S : Nat → Prop} (h : Kept B w k S) (hb : Below w.heap.size w w') : Kept B w' k S := by
  obtain ⟨m, v, u, n, d, hm, hk, h1, h2⟩ := h
  exact ⟨m, v, u, n, d, hm, hk.keeps hb, h1, h2⟩
theorem Kept.mono {B : Nat} {w : World} {k : Nat} {S S' : Nat → Prop} (h : Kept B w k S) (hS : ∀ g, S g → S' g) : Kept B w k S' := by
  obtain ⟨m, v, u, n, d, hm, hk, h1, h2⟩ := h
  exact ⟨m, v, u, n, d, hm, hk, fun i hi g hg => hS g (h1 i hi g hg), fun i hi g hg => hS g (h2 i hi g hg)⟩
theorem Kept.old {B : Nat} {w : World} {k : Nat} {S : Nat → Prop} (h : Kept B w k S) : Kept B w k (fun g => g < w.heap.size) := by
  obtain ⟨m, v, u, n, d, hm, hk, h1, h2⟩ := h
  exact ⟨m, v, u, n, d, hm, hk, fun i hi g hg => ((hk.ans i hi).ge hg).2, fun i hi g hg => ((hk.was i hi).ge hg).2⟩
theorem Kept.wr {B : Nat} {w w' : World} {k g : Nat} {S : Nat → Prop} (h : Kept B w k S) (hw : Wr g w w') (hS : ¬ S g) {cur : Array Value} {z : Nat × Nat} (ht : w.heap[g]? = some (.cells cur 3 z)) : Kept B w' k S := by
  obtain ⟨m, v, u, n, d, hm, ⟨⟨x, y, hk, hx, hy, hxy⟩, hge, hans, hwas, hlen, hapart⟩, h1, h2⟩ := h
  refine ⟨m, v, u, n, d, hm, ⟨⟨x, y, (hw.block k (Array.getElem?_eq_some_iff.1 hk).1 fun e => ?_).trans hk, hx.of_block fun g' hg => hw.block g' (hx.ge hg).2 fun e => ?_, hy.of_block fun g' hg => hw.block g' (hy.ge hg).2 fun e => ?_, hxy⟩, hge, fun i hi => (hans i hi).of_block fun g' hg => hw.block g' ((hans i hi).ge hg).2 fun e => hS (e ▸ h1 i hi g' hg), fun i hi => (hwas i hi).of_block fun g' hg => hw.block g' ((hwas i hi).ge hg).2 fun e => hS (e ▸ h2 i hi g' hg), hlen, hapart⟩, h1, h2⟩
  · subst e; rw [ht] at hk; simp at hk
  · subst e; obtain ⟨c', z', hc⟩ := hx.typed hg; rw [ht] at hc; simp at hc
  · subst e; obtain ⟨c', z', hc⟩ := hy.typed hg; rw [ht] at hc; simp at hc
/-- A number's list, from B on. -/
def An (B : Nat) (w : World) (v : Value) (V : Int) : Prop := ∃ t d, Out B w v t d ∧ Nrm d t ∧ val d t = V
theorem An.ik {B B' : Nat} {w w' : World} {v : Value} {V : Int} (h : An B w v V) (k : Ik B' w w') : An B w' v V := by
  obtain ⟨t, d, h1, h2⟩ := h
  exact ⟨t, d, h1.ik k, h2⟩
theorem An.keeps {B : Nat} {w w' : World} {v : Value} {V : Int} (h : An B w v V) (k : Below w.heap.size w w') : An B w' v V := by
  obtain ⟨t, d, h1, h2⟩ := h
  exact ⟨t, d, h1.stays k, h2⟩
theorem An.lower {B B' : Nat} {w : World} {v : Value} {V : Int} (h : An B w v V) (hB : B' ≤ B) : An B' w v V := by
  obtain ⟨t, d, h1, h2⟩ := h
  exact ⟨t, d, h1.lower hB, h2⟩
theorem An.nil (B : Nat) (w : World) : An B w (.slice none 0 0) 0 := ⟨0, fun _ => 0, Out.nil _ _ _, ⟨fun i hi => by omega, .inl rfl⟩, rfl⟩
theorem Ans.an {w w' : World} {V : Int} {v : Value} (h : Ans w w' V v) : An w.heap.size w' v V := by
  obtain ⟨t, d, h1, h2, h3, h4⟩ := h
  exact ⟨t, d, h1, h2, h3⟩
theorem An.shape {B : Nat} {w : World} {v : Value} {V : Int} (h : An B w v V) : ∃ ao n cap, v = .slice ao n cap := by
  obtain ⟨t, d, h1, h2⟩ := h
  obtain ⟨ao, cap, e, _⟩ := h1.row
  exact ⟨ao, t, cap, e⟩
theorem An.num {B : Nat} {w : World} {v : Value} {V : Int} (h : An B w v V) : Num w v V := by
  obtain ⟨t, d, h1, h2, h3⟩ := h
  obtain ⟨ao, cap, rfl, hR⟩ := h1.row
  exact ⟨ao, t, cap, d, rfl, hR, h2, h3⟩
theorem An.ge {B : Nat} {w : World} {v : Value} {V : Int} (h : An B w v V) {g : Nat} (hg : v.ownBlock = some g) : B ≤ g ∧ g < w.heap.size := by
  obtain ⟨t, d, h1, h2, h3⟩ := h
  exact h1.ge hg
/-- The blocks behind an Add. -/
def S2 (S : Nat → Prop) (l : Value) (s : Nat) : Nat → Prop := fun g => S g ∨ l.ownBlock = some g ∨ s ≤ g
/-- A list and an error, of a number that may be too long. -/
def FitA (B : Nat) (w : World) (V : Int) (v : Value) (er : Int) : Prop := (V < P 2000 ∧ er = 0 ∧ An B w v V) ∨ (P 2000 ≤ V ∧ er = 2 ∧ v = .slice none 0 0)
theorem FitA.ik {B B' : Nat} {w w' : World} {v : Value} {V er : Int} (h : FitA B w V v er) (k : Ik B' w w') : FitA B w' V v er := by
  rcases h with ⟨h1, h2, h3⟩ | h
  · exact .inl ⟨h1, h2, h3.ik k⟩
  · exact .inr h
theorem FitA.keeps {B : Nat} {w w' : World} {v : Value} {V er : Int} (h : FitA B w V v er) (k : Below w.heap.size w w') : FitA B w' V v er := by
  rcases h with ⟨h1, h2, h3⟩ | h
  · exact .inl ⟨h1, h2, h3.keeps k⟩
  · exact .inr h
theorem FitA.lower {B B' : Nat} {w : World} {v : Value} {V er : Int} (h : FitA B w V v er) (hB : B' ≤ B) : FitA B' w V v er := by
  rcases h with ⟨h1, h2, h3⟩ | h
  · exact .inl ⟨h1, h2, h3.lower hB⟩
  · exact .inr h
theorem FitA.ge {B : Nat} {w : World} {v : Value} {V er : Int} (h : FitA B w V v er) {g : Nat} (hg : v.ownBlock = some g) : B ≤ g ∧ g < w.heap.size := by
  rcases h with ⟨h1, h2, h3⟩ | ⟨_, _, rfl⟩
  · exact h3.ge hg
  · simp [Value.ownBlock] at hg
theorem FitA.shape {B : Nat} {w : World} {v : Value} {V er : Int} (h : FitA B w V v er) : ∃ ao n cap, v = .slice ao n cap := by
  rcases h with ⟨h1, h2, h3⟩ | ⟨_, _, rfl⟩
  · exact h3.shape
  · exact ⟨_, _, _, rfl⟩
/-- A lent list: three marks behind it. -/
def lentD (a : Nat → Int) (n : Nat) : Nat → Int := cat a n (fun i => -71 - (i : Int))
theorem row3 (w : World) (x y z : Int) (f : Nat → Int) (h0 : f 0 = x) (h1 : f 1 = y) (h2 : f 2 = z) {g : Nat} (hg : g = w.heap.size) : Row (w.alloc (.cells #[.int .i64 x, .int .i64 y, .int .i64 z] 3)) (some ⟨g, 0, none⟩) 3 3 f := by
  subst hg
  refine (Blk.new w #[.int .i64 x, .int .i64 y, .int .i64 z] f (fun i hi => ?_)).row0 (Nat.le_refl _) (show 3 ≤ 9223372036854775807 by decide)
  match i, hi with
  | 0, _ => rw [h0]; rfl
  | 1, _ => rw [h1]; rfl
  | 2, _ => rw [h2]; rfl
theorem lentD_lt (a : Nat → Int) {n i : Nat} (h : i < n) : lentD a n i = a i := by simp [lentD, cat, h]
theorem lentD_marks (a : Nat → Int) (n : Nat) : lentD a n n = -71 ∧ lentD a n (n + 1) = -72 ∧ lentD a n (n + 2) = -73 := by
  refine ⟨by simp [lentD, cat], by simp [lentD, cat]; omega, by simp [lentD, cat]; omega⟩
/-- What Lent answers: a block of its own. -/
def LentA (w w' : World) (v : Value) (n : Nat) (a : Nat → Int) : Prop := ∃ g cap, v = .slice (some ⟨g, 0, none⟩) (n + 3) cap ∧ Out w.heap.size w' v (n + 3) (lentD a n) ∧ Below w.heap.size w w'
set_option maxRecDepth 100000 in
theorem lent_any (ao : Option Addr) (n ca : Nat) (a : Nat → Int) (w : World) (ha : Row w ao n ca a) (hn : n ≤ 100000) :
    Calls Tryz.prog 13 #[.slice ao n ca] w fun e w' => ∃ v, e = .returned v ∧ LentA w w' v n a := by
  go_enter Tryz.func13, Tryz.ntmps13
  go_wp2_with (first
    | (at_builtin
       have _t := hO1
       (refine wpList_app rfl _ _ rfl w.heap.size _ n a rfl (hO1.stays (bel_alloc _ _)) _ 3 3 (fun i => -71 - (i : Int)) rfl (row3 _ (-71) (-72) (-73) _ rfl rfl rfl rfl) (by omega) (by have := hg1.size; simp; omega) ?_)
       intro v2 w2 hO2 hg2)
    | (at_builtin
       (
       refine wpList_app rfl _ _ rfl w.heap.size _ 0 a rfl (Out.nil _ _ _) _ n ca a rfl ha (by omega) (Nat.le_refl _) ?_
       intro v1 w1 hO0 hg1
       have hO1 : Out w.heap.size w1 v1 n a := by rw [Nat.zero_add] at hO0; exact hO0.congr fun i hi => by simp [cat]
       clear hO0)))
  go_ret
  have hb1 : Below w.heap.size w w1 := grown_below hg1
  have hb2 : Below w.heap.size w w2 := (hb1.alloc hb1.size _).grown hg2 (by have := hb1.size; simp; omega) (own_ge hO1)
  obtain ⟨so, sc, rfl, _⟩ := hO2.row
  obtain ⟨g, rfl, _⟩ := hO2.spot (by omega)
  exact ⟨_, rfl, g, sc, rfl, hO2, hb2⟩
end Go.Proofs.YtjlmpgbadgkgmaaGreatDoor

/-
  plumblaw2's Keep, where an answer may be an empty list without room, whatever it points to: what is kept.
-/
namespace Go.Proofs.YtjlmpgbadgkgmaaGreatDoor
open Go Go.RowKit Go.Proofs.YtjlmpgbadgkgmaaGreatDoor.M
set_option linter.unusedSimpArgs false
set_option linter.unusedVariables false

/-- The block that a list may write: none where it has no room. -/
def ownE : Value → Option Nat
  | .slice _ _ 0 => none
  | v => v.ownBlock
/-- A list of the call's own, or an empty one without room. -/
def OutE (B : Nat) (w : World) (v : Value) (n : Nat) (d : Nat → Int) : Prop := (n = 0 ∧ ∃ ao, v = .slice ao 0 0) ∨ Out B w v n d
theorem OutE.or {B : Nat} {w : World} {v : Value} {n : Nat} {d : Nat → Int} (h : OutE B w v n d) : (n = 0 ∧ ∃ ao, v = .slice ao 0 0) ∨ (Out B w v n d ∧ ownE v = v.ownBlock) := by
  rcases h with h | h
  · exact .inl h
  · rcases id h.2 with ⟨rfl, rfl⟩ | ⟨g, cap, cur, rfl, _, _, hn, _⟩
    · exact .inl ⟨rfl, none, rfl⟩
    · cases cap with
      | zero =>
        obtain rfl : n = 0 := by omega
        exact .inl ⟨rfl, _, rfl⟩
      | succ cap => exact .inr ⟨h, rfl⟩
theorem OutE.of_block {B : Nat} {w w' : World} {x : Value} {n : Nat} {d : Nat → Int} (h : OutE B w x n d) (hb : ∀ g, ownE x = some g → w'.heap[g]? = w.heap[g]?) : OutE B w' x n d := by
  rcases h.or with h | ⟨h, e⟩
  · exact .inl h
  · exact .inr (h.of_block fun g hg => hb g (e.trans hg))
theorem OutE.typed {B : Nat} {w : World} {x : Value} {n : Nat} {d : Nat → Int} (h : OutE B w x n d) {g : Nat} (hg : ownE x = some g) : ∃ cur z, w.heap[g]? = some (.cells cur 3 z) := by
  rcases h.or with ⟨_, ao, rfl⟩ | ⟨h, e⟩
  · cases hg
  · exact h.typed (e.symm.trans hg)
theorem OutE.ge {B : Nat} {w : World} {x : Value} {n : Nat} {d : Nat → Int} (h : OutE B w x n d) {g : Nat} (hg : ownE x = some g) : B ≤ g ∧ g < w.heap.size := by
  rcases h.or with ⟨_, ao, rfl⟩ | ⟨h, e⟩
  · cases hg
  · exact h.ge (e.symm.trans hg)
theorem OutE.ik {B B' : Nat} {w w' : World} {x : Value} {n : Nat} {d : Nat → Int} (h : OutE B w x n d) (k : Ik B' w w') : OutE B w' x n d :=
  h.of_block fun g hg => by obtain ⟨cur, z, hc⟩ := h.typed hg; exact k.block g cur _ z (by decide) (by decide) hc
theorem OutE.stays {B : Nat} {w w' : World} {v : Value} {n : Nat} {d : Nat → Int} (h : OutE B w v n d) (hb : Below w.heap.size w w') : OutE B w' v n d :=
  h.of_block fun g hg => hb.block g (h.ge hg).2
theorem OutE.lower {B B' : Nat} {w : World} {v : Value} {n : Nat} {d : Nat → Int} (h : OutE B w v n d) (hB : B' ≤ B) : OutE B' w v n d := by
  rcases h with h | h
  · exact .inl h
  · exact .inr (h.lower hB)
theorem OutE.row {B : Nat} {w : World} {v : Value} {n : Nat} {d : Nat → Int} (h : OutE B w v n d) : ∃ ao cap, v = .slice ao n cap ∧ Row w ao n cap d := by
  rcases h with ⟨rfl, ao, rfl⟩ | h
  · exact ⟨ao, 0, rfl, Nat.le_refl _, by decide, fun _ => rfl, fun q => by omega⟩
  · exact h.row
theorem OutE.pos {B : Nat} {w : World} {v : Value} {n : Nat} {d : Nat → Int} (h : OutE B w v n d) (hn : 0 < n) : Out B w v n d := by
  rcases h with ⟨rfl, _⟩ | h
  · omega
  · exact h
theorem OutE.ownPos {B : Nat} {w : World} {v : Value} {n : Nat} {d : Nat → Int} (h : OutE B w v n d) (hn : 0 < n) : ownE v = v.ownBlock := by
  rcases h.or with ⟨rfl, _⟩ | ⟨_, h⟩
  · omega
  · exact h
theorem OutE.far {B : Nat} {w : World} {v : Value} {n : Nat} {d : Nat → Int} (h : OutE B w v n d) (g j : Nat) (x : Int) (hj : ownE v = some g → n ≤ j) : OutE B (w.setCell ⟨g, j, none⟩ (.int .i64 x)) v n d := by
  rcases h.or with h | ⟨h, e⟩
  · exact .inl h
  · exact .inr (h.far g j x fun q => hj (e.trans q))
/-- What is kept: m answers v, what they were (u), of n digits d. -/
structure KpE (B : Nat) (w : World) (k m : Nat) (v u : Nat → Value) (n : Nat → Nat) (d : Nat → Nat → Int) : Prop where
  blk : ∃ x y, w.heap[k]? = some (Obj.cells #[x, y] 26 (0, 0)) ∧ OutV B w x m v ∧ OutV B w y m u ∧ ∀ g, x.ownBlock = some g → y.ownBlock ≠ some g
  ge : B ≤ k
  ans : ∀ i, i < m → OutE B w (v i) (n i) (d i)
  was : ∀ i, i < m → Out B w (u i) (n i) (d i)
  len : ∀ i, i < m → n i ≤ 100000
  apart : ∀ i j, i < m → j < m → i ≠ j → ∀ g, (ownE (v i)) = some g → (ownE (v j)) ≠ some g
theorem KpE.keeps {B : Nat} {w w' : World} {k m : Nat} {v u : Nat → Value} {n : Nat → Nat} {d : Nat → Nat → Int} (h : KpE B w k m v u n d) (hb : Below w.heap.size w w') : KpE B w' k m v u n d := by
  obtain ⟨⟨x, y, hk, hx, hy, hxy⟩, hge, hans, hwas, hlen, hapart⟩ := h
  exact ⟨⟨x, y, (hb.block k (Array.getElem?_eq_some_iff.1 hk).1).trans hk, hx.of_block fun g hg => hb.block g (hx.ge hg).2, hy.of_block fun g hg => hb.block g (hy.ge hg).2, hxy⟩, hge, fun i hi => (hans i hi).stays hb, fun i hi => (hwas i hi).stays hb, hlen, hapart⟩
theorem KpE.more {B : Nat} {w w7 : World} {k m ln : Nat} {v u : Nat → Value} {n : Nat → Nat} {d : Nat → Nat → Int} {x y l c : Value} {ld : Nat → Int} (h : KpE B w k m v u n d) (hi : Ik B w w7)
    (hk : KX B w7 k x y (m + 1) (updV v m l) (m + 1) (updV u m c)) (hl : OutE B w l ln ld) (hc : Out B w7 c ln ld) (hn : ln ≤ 100000) (hap : ∀ i, i < m → ∀ g, (ownE (v i)) = some g → ownE l ≠ some g) :
    KpE B w7 k (m + 1) (updV v m l) (updV u m c) (updV n m ln) (updV d m ld) := by
  refine ⟨⟨x, y, hk.blk, hk.ox, hk.oy, hk.ne⟩, hk.ge, fun i hi' => ?_, fun i hi' => ?_, fun i hi' => ?_, fun i j hi' hj hij g => ?_⟩
  · by_cases e : i = m
    · subst e; simp only [updV_same]; exact hl.ik hi
    · rw [updV_other _ _ e, updV_other _ _ e, updV_other _ _ e]; exact (h.ans i (by omega)).ik hi
  · by_cases e : i = m
    · subst e; simp only [updV_same]; exact hc
    · rw [updV_other _ _ e, updV_other _ _ e, updV_other _ _ e]; exact (h.was i (by omega)).ik hi
  · by_cases e : i = m
    · subst e; simp only [updV_same]; exact hn
    · rw [updV_other _ _ e]; exact h.len i (by omega)
  · by_cases e : i = m
    · subst e
      rw [updV_same, updV_other _ _ (fun q => hij q.symm)]
      exact fun hg hg' => hap j (by omega) g hg' hg
    · rw [updV_other _ _ e]
      by_cases e' : j = m
      · subst e'; rw [updV_same]; exact hap i (by omega) g
      · rw [updV_other _ _ e']; exact h.apart i j (by omega) (by omega) hij g
end Go.Proofs.YtjlmpgbadgkgmaaGreatDoor

/-
  plumblaw2's Keep, where an answer may be an empty list without room, whatever it points to: Add.
-/
namespace Go.Proofs.YtjlmpgbadgkgmaaGreatDoor
open Go Go.RowKit Go.Proofs.YtjlmpgbadgkgmaaGreatDoor.M
set_option linter.unusedSimpArgs false
set_option linter.unusedVariables false

set_option maxHeartbeats 4000000 in
set_option maxRecDepth 100000 in
theorem keepAddE_any (B k m : Nat) (v u : Nat → Value) (n : Nat → Nat) (d : Nat → Nat → Int) (w : World) (h : KpE B w k m v u n d)
    (lo : Option Addr) (ln lc : Nat) (ld : Nat → Int) (hl : OutE B w (.slice lo ln lc) ln ld) (wo : Option Addr) (wc : Nat) (hw : Rd B w wo ln wc ld) (hn : ln ≤ 100000) (hB : B ≤ w.heap.size)
    (hap : ∀ i, i < m → ∀ g, (ownE (v i)) = some g → ownE (.slice lo ln lc) ≠ some g) :
    Calls Tryz.prog 40 #[.pointer (some ⟨k, 0, none⟩), .slice lo ln lc, .slice wo ln wc] w fun e w' => e = .returned (.bool true) ∧ Ik B w w' ∧
      ((m < 400 ∧ ∃ c, (∀ g, c.ownBlock = some g → w.heap.size ≤ g) ∧ KpE B w' k (m + 1) (updV v m (.slice lo ln lc)) (updV u m c) (updV n m ln) (updV d m ld)) ∨ KpE B w' k m v u n d) := by
  have HK : Hid (KpE B w k m v u n d) := h
  have HA : Hid (∀ i, i < m → ∀ g, (ownE (v i)) = some g → ownE (.slice lo ln lc) ≠ some g) := hap
  clear hap
  obtain ⟨x, y, hk, hx, hy, hxy⟩ := h.blk
  have HX : Hid (KX B w k x y m v m u) := ⟨hk, hx, hy, hxy, h.ge⟩
  obtain ⟨xo, xc, rfl, hxl, hxm, hxs⟩ := hx.shape
  obtain ⟨yo, yc, rfl, hyl, hym, hys⟩ := hy.shape
  obtain ⟨ck0, ck1, fk0, fk1⟩ := keep_at hk
  have HL : Hid (OutE B w (.slice lo ln lc) ln ld) := hl
  have HW : Hid (Rd B w wo ln wc ld) := hw
  clear hk hxs hys hx hy hl hw h hxy
  by_cases h4 : m < 400
  · go_enter Tryz.func40, Tryz.ntmps40
    go_wp2_with (first
      | (at_builtin
         refine wpList_appV rfl _ _ rfl B _ m v rfl (HX.out.ox.alloc _) _ _ rfl (cell_one _ _ _ rfl) rfl (by omega) (by simp; omega) ?_
         intro x' w2 hX2 hg2 hat2
         obtain ⟨xo2, xc2, rfl, _, _, _⟩ := hX2.shape
         obtain ⟨hk2, HS2, hik2⟩ := (HX.out.keeps (bel_alloc _ _)).stepX (by simp; omega) hg2 hX2 hat2
         obtain ⟨ck20, ck21, fk20, fk21⟩ := keep_at hk2))
    replace hik2 := ((Ik.refl B w).alloc hB _).trans hik2
    clear ck0 ck1 fk0 fk1 hk2 hX2 hg2 hat2 fk20 fk21 ck20 ck21
    generalize w2.setCell ⟨k, 0, none⟩ (.slice xo2 (m + 1) xc2) = w3 at HS2 hik2 ⊢
    obtain ⟨ck0, ck1, fk0, fk1⟩ := keep_at HS2.blk
    have HS3 : Hid (KX B w3 k (.slice xo2 (m + 1) xc2) (.slice yo m yc) (m + 1) (updV v m (.slice lo ln lc)) m u) := HS2
    have HI3 : Hid (Ik B w w3) := hik2
    clear HS2 hik2
    obtain ⟨_, _, e1, r1⟩ := (HL.out.ik HI3.out).row
    have r2 := (HW.out.ik HI3.out).row
    simp only [Value.slice.injEq] at e1
    obtain ⟨rfl, _, rfl⟩ := e1
    have hB3 : B ≤ w3.heap.size := Nat.le_trans hB HI3.out.below.size
    go_region_law (first
        | ((have _t := ck4; refine step_appV (by rfl) _ _ (by rfl) B _ m u (by rfl) ((HX4.out.keeps (bel_alloc _ _)).oy) w4.heap.size (.slice co ln cc) (by rfl) (cell_one _ _ _ rfl) rfl (by omega) (by simp; omega) ?_; intro y' w6 hY6 hg6 hat6; obtain ⟨yo6, yc6, rfl, _, _, _⟩ := hY6.shape; obtain ⟨hk6, hx6, hik6⟩ := (HX4.out.keeps (bel_alloc _ _)).stepY (by simp; omega) hg6 hY6 hat6; obtain ⟨ck60, ck61, fk60, fk61⟩ := keep_at hk6))
        | ((refine step_app (by rfl) _ _ (by rfl) w3.heap.size _ 0 (fun _ => 0) (by rfl) (Out.nil _ _ _) wo ln wc ld (by rfl) (r2.keeps (bel_refl _).drew) (by omega) (Nat.le_refl _) ?_; intro c w4 hO4' hg4 _; have hO4 := hO4'.lower hB3; have hb4 := bel_trans (bel_refl w3).drew (grown_below hg4); have HX4 : Hid (KX B w4 k (.slice xo2 (m + 1) xc2) (.slice yo m yc) (m + 1) (updV v m (.slice lo ln lc)) m u) := HS3.out.keeps hb4; have ck4 := (keep_at HX4.out.blk).2.1; rw [Nat.zero_add] at hO4; have hB4 := Nat.le_trans hB3 hb4.size; obtain ⟨co, cc, rfl, rc⟩ := hO4.row; have HN4 : Hid (∀ g, (Value.slice co ln cc).ownBlock = some g → w3.heap.size ≤ g) := own_ge hO4'; have HB4 : Hid (Below w3.heap.size w3 w4) := hb4; have HO4 : Hid (Out B w4 (.slice co ln cc) ln (cat (fun _ => 0) 0 ld)) := hO4; have ck4a := (keep_at (HX4.out.keeps (bel_alloc _ (.cells #[.slice co ln cc] 22))).blk).2.1; clear hb4 hO4 hg4 hO4')))
    all_goals
      have hi7 := ((Ik.of HB4.out hB3).alloc hB4 _).trans hik6
      have hiw := HI3.out.trans hi7
      have kp := KpE.more HK.out hiw hx6 HL.out (((HO4.out.ik ((Ik.refl B w4).alloc hB4 _)).ik hik6).congr fun i hi => by simp [cat]) hn HA.out
      have HKP : Hid (KpE B (w6.setCell ⟨k, 1, none⟩ (.slice yo6 (m + 1) yc6)) k (m + 1) (updV v m (.slice lo ln lc)) (updV u m (.slice co ln cc)) (updV n m ln) (updV d m ld)) := kp
      have HIW : Hid (Ik B w (w6.setCell ⟨k, 1, none⟩ (.slice yo6 (m + 1) yc6))) := hiw
      obtain ⟨_, _, e1, s1⟩ := (HL.out.ik hiw).row
      have s2 := (HW.out.ik hiw).row
      simp only [Value.slice.injEq] at e1
      obtain ⟨rfl, _, rfl⟩ := e1
      clear kp hiw hi7 hx6 hik6 hk6 ck60 ck61 fk60 fk61 hY6 hg6 hat6 ck4 ck4a ck0 ck1 fk0 fk1
      generalize w6.setCell ⟨k, 1, none⟩ (.slice yo6 (m + 1) yc6) = w7 at HKP HIW s1 s2 ⊢
      go_wp2_with fail
      refine (same_any lo wo ln ln lc wc ld ld _ s1 s2).mono ?_
      rintro e w8 ⟨rfl, hb8⟩
      go_wp2
      go_ret
      exact ⟨ret_bool (decide_eq_true ⟨rfl, fun _ _ => rfl⟩), HIW.out.trans (Ik.of hb8 (Nat.le_trans hB HIW.out.below.size)), .inl ⟨h4, _, fun g hg => Nat.le_trans HI3.out.below.size (HN4.out g hg), HKP.out.keeps hb8⟩⟩
  · go_enter Tryz.func40, Tryz.ntmps40
    go_wp2_with fail
    obtain ⟨_, _, e1, r1⟩ := HL.out.row
    have r2 := HW.out.row
    simp only [Value.slice.injEq] at e1
    obtain ⟨rfl, _, rfl⟩ := e1
    refine (same_any lo wo ln ln lc wc ld ld w r1 r2).mono ?_
    rintro e w' ⟨rfl, hb⟩
    go_wp2
    go_ret
    exact ⟨ret_bool (decide_eq_true ⟨rfl, fun _ _ => rfl⟩), Ik.of hb hB, .inr (HK.out.keeps hb)⟩
/-- What is kept: all its answers and copies lie in blocks of S. -/
def KeptE (B : Nat) (w : World) (k : Nat) (S : Nat → Prop) : Prop :=
  ∃ m v u n d, m ≤ 400 ∧ KpE B w k m v u n d ∧ (∀ i, i < m → ∀ g, ownE (v i) = some g → S g) ∧ (∀ i, i < m → ∀ g, (u i).ownBlock = some g → S g)
theorem KeptE.keeps {B : Nat} {w w' : World} {k : Nat} {S : Nat → Prop} (h : KeptE B w k S) (hb : Below w.heap.size w w') : KeptE B w' k S := by
  obtain ⟨m, v, u, n, d, hm, hk, h1, h2⟩ := h
  exact ⟨m, v, u, n, d, hm, hk.keeps hb, h1, h2⟩
theorem KeptE.mono {B : Nat} {w : World} {k : Nat} {S S' : Nat → Prop} (h : KeptE B w k S) (hS : ∀ g, S g → S' g) : KeptE B w k S' := by
  obtain ⟨m, v, u, n, d, hm, hk, h1, h2⟩ := h
  exact ⟨m, v, u, n, d, hm, hk, fun i hi g hg => hS g (h1 i hi g hg), fun i hi g hg => hS g (h2 i hi g hg)⟩
theorem KeptE.old {B : Nat} {w : World} {k : Nat} {S : Nat → Prop} (h : KeptE B w k S) : KeptE B w k (fun g => g < w.heap.size) := by
  obtain ⟨m, v, u, n, d, hm, hk, h1, h2⟩ := h
  exact ⟨m, v, u, n, d, hm, hk, fun i hi g hg => ((hk.ans i hi).ge hg).2, fun i hi g hg => ((hk.was i hi).ge hg).2⟩
theorem KeptE.lt {B : Nat} {w : World} {k : Nat} {S : Nat → Prop} (h : KeptE B w k S) : k < w.heap.size := by
  obtain ⟨m, v, u, n, d, hm, ⟨⟨x, y, hk, _⟩, _⟩, h1, h2⟩ := h
  exact (Array.getElem?_eq_some_iff.1 hk).1
theorem KeptE.wr {B : Nat} {w w' : World} {k g : Nat} {S : Nat → Prop} (h : KeptE B w k S) (hw : Wr g w w') (hS : ¬ S g) {cur : Array Value} {z : Nat × Nat} (ht : w.heap[g]? = some (.cells cur 3 z)) : KeptE B w' k S := by
  obtain ⟨m, v, u, n, d, hm, ⟨⟨x, y, hk, hx, hy, hxy⟩, hge, hans, hwas, hlen, hapart⟩, h1, h2⟩ := h
  refine ⟨m, v, u, n, d, hm, ⟨⟨x, y, (hw.block k (Array.getElem?_eq_some_iff.1 hk).1 fun e => ?_).trans hk, hx.of_block fun g' hg => hw.block g' (hx.ge hg).2 fun e => ?_, hy.of_block fun g' hg => hw.block g' (hy.ge hg).2 fun e => ?_, hxy⟩, hge, fun i hi => (hans i hi).of_block fun g' hg => hw.block g' ((hans i hi).ge hg).2 fun e => hS (e ▸ h1 i hi g' hg), fun i hi => (hwas i hi).of_block fun g' hg => hw.block g' ((hwas i hi).ge hg).2 fun e => hS (e ▸ h2 i hi g' hg), hlen, hapart⟩, h1, h2⟩
  · subst e; rw [ht] at hk; simp at hk
  · subst e; obtain ⟨c', z', hc⟩ := hx.typed hg; rw [ht] at hc; simp at hc
  · subst e; obtain ⟨c', z', hc⟩ := hy.typed hg; rw [ht] at hc; simp at hc
/-- The blocks behind an Add. -/
def S2E (S : Nat → Prop) (l : Value) (s : Nat) : Nat → Prop := fun g => S g ∨ ownE l = some g ∨ s ≤ g
theorem keep_E {B k : Nat} {w : World} {S : Nat → Prop} {l : Value} {xo : Option Addr} {t xc : Nat} {ld : Nat → Int} (h : KeptE B w k S) (hl : OutE B w l t ld) (hx : Rd B w xo t xc ld) (ht : t ≤ 100000) (hB : B ≤ w.heap.size) (hap : ∀ g, ownE l = some g → ¬ S g) :
    Calls Tryz.prog 40 #[.pointer (some ⟨k, 0, none⟩), l, .slice xo t xc] w fun e w' => e = .returned (.bool true) ∧ Ik B w w' ∧ KeptE B w' k (S2E S l w.heap.size) := by
  obtain ⟨m, v, u, n, d, hm, hk, h1, h2⟩ := h
  obtain ⟨lo, lc, rfl, hR⟩ := hl.row
  refine (keepAddE_any B k m v u n d w hk lo t lc ld hl xo xc hx ht hB (fun i hi g hg hg' => hap g hg' (h1 i hi g hg))).mono ?_
  rintro e w' ⟨rfl, hi, hc⟩
  refine ⟨rfl, hi, ?_⟩
  rcases hc with ⟨h4, c, hn, hk'⟩ | hk'
  · refine ⟨m + 1, _, _, _, _, h4, hk', fun i hi' g hg => ?_, fun i hi' g hg => ?_⟩
    · by_cases e : i = m
      · subst e; rw [updV_same] at hg; exact .inr (.inl hg)
      · rw [updV_other _ _ e] at hg; exact .inl (h1 i (by omega) g hg)
    · by_cases e : i = m
      · subst e; rw [updV_same] at hg; exact .inr (.inr (hn g hg))
      · rw [updV_other _ _ e] at hg; exact .inl (h2 i (by omega) g hg)
  · exact ⟨m, v, u, n, d, hm, hk', fun i hi' g hg => .inl (h1 i hi' g hg), fun i hi' g hg => .inl (h2 i hi' g hg)⟩
end Go.Proofs.YtjlmpgbadgkgmaaGreatDoor
