/-
  Parts of the proof, one behind another.
-/
import Derived.Test.YtnhkagiionkjaaaGreatDoorPart3
import Derived.Test.YtnhkagiionkjaaaGreatDoorPart1
import Derived.Test.YtnhkagiionkjaaaGreatDoorPart2
import Derived.Deep.Cut
import Derived.BigRegion
/-
  The document's own answers (plumbref2): fits, Answer, From, Cmp, Sub, Mul, by contracts over the same values.
-/
namespace Go.Proofs.YtnhkagiionkjaaaGreatDoor
open Go Go.RowKit Go.Proofs.YtnhkagiionkjaaaGreatDoor.M
set_option linter.unusedSimpArgs false
set_option linter.unusedVariables false

theorem rtrim_out {B : Nat} {w : World} {v : Value} {n : Nat} {d : Nat → Int} (h : Out B w v n d) :
    Calls Tryz.prog 108 #[v] w fun e w' => ∃ v', e = .returned v' ∧ ∃ t, t ≤ n ∧ Top d t ∧ (∀ i, t ≤ i → i < n → d i = 0) ∧ Out B w v' t d ∧ w' = w := by
  have h0 := h
  rcases h.2 with ⟨rfl, rfl⟩ | ⟨g, cap, cur, rfl, hb, hg, hn, hm, hs, ht⟩
  · go_enter Tryz.func108, Tryz.ntmps108
    go_wp2
    go_loop [3] (fun i => i = .int .i64 0) (fun i => 0)
    case atStart => rfl
    case round =>
      subst hrel
      go_wp2
      go_ret
      exact ⟨_, rfl, .inl rfl, Out.nil _ _ _, rfl⟩
  · obtain ⟨ao, c, e, hR⟩ := h0.row
    simp only [Value.slice.injEq] at e
    obtain ⟨rfl, _, rfl⟩ := e
    refine (rtrim_any g n cap d w hR).mono ?_
    rintro e w' ⟨t, h1, h2, h3, rfl, rfl⟩
    exact ⟨_, rfl, t, h1, h2, h3, h0.cut h1, rfl⟩
theorem rtrim_ans {w0 w : World} {v : Value} {n : Nat} {d : Nat → Int} (h : Out w0.heap.size w v n d) (hd : Dig d n) (hb : Below w0.heap.size w0 w) :
    Calls Tryz.prog 108 #[v] w fun e w' => ∃ v', e = .returned v' ∧ Ans w0 w (val d n) v' ∧ w' = w := by
  refine (rtrim_out h).mono ?_
  rintro e w' ⟨v', rfl, t, ht, htop, hz, hO, rfl⟩
  obtain ⟨hN, hv⟩ := nrm_of_top hd ht htop hz
  exact ⟨v', rfl, ⟨t, d, hO, hN, hv, hb⟩, rfl⟩
set_option maxHeartbeats 1000000 in
theorem rcmp_any (ao bo : Option Addr) (n m ca cb : Nat) (a b : Nat → Int) (w : World) (ha : Row w ao n ca a) (hb : Row w bo m cb b) (na : Nrm a n) (nb : Nrm b m) :
    Calls Tryz.prog 80 #[.slice ao n ca, .slice bo m cb] w fun e w' => e = .returned (.int .i64 (ord (val a n) (val b m))) ∧ Below w.heap.size w w' := by
  have hla := ha.le
  have hma := ha.max
  have hlb := hb.le
  have hmb := hb.max
  by_cases hnm : n = m
  · subst hnm
    go_enter Tryz.func80, Tryz.ntmps80
    go_wp2
    go_loopw [5] (fun i wr => ∃ k : Nat, k ≤ n ∧ i = .int .i64 ((k : Int) - 1) ∧ Hid (∀ i, k ≤ i → i < n → a i = b i) ∧ Below w.heap.size w wr) (fun i _ => (intOf i + 1).toNat)
    case atStart => exact ⟨n, Nat.le_refl _, rfl, fun i _ _ => by omega, bel_refl _⟩
    case round =>
      obtain ⟨k, hk, rfl, HS, hbw⟩ := hrel
      by_cases hlt : 0 < k
      · obtain ⟨j, rfl⟩ : ∃ j, k = j + 1 := ⟨k - 1, by omega⟩
        have ej : ((j + 1 : Nat) : Int) - 1 = j := by omega
        obtain ⟨ba, fa, rfl, hba, hca⟩ := ha.spot (by omega)
        obtain ⟨bb, fb, rfl, hbb, hcb⟩ := hb.spot (by omega)
        have c1 := (hbw.cell (p := ⟨ba, fa + j, none⟩) hba).trans (hca j (by omega))
        have c2 := (hbw.cell (p := ⟨bb, fb + j, none⟩) hbb).trans (hcb j (by omega))
        rw [ej]
        by_cases h1 : a j < b j
        · go_wp2
          go_quiet (fail)
          go_wp2
          go_ret
          exact ⟨ret_int ((ord_lt h1).symm.trans (ord_top na.1 nb.1 (show j < n by omega) (fun i x y => HS.out i (by omega) y) (by omega))), bDrewN hbw _⟩
        · by_cases h2 : b j < a j
          · go_wp2
            go_quiet (fail)
            go_wp2
            go_quiet (fail)
            go_wp2
            go_ret
            exact ⟨ret_int ((ord_gt h2).symm.trans (ord_top na.1 nb.1 (show j < n by omega) (fun i x y => HS.out i (by omega) y) (by omega))), bDrewN (bDrewN hbw _) _⟩
          · go_wp2
            go_quiet (fail)
            go_wp2
            go_quiet (fail)
            go_wp2
            go_roundw
            case rel => exact ⟨j, by omega, by go_num, fun i x y => by by_cases e : i = j; (· rw [e]; omega); (· exact HS.out i (by omega) y), bDrewN hbw _⟩
            case measure => simp [intOf]; try omega
      · obtain rfl : k = 0 := by omega
        go_wp2
        go_ret
        exact ⟨ret_int (ord_eq (val_congr fun i hi => HS.out i (by omega) hi)).symm, hbw⟩
  · by_cases hlt : n < m
    · go_enter Tryz.func80, Tryz.ntmps80
      go_wp2
      go_ret
      exact ⟨ret_int (ord_lt (nrm_lt na.1 nb hlt)).symm, bel_refl _⟩
    · go_enter Tryz.func80, Tryz.ntmps80
      go_wp2
      go_ret
      exact ⟨ret_int (ord_gt (nrm_lt nb.1 na (by omega))).symm, bel_refl _⟩
set_option maxHeartbeats 2000000 in
theorem rsub_any (ao bo : Option Addr) (n m ca cb : Nat) (a b : Nat → Int) (w : World) (ha : Row w ao n ca a) (hb : Row w bo m cb b) (na : Nrm a n) (nb : Nrm b m) (hn : n ≤ 100000) (hle : val b m ≤ val a n) :
    Calls Tryz.prog 81 #[.slice ao n ca, .slice bo m cb] w fun e w' => ∃ v, e = .returned v ∧ Ans w w' (val a n - val b m) v := by
  have hla := ha.le
  have hma := ha.max
  have hlb := hb.le
  have hmb := hb.max
  have da := na.1
  have db := nb.1
  have hmn : m ≤ n := nrm_le_len nb da hle
  have HLE : Hid (val b m ≤ val a n) := hle
  clear hle
  go_enter Tryz.func81, Tryz.ntmps81
  go_wp2
  go_loopw [5, 6, 7] (fun l c i wr => ∃ (k : Nat) (q : Int) (r : Nat → Int), k ≤ n ∧ i = .int .i64 k ∧ c = .int .i64 q ∧ 0 ≤ q ∧ q ≤ 1 ∧ Out w.heap.size wr l k r ∧ Dig r k ∧ Hid (val r k - q * P k = val (ext a n) k - val (ext b m) k) ∧ Below w.heap.size w wr) (fun _ _ i _ => n - (intOf i).toNat)
  case atStart => exact ⟨0, 0, fun _ => 0, Nat.zero_le _, rfl, rfl, by omega, by omega, Out.nil _ _ _, fun i hi => by omega, by show _ = _; rfl, bel_refl _⟩
  case round =>
    obtain ⟨k, q, r, hk, rfl, rfl, hq0, hq1, hO, hD, HV, hbw⟩ := hrel
    by_cases hkn : k < n
    · obtain ⟨ba, fa, rfl, hba, hca⟩ := ha.spot (by omega)
      have c1 := (hbw.cell (p := ⟨ba, fa + k, none⟩) hba).trans (hca k hkn)
      have dk := da k hkn
      by_cases hkm : k < m
      · obtain ⟨bb, fb, rfl, hbb, hcb⟩ := hb.spot (by omega)
        have c2 := (hbw.cell (p := ⟨bb, fb + k, none⟩) hbb).trans (hcb k hkm)
        have dbk := db k hkm
        have HX : Hid (-q + (ext a n k - ext b m k) = a k - q - b k) := by show _ = _; rw [ext_lt a hkn, ext_lt b hkm]; omega
        by_cases hneg : a k - q - b k < 0
        · go_wp2_with (at_builtin; refine wpList_app rfl _ _ rfl w.heap.size _ k r rfl (hO.stays (bel_alloc _ _)) _ 1 1 (fun _ => (a k - q - b k + 1073741824)) rfl (row1 _ _ rfl) (by omega) (by have := hbw.size; simp; omega) ?_; intro v' w1 hO1 hg1)
          have hb1 : Below w.heap.size w w1 := (hbw.alloc hbw.size _).grown hg1 (by have := hbw.size; simp; omega) (own_ge hO)
          have hs := sum_step (c := -q) (x := ext a n k - ext b m k) (r := r) (k := k) (V := val (ext a n) k - val (ext b m) k) (by have := HV.out; rw [Int.neg_mul]; omega)
          rw [show -q + (ext a n k - ext b m k) = a k - q - b k from HX.out, show (a k - q - b k) % 1073741824 = (a k - q - b k + 1073741824) by omega, show (a k - q - b k) / 1073741824 = -1 by omega] at hs
          go_roundw
          case rel => exact ⟨k + 1, 1, upd r k (a k - q - b k + 1073741824), by omega, by go_num, rfl, by omega, by omega, hO1.congr (cat_upd r k _), dig_upd2 hD (by omega), by show _ = _; rw [val_succ (ext a n), val_succ (ext b m)]; rw [Int.sub_mul] at hs; omega, hb1⟩
          case measure => simp [intOf]; omega
        · go_wp2_with (at_builtin; refine wpList_app rfl _ _ rfl w.heap.size _ k r rfl (hO.stays (bel_alloc _ _)) _ 1 1 (fun _ => (a k - q - b k)) rfl (row1 _ _ rfl) (by omega) (by have := hbw.size; simp; omega) ?_; intro v' w1 hO1 hg1)
          have hb1 : Below w.heap.size w w1 := (hbw.alloc hbw.size _).grown hg1 (by have := hbw.size; simp; omega) (own_ge hO)
          have hs := sum_step (c := -q) (x := ext a n k - ext b m k) (r := r) (k := k) (V := val (ext a n) k - val (ext b m) k) (by have := HV.out; rw [Int.neg_mul]; omega)
          rw [show -q + (ext a n k - ext b m k) = a k - q - b k from HX.out, show (a k - q - b k) % 1073741824 = (a k - q - b k) by omega, show (a k - q - b k) / 1073741824 = -0 by omega] at hs
          go_roundw
          case rel => exact ⟨k + 1, 0, upd r k (a k - q - b k), by omega, by go_num, rfl, by omega, by omega, hO1.congr (cat_upd r k _), dig_upd2 hD (by omega), by show _ = _; rw [val_succ (ext a n), val_succ (ext b m)]; rw [Int.sub_mul] at hs; omega, hb1⟩
          case measure => simp [intOf]; omega
      · have HX : Hid (-q + (ext a n k - ext b m k) = a k - q) := by show _ = _; rw [ext_lt a hkn, ext_ge b (by omega)]; omega
        by_cases hneg : a k - q < 0
        · go_wp2_with (at_builtin; refine wpList_app rfl _ _ rfl w.heap.size _ k r rfl (hO.stays (bel_alloc _ _)) _ 1 1 (fun _ => (a k - q + 1073741824)) rfl (row1 _ _ rfl) (by omega) (by have := hbw.size; simp; omega) ?_; intro v' w1 hO1 hg1)
          have hb1 : Below w.heap.size w w1 := (hbw.alloc hbw.size _).grown hg1 (by have := hbw.size; simp; omega) (own_ge hO)
          have hs := sum_step (c := -q) (x := ext a n k - ext b m k) (r := r) (k := k) (V := val (ext a n) k - val (ext b m) k) (by have := HV.out; rw [Int.neg_mul]; omega)
          rw [show -q + (ext a n k - ext b m k) = a k - q from HX.out, show (a k - q) % 1073741824 = (a k - q + 1073741824) by omega, show (a k - q) / 1073741824 = -1 by omega] at hs
          go_roundw
          case rel => exact ⟨k + 1, 1, upd r k (a k - q + 1073741824), by omega, by go_num, rfl, by omega, by omega, hO1.congr (cat_upd r k _), dig_upd2 hD (by omega), by show _ = _; rw [val_succ (ext a n), val_succ (ext b m)]; rw [Int.sub_mul] at hs; omega, hb1⟩
          case measure => simp [intOf]; omega
        · go_wp2_with (at_builtin; refine wpList_app rfl _ _ rfl w.heap.size _ k r rfl (hO.stays (bel_alloc _ _)) _ 1 1 (fun _ => (a k - q)) rfl (row1 _ _ rfl) (by omega) (by have := hbw.size; simp; omega) ?_; intro v' w1 hO1 hg1)
          have hb1 : Below w.heap.size w w1 := (hbw.alloc hbw.size _).grown hg1 (by have := hbw.size; simp; omega) (own_ge hO)
          have hs := sum_step (c := -q) (x := ext a n k - ext b m k) (r := r) (k := k) (V := val (ext a n) k - val (ext b m) k) (by have := HV.out; rw [Int.neg_mul]; omega)
          rw [show -q + (ext a n k - ext b m k) = a k - q from HX.out, show (a k - q) % 1073741824 = (a k - q) by omega, show (a k - q) / 1073741824 = -0 by omega] at hs
          go_roundw
          case rel => exact ⟨k + 1, 0, upd r k (a k - q), by omega, by go_num, rfl, by omega, by omega, hO1.congr (cat_upd r k _), dig_upd2 hD (by omega), by show _ = _; rw [val_succ (ext a n), val_succ (ext b m)]; rw [Int.sub_mul] at hs; omega, hb1⟩
          case measure => simp [intOf]; omega
    · obtain rfl : k = n := by omega
      have HD : Hid (Dig r k ∧ val r k = val a k - val b m) := by
        refine ⟨hD, ?_⟩
        have h1 := HV.out
        rw [val_ext a (Nat.le_refl _), val_ext b hmn] at h1
        have h2 := val_lt hD
        have h3 := HLE.out
        have hp := P_pos k
        rcases (show q = 0 ∨ q = 1 by omega) with e | e
        · subst e; omega
        · subst e; omega
      go_wp2_with (go_at_call 108; refine (rtrim_ans hO hD hbw).mono ?_; rintro e w3 ⟨v', rfl, hA, rfl⟩)
      go_ret
      exact ⟨_, rfl, by rw [← HD.out.2]; exact hA⟩
set_option maxHeartbeats 2000000 in
theorem rmul_any (ao bo : Option Addr) (n m ca cb : Nat) (a b : Nat → Int) (w : World) (ha : Row w ao n ca a) (hb : Row w bo m cb b) (na : Nrm a n) (nb : Nrm b m) (hn : n ≤ 100000) (hm : m ≤ 100000) :
    Calls Tryz.prog 82 #[.slice ao n ca, .slice bo m cb] w fun e w' => ∃ v, e = .returned v ∧ Ans w w' (val a n * val b m) v := by
  have hla := ha.le
  have hma := ha.max
  have hlb := hb.le
  have hmb := hb.max
  have da := na.1
  have db := nb.1
  by_cases hn0 : n = 0
  · subst hn0
    go_enter Tryz.func82, Tryz.ntmps82
    go_wp2
    go_ret
    exact ⟨_, rfl, by rw [show val a 0 * val b m = 0 from Int.zero_mul _]; exact Ans.nil (bel_refl _)⟩
  · by_cases hm0 : m = 0
    · subst hm0
      go_enter Tryz.func82, Tryz.ntmps82
      go_wp2
      go_ret
      exact ⟨_, rfl, by rw [show val a n * val b 0 = 0 from Int.mul_zero _]; exact Ans.nil (bel_refl _)⟩
    · have e1 : ((n : Int) == 0) = false := by simp; omega
      have e2 : ((m : Int) == 0) = false := by simp; omega
      go_enter Tryz.func82, Tryz.ntmps82
      go_wp2_with (at_make; refine wpList_mk rfl _ _ rfl _ _ (n + m) rfl rfl (by omega) (by omega) (by omega) ?_; intro w1 hB1 hb1)
      go_loopw [6] (fun i wr => ∃ (k : Nat) (r : Nat → Int), k ≤ n ∧ i = .int .i64 k ∧ Blk wr w.heap.size (n + m) r ∧ Dig r (n + m) ∧ Hid (∀ t, k + m ≤ t → r t = 0) ∧ Hid (val r (k + m) = val a k * val b m) ∧ Below w.heap.size w wr) (fun i _ => n - (intOf i).toNat)
      case atStart => exact ⟨0, fun _ => 0, Nat.zero_le _, rfl, hB1, zero_dig _, fun _ _ => rfl, by show _ = _; rw [val_zeros (Nat.zero_le (0 + m)) (fun _ _ _ => rfl)]; show 0 = 0 * val b m; omega, hb1⟩
      case round =>
        obtain ⟨i, r0, hi, rfl, hB0, hD0, HZ0, HV0, hbw0⟩ := hrel
        by_cases hlt : i < n
        · obtain ⟨ba, fa, rfl, hba, hca⟩ := ha.spot (by omega)
          have dai := da i hlt
          go_wp2
          go_loopw [7, 8] (fun c j wr => ∃ (k : Nat) (q : Int) (r : Nat → Int), k ≤ m ∧ j = .int .i64 k ∧ c = .int .i64 q ∧ 0 ≤ q ∧ q < 1073741824 ∧ Blk wr w.heap.size (n + m) r ∧ Dig r (n + m) ∧ Hid (∀ t, i + k ≤ t → r t = r0 t) ∧ Hid (val r (i + k) + q * P (i + k) = val r0 (i + k) + a i * val b k * P i) ∧ Below w.heap.size w wr) (fun _ j _ => m - (intOf j).toNat)
          case atStart => exact ⟨0, 0, r0, Nat.zero_le _, rfl, rfl, by omega, by omega, hB0, hD0, fun _ _ => rfl, by show _ = _; show val r0 i + 0 * P i = val r0 i + a i * 0 * P i; grind, hbw0⟩
          case round =>
            obtain ⟨k, q, r, hk, rfl, rfl, hq0, hq1, hB, hD, HS, HV, hbw⟩ := hrel
            have c1 := (hbw.cell (p := ⟨ba, fa + i, none⟩) hba).trans (hca i hlt)
            by_cases hkm : k < m
            · obtain ⟨bb, fb, rfl, hbb, hcb⟩ := hb.spot (by omega)
              have c2 := (hbw.cell (p := ⟨bb, fb + k, none⟩) hbb).trans (hcb k hkm)
              have c3 := hB.cell (show i + k < n + m by omega)
              have fg := hB.frozen (i + k)
              have drk := hD (i + k) (by omega)
              have hmul := dig_mul dai (db k hkm)
              go_wp2
              go_quiet (fail)
              go_wp2
              have hs := mul_step (b := b) (j := k) HV.out (HS.out (i + k) (Nat.le_refl _))
              rw [show q + (a i * b k + r (i + k)) = r (i + k) + a i * b k + q by omega] at hs
              go_roundw
              case rel => exact ⟨k + 1, (r (i + k) + a i * b k + q) / 1073741824, upd r (i + k) ((r (i + k) + a i * b k + q) % 1073741824), by omega, by go_num, rfl, by omega, by omega, hB.store (i + k) _, hD.upd _ (mod_dig _), fun t ht => by rw [upd_other r _ (by omega)]; exact HS.out t (by omega), hs, (bDrewN hbw _).setCell (Nat.le_refl _) _⟩
              case measure => simp [intOf]; omega
            · obtain rfl : k = m := by omega
              have c3 := hB.cell (show i + k < n + k by omega)
              have fg := hB.frozen (i + k)
              go_wp2
              have hr := mul_row HV.out HV0.out
              go_roundw
              case rel => exact ⟨i + 1, upd r (i + k) q, by omega, by go_num, hB.store (i + k) _, hD.upd _ ⟨hq0, hq1⟩, fun t ht => by rw [upd_other r _ (by omega), HS.out t (by omega)]; exact HZ0.out t (by omega), by show _ = _; rw [hr, val_succ], hbw.setCell (Nat.le_refl _) _⟩
              case measure => simp [intOf]; omega
        · obtain rfl : i = n := by omega
          go_wp2_with (go_at_call 108; refine (rtrim_ans (hB0.out (Nat.le_refl _) (Nat.le_refl _) (by omega)) hD0 hbw0).mono ?_; rintro e w3 ⟨v', rfl, hA, rfl⟩)
          go_ret
          exact ⟨_, rfl, by rw [← HV0.out]; exact hA⟩
end Go.Proofs.YtnhkagiionkjaaaGreatDoor

/-
  What is kept, with the blocks it lies in (Kept); Keep.Add and answer of a number (An); Lent and Back.
-/
namespace Go.Proofs.YtnhkagiionkjaaaGreatDoor
open Go Go.RowKit Go.Proofs.YtnhkagiionkjaaaGreatDoor.M
set_option linter.unusedSimpArgs false
set_option linter.unusedVariables false

/-- What is kept: all its answers and copies lie in blocks of S. -/
def Kept (B : Nat) (w : World) (k : Nat) (S : Nat → Prop) : Prop :=
  ∃ m v u n d, m ≤ 400 ∧ Kp B w k m v u n d ∧ (∀ i, i < m → ∀ g, (v i).ownBlock = some g → S g) ∧ (∀ i, i < m → ∀ g, (u i).ownBlock = some g → S g)
theorem Kept.keeps {B : Nat} {w w' : World} {k : Nat} {S : Nat → Prop} (h : Kept B w k S) (hb : Below w.heap.size w w') : Kept B w' k S := by
  obtain ⟨m, v, u, n, d, hm, hk, h1, h2⟩ := h
  exact ⟨m, v, u, n, d, hm, hk.keeps hb, h1, h2⟩
theorem Kept.mono {B : Nat} {w : World} {k : Nat} {S S' : Nat → Prop} (h : Kept B w k S) (hS : ∀ g, S g → S' g) : Kept B w k S' := by
  obtain ⟨m, v, u, n, d, hm, hk, h1, h2⟩ := h
  exact ⟨m, v, u, n, d, hm, hk, fun i hi g hg => hS g (h1 i hi g hg), fun i hi g hg => hS g (h2 i hi g hg)⟩
theorem Kept.old {B : Nat} {w : World} {k : Nat} {S : Nat → Prop} (h : Kept B w k S) : Kept B w k (fun g => g < w.heap.size) := by
  obtain ⟨m, v, u, n, d, hm, hk, h1, h2⟩ := h
  exact ⟨m, v, u, n, d, hm, hk, fun i hi g hg => ((hk.ans i hi).ge hg).2, fun i hi g hg => ((hk.was i hi).ge hg).2⟩
theorem Kept.wr {B : Nat} {w w' : World} {k g : Nat} {S : Nat → Prop} (h : Kept B w k S) (hw : Wr g w w') (hS : ¬ S g) {cur : Array Value} {z : Nat × Nat} (ht : w.heap[g]? = some (.cells cur 3 z)) : Kept B w' k S := by
  obtain ⟨m, v, u, n, d, hm, ⟨⟨x, y, hk, hx, hy, hxy⟩, hge, hans, hwas, hlen, hapart⟩, h1, h2⟩ := h
  refine ⟨m, v, u, n, d, hm, ⟨⟨x, y, (hw.block k (Array.getElem?_eq_some_iff.1 hk).1 fun e => ?_).trans hk, hx.of_block fun g' hg => hw.block g' (hx.ge hg).2 fun e => ?_, hy.of_block fun g' hg => hw.block g' (hy.ge hg).2 fun e => ?_, hxy⟩, hge, fun i hi => (hans i hi).of_block fun g' hg => hw.block g' ((hans i hi).ge hg).2 fun e => hS (e ▸ h1 i hi g' hg), fun i hi => (hwas i hi).of_block fun g' hg => hw.block g' ((hwas i hi).ge hg).2 fun e => hS (e ▸ h2 i hi g' hg), hlen, hapart⟩, h1, h2⟩
  · subst e; rw [ht] at hk; simp at hk
  · subst e; obtain ⟨c', z', hc⟩ := hx.typed hg; rw [ht] at hc; simp at hc
  · subst e; obtain ⟨c', z', hc⟩ := hy.typed hg; rw [ht] at hc; simp at hc
/-- A number's list, from B on. -/
def An (B : Nat) (w : World) (v : Value) (V : Int) : Prop := ∃ t d, Out B w v t d ∧ Nrm d t ∧ val d t = V
theorem An.ik {B B' : Nat} {w w' : World} {v : Value} {V : Int} (h : An B w v V) (k : Ik B' w w') : An B w' v V := by
  obtain ⟨t, d, h1, h2⟩ := h
  exact ⟨t, d, h1.ik k, h2⟩
theorem An.keeps {B : Nat} {w w' : World} {v : Value} {V : Int} (h : An B w v V) (k : Below w.heap.size w w') : An B w' v V := by
  obtain ⟨t, d, h1, h2⟩ := h
  exact ⟨t, d, h1.stays k, h2⟩
theorem An.lower {B B' : Nat} {w : World} {v : Value} {V : Int} (h : An B w v V) (hB : B' ≤ B) : An B' w v V := by
  obtain ⟨t, d, h1, h2⟩ := h
  exact ⟨t, d, h1.lower hB, h2⟩
theorem An.nil (B : Nat) (w : World) : An B w (.slice none 0 0) 0 := ⟨0, fun _ => 0, Out.nil _ _ _, ⟨fun i hi => by omega, .inl rfl⟩, rfl⟩
theorem Ans.an {w w' : World} {V : Int} {v : Value} (h : Ans w w' V v) : An w.heap.size w' v V := by
  obtain ⟨t, d, h1, h2, h3, h4⟩ := h
  exact ⟨t, d, h1, h2, h3⟩
theorem An.shape {B : Nat} {w : World} {v : Value} {V : Int} (h : An B w v V) : ∃ ao n cap, v = .slice ao n cap := by
  obtain ⟨t, d, h1, h2⟩ := h
  obtain ⟨ao, cap, e, _⟩ := h1.row
  exact ⟨ao, t, cap, e⟩
theorem An.num {B : Nat} {w : World} {v : Value} {V : Int} (h : An B w v V) : Num w v V := by
  obtain ⟨t, d, h1, h2, h3⟩ := h
  obtain ⟨ao, cap, rfl, hR⟩ := h1.row
  exact ⟨ao, t, cap, d, rfl, hR, h2, h3⟩
theorem An.ge {B : Nat} {w : World} {v : Value} {V : Int} (h : An B w v V) {g : Nat} (hg : v.ownBlock = some g) : B ≤ g ∧ g < w.heap.size := by
  obtain ⟨t, d, h1, h2, h3⟩ := h
  exact h1.ge hg
/-- The blocks behind an Add. -/
def S2 (S : Nat → Prop) (l : Value) (s : Nat) : Nat → Prop := fun g => S g ∨ l.ownBlock = some g ∨ s ≤ g
theorem keep_rd {B k : Nat} {w : World} {S : Nat → Prop} {l : Value} {xo : Option Addr} {t' xc : Nat} {ld' : Nat → Int} {V : Int} (h : Kept B w k S) (hl : An B w l V) (hO' : Rd B w xo t' xc ld') (hN' : Nrm ld' t') (hv' : val ld' t' = V) (K : Nat) (hK : K ≤ 100000) (hV : V < P K) (hB : B ≤ w.heap.size) (hap : ∀ g, l.ownBlock = some g → ¬ S g) :
    Calls Tryz.prog 20 #[.pointer (some ⟨k, 0, none⟩), l, .slice xo t' xc] w fun e w' => e = .returned (.bool true) ∧ Ik B w w' ∧ Kept B w' k (S2 S l w.heap.size) := by
  obtain ⟨m, v, u, n, d, hm, hk, h1, h2⟩ := h
  have hl0 := hl.num
  obtain ⟨t, ld, hO, hN, hv⟩ := hl
  obtain ⟨rfl, he⟩ := nrm_inj hN hN' (hv.trans hv'.symm)
  obtain ⟨lo, lc, rfl, hR⟩ := hO.row
  refine (keepAdd_any B k m v u n d w hk lo t lc ld hO xo xc (hO'.congr fun i hi => (he i hi).symm) (Nat.le_trans (hl0.len hV) hK) hB (fun i hi g hg hg' => hap g hg' (h1 i hi g hg))).mono ?_
  rintro e w' ⟨rfl, hi, hc⟩
  refine ⟨rfl, hi, ?_⟩
  rcases hc with ⟨h4, c, hn, hk'⟩ | hk'
  · refine ⟨m + 1, _, _, _, _, h4, hk', fun i hi' g hg => ?_, fun i hi' g hg => ?_⟩
    · by_cases e : i = m
      · subst e; rw [updV_same] at hg; exact .inr (.inl hg)
      · rw [updV_other _ _ e] at hg; exact .inl (h1 i (by omega) g hg)
    · by_cases e : i = m
      · subst e; rw [updV_same] at hg; exact .inr (.inr (hn g hg))
      · rw [updV_other _ _ e] at hg; exact .inl (h2 i (by omega) g hg)
  · exact ⟨m, v, u, n, d, hm, hk', fun i hi' g hg => .inl (h1 i hi' g hg), fun i hi' g hg => .inl (h2 i hi' g hg)⟩
theorem keep_an {B k : Nat} {w : World} {S : Nat → Prop} {l x : Value} {V : Int} (h : Kept B w k S) (hl : An B w l V) (hx : An B w x V) (K : Nat) (hK : K ≤ 100000) (hV : V < P K) (hB : B ≤ w.heap.size) (hap : ∀ g, l.ownBlock = some g → ¬ S g) :
    Calls Tryz.prog 20 #[.pointer (some ⟨k, 0, none⟩), l, x] w fun e w' => e = .returned (.bool true) ∧ Ik B w w' ∧ Kept B w' k (S2 S l w.heap.size) := by
  obtain ⟨t', ld', hO', hN', hv'⟩ := hx
  obtain ⟨xo, xc, rfl, hR'⟩ := hO'.row
  exact keep_rd h hl hO'.rd hN' hv' K hK hV hB hap
/-- A list and an error, of a number that may be too long. -/
def FitA (B : Nat) (w : World) (V : Int) (v : Value) (er : Int) : Prop := (V < P 2000 ∧ er = 0 ∧ An B w v V) ∨ (P 2000 ≤ V ∧ er = 2 ∧ v = .slice none 0 0)
theorem Fit.fitA {w w' : World} {V er : Int} {v : Value} (h : Fit w w' V v er) : FitA w.heap.size w' V v er := by
  rcases h.2 with ⟨h1, h2, h3⟩ | h
  · exact .inl ⟨h1, h2, h3.an⟩
  · exact .inr h
theorem FitA.ik {B B' : Nat} {w w' : World} {v : Value} {V er : Int} (h : FitA B w V v er) (k : Ik B' w w') : FitA B w' V v er := by
  rcases h with ⟨h1, h2, h3⟩ | h
  · exact .inl ⟨h1, h2, h3.ik k⟩
  · exact .inr h
theorem FitA.keeps {B : Nat} {w w' : World} {v : Value} {V er : Int} (h : FitA B w V v er) (k : Below w.heap.size w w') : FitA B w' V v er := by
  rcases h with ⟨h1, h2, h3⟩ | h
  · exact .inl ⟨h1, h2, h3.keeps k⟩
  · exact .inr h
theorem FitA.lower {B B' : Nat} {w : World} {v : Value} {V er : Int} (h : FitA B w V v er) (hB : B' ≤ B) : FitA B' w V v er := by
  rcases h with ⟨h1, h2, h3⟩ | h
  · exact .inl ⟨h1, h2, h3.lower hB⟩
  · exact .inr h
theorem FitA.ge {B : Nat} {w : World} {v : Value} {V er : Int} (h : FitA B w V v er) {g : Nat} (hg : v.ownBlock = some g) : B ≤ g ∧ g < w.heap.size := by
  rcases h with ⟨h1, h2, h3⟩ | ⟨_, _, rfl⟩
  · exact h3.ge hg
  · simp [Value.ownBlock] at hg
theorem FitA.shape {B : Nat} {w : World} {v : Value} {V er : Int} (h : FitA B w V v er) : ∃ ao n cap, v = .slice ao n cap := by
  rcases h with ⟨h1, h2, h3⟩ | ⟨_, _, rfl⟩
  · exact h3.shape
  · exact ⟨_, _, _, rfl⟩
/-- A lent list: three marks behind it. -/
def lentD (a : Nat → Int) (n : Nat) : Nat → Int := cat a n (fun i => -71 - (i : Int))
theorem row3 (w : World) (x y z : Int) (f : Nat → Int) (h0 : f 0 = x) (h1 : f 1 = y) (h2 : f 2 = z) {g : Nat} (hg : g = w.heap.size) : Row (w.alloc (.cells #[.int .i64 x, .int .i64 y, .int .i64 z] 3)) (some ⟨g, 0, none⟩) 3 3 f := by
  subst hg
  refine (Blk.new w #[.int .i64 x, .int .i64 y, .int .i64 z] f (fun i hi => ?_)).row0 (Nat.le_refl _) (show 3 ≤ 9223372036854775807 by decide)
  match i, hi with
  | 0, _ => rw [h0]; rfl
  | 1, _ => rw [h1]; rfl
  | 2, _ => rw [h2]; rfl
theorem lentD_lt (a : Nat → Int) {n i : Nat} (h : i < n) : lentD a n i = a i := by simp [lentD, cat, h]
theorem lentD_marks (a : Nat → Int) (n : Nat) : lentD a n n = -71 ∧ lentD a n (n + 1) = -72 ∧ lentD a n (n + 2) = -73 := by
  refine ⟨by simp [lentD, cat], by simp [lentD, cat]; omega, by simp [lentD, cat]; omega⟩
/-- What Lent answers: a block of its own. -/
def LentA (w w' : World) (v : Value) (n : Nat) (a : Nat → Int) : Prop := ∃ g cap, v = .slice (some ⟨g, 0, none⟩) (n + 3) cap ∧ Out w.heap.size w' v (n + 3) (lentD a n) ∧ Below w.heap.size w w'
set_option maxRecDepth 100000 in
theorem lent_any (ao : Option Addr) (n ca : Nat) (a : Nat → Int) (w : World) (ha : Row w ao n ca a) (hn : n ≤ 100000) :
    Calls Tryz.prog 17 #[.slice ao n ca] w fun e w' => ∃ v, e = .returned v ∧ LentA w w' v n a := by
  go_enter Tryz.func17, Tryz.ntmps17
  go_wp2_with (first
    | (at_builtin
       have _t := hO1
       (refine wpList_app rfl _ _ rfl w.heap.size _ n a rfl (hO1.stays (bel_alloc _ _)) _ 3 3 (fun i => -71 - (i : Int)) rfl (row3 _ (-71) (-72) (-73) _ rfl rfl rfl rfl) (by omega) (by have := hg1.size; simp; omega) ?_)
       intro v2 w2 hO2 hg2)
    | (at_builtin
       (
       refine wpList_app rfl _ _ rfl w.heap.size _ 0 a rfl (Out.nil _ _ _) _ n ca a rfl ha (by omega) (Nat.le_refl _) ?_
       intro v1 w1 hO0 hg1
       have hO1 : Out w.heap.size w1 v1 n a := by rw [Nat.zero_add] at hO0; exact hO0.congr fun i hi => by simp [cat]
       clear hO0)))
  go_ret
  have hb1 : Below w.heap.size w w1 := grown_below hg1
  have hb2 : Below w.heap.size w w2 := (hb1.alloc hb1.size _).grown hg2 (by have := hb1.size; simp; omega) (own_ge hO1)
  obtain ⟨so, sc, rfl, _⟩ := hO2.row
  obtain ⟨g, rfl, _⟩ := hO2.spot (by omega)
  exact ⟨_, rfl, g, sc, rfl, hO2, hb2⟩
end Go.Proofs.YtnhkagiionkjaaaGreatDoor

/-
  Lent lists: what is read of them, and Back.
-/
namespace Go.Proofs.YtnhkagiionkjaaaGreatDoor
open Go Go.RowKit Go.Proofs.YtnhkagiionkjaaaGreatDoor.M
set_option linter.unusedSimpArgs false
set_option linter.unusedVariables false

theorem LentA.below {w w' : World} {v : Value} {n : Nat} {a : Nat → Int} (h : LentA w w' v n a) : Below w.heap.size w w' := by
  obtain ⟨g, cap, _, _, hb⟩ := h
  exact hb
theorem LentA.parts {w w' : World} {v : Value} {n : Nat} {a : Nat → Int} (h : LentA w w' v n a) : ∃ g cap, v = .slice (some ⟨g, 0, none⟩) (n + 3) cap ∧ Out w.heap.size w' (.slice (some ⟨g, 0, none⟩) (n + 3) cap) (n + 3) (lentD a n) := by
  obtain ⟨g, cap, rfl, h, _⟩ := h
  exact ⟨g, cap, rfl, h⟩
theorem lent_cap {B : Nat} {w : World} {g n cap : Nat} {d : Nat → Int} (h : Out B w (.slice (some ⟨g, 0, none⟩) (n + 3) cap) (n + 3) d) : n + 3 ≤ cap ∧ cap ≤ 9223372036854775807 := by
  obtain ⟨_, _, e, hR⟩ := h.row
  simp only [Value.slice.injEq] at e
  obtain ⟨rfl, _, rfl⟩ := e
  exact ⟨hR.le, hR.max⟩
theorem lent_row {B : Nat} {w : World} {g n cap : Nat} {a : Nat → Int} (h : Out B w (.slice (some ⟨g, 0, none⟩) (n + 3) cap) (n + 3) (lentD a n)) : Row w (some ⟨g, 0, none⟩) n cap a := by
  obtain ⟨_, _, e, hR⟩ := (h.cut (show n ≤ n + 3 by omega)).row
  simp only [Value.slice.injEq] at e
  obtain ⟨rfl, _, rfl⟩ := e
  exact hR.congr fun i hi => lentD_lt a hi
theorem lent_two {B B' : Nat} {w : World} {g n cap g' m cap' : Nat} {a b : Nat → Int} (h : Out B w (.slice (some ⟨g, 0, none⟩) (n + 3) cap) (n + 3) (lentD a n)) (h' : Out B' w (.slice (some ⟨g', 0, none⟩) (m + 3) cap') (m + 3) (lentD b m)) :
    Two w (some ⟨g, 0, none⟩) (some ⟨g', 0, none⟩) n m cap cap' a b := ⟨lent_row h, lent_row h'⟩
theorem lent_numA {B : Nat} {w : World} {g n cap : Nat} {a : Nat → Int} (h : Out B w (.slice (some ⟨g, 0, none⟩) (n + 3) cap) (n + 3) (lentD a n)) (hN : Nrm a n) : Num w (.slice (some ⟨g, 0, none⟩) n cap) (val a n) :=
  ⟨_, _, _, _, rfl, lent_row h, hN, rfl⟩
theorem Row.num0 {w : World} {ao : Option Addr} {n cap : Nat} {a : Nat → Int} (h : Row w ao n cap a) (hN : Nrm a n) : Num w (.slice ao n cap) (val a n) := ⟨_, _, _, _, rfl, h, hN, rfl⟩
theorem RowX.of0 {g : Nat} {w0 w : World} {ao : Option Addr} {n cap : Nat} {d : Nat → Int} (h : Row w0 ao n cap d) (hb : Below w0.heap.size w0 w) (hg : w0.heap.size ≤ g) : RowX g w ao n cap d :=
  ⟨h.le, h.max, fun hn => by
    obtain ⟨b, off, rfl, hlt, hc⟩ := h.spot hn
    exact ⟨b, off, rfl, Nat.lt_of_lt_of_le hlt hb.size, by omega, fun i hi => (hb.cell (p := ⟨b, off + i, none⟩) hlt).trans (hc i hi)⟩⟩
set_option maxRecDepth 100000 in
set_option maxHeartbeats 1000000 in
theorem back_any {B g n cap : Nat} {a : Nat → Int} {w : World} (hc : Out B w (.slice (some ⟨g, 0, none⟩) (n + 3) cap) (n + 3) (lentD a n)) {ao : Option Addr} {ca : Nat} (hr : RowX g w ao n ca a) (hnl : Row w ao n ca a) (hn : n ≤ 100000) :
    Calls Tryz.prog 19 #[.slice (some ⟨g, 0, none⟩) (n + 3) cap, .slice ao n ca] w fun e w' => e = .returned (.bool true) ∧ Wr g w w' := by
  obtain ⟨hcl, hcm⟩ := lent_cap hc
  have hla := hr.le
  have hma := hr.max
  have hR := lent_row hc
  have HC : Hid (Out B w (.slice (some ⟨g, 0, none⟩) (n + 3) cap) (n + 3) (lentD a n)) := hc
  obtain ⟨m0, m1, m2⟩ := lentD_marks a n
  have HM0 : Hid (lentD a n n = -71) := m0
  have HM1 : Hid (lentD a n (n + 1) = -72) := m1
  have HM2 : Hid (lentD a n (n + 2) = -73) := m2
  clear hc m0 m1 m2
  go_enter Tryz.func19, Tryz.ntmps19
  go_wp2_with fail
  refine (same_any _ _ n n _ _ a a _ hR hnl).mono ?_
  rintro e w1 ⟨rfl, hb1⟩
  have hsb : sameB a a n n = true := decide_eq_true ⟨rfl, fun _ _ => rfl⟩
  have HC1 : Hid (Out B w1 (.slice (some ⟨g, 0, none⟩) (n + 3) cap) (n + 3) (lentD a n)) := HC.out.stays hb1
  have c0 := HC1.out.cell (i := n) (by omega)
  have c1 := HC1.out.cell (i := n + 1) (by omega)
  have c2 := HC1.out.cell (i := n + 2) (by omega)
  rw [HM0.out] at c0
  rw [HM1.out] at c1
  rw [HM2.out] at c2
  have HW1 : Hid (Wr g w w1) := wr_of hb1
  clear hb1 HC
  go_wp2
  go_loopw [7] (fun i wr => ∃ (k : Nat) (r : Nat → Int), k ≤ n + 3 ∧ i = .int .i64 k ∧ Out B wr (.slice (some ⟨g, 0, none⟩) (n + 3) cap) (n + 3) r ∧ Wr g w wr) (fun i _ => n + 3 - (intOf i).toNat)
  case atStart => exact ⟨0, lentD a n, Nat.zero_le _, rfl, HC1.out, HW1.out⟩
  case round =>
    obtain ⟨k, r, hk, rfl, hO, hw⟩ := hrel
    clear c0 c1 c2
    by_cases hlt : k < n + 3
    · have c := hO.cell hlt
      have f := hO.frozen k
      go_wp2
      go_roundw
      case rel => exact ⟨k + 1, upd r k (-9), by omega, by go_num, hO.store hlt _, hw.setCell _ _⟩
      case measure => simp [intOf]; omega
    · obtain rfl : k = n + 3 := by omega
      go_wp2
      go_ret
      exact ⟨rfl, hw⟩
end Go.Proofs.YtnhkagiionkjaaaGreatDoor

/-
  Where lists lie that were answered, and what is kept besides.
-/
namespace Go.Proofs.YtnhkagiionkjaaaGreatDoor
open Go Go.RowKit Go.Proofs.YtnhkagiionkjaaaGreatDoor.M
set_option linter.unusedSimpArgs false
set_option linter.unusedVariables false

theorem notS2 {S : Nat → Prop} {l : Value} {s g : Nat} (h1 : ¬ S g) (h2 : l.ownBlock = some g → False) (h3 : g < s) : ¬ S2 S l s g := fun h => by
  rcases h with h | h | h
  · exact h1 h
  · exact h2 h
  · omega
/-- Where a value lies: in a block from x on, below y. -/
def Lies (v : Value) (x y : Nat) : Prop := ∀ g, v.ownBlock = some g → x ≤ g ∧ g < y
end Go.Proofs.YtnhkagiionkjaaaGreatDoor

/-
  Package digits: Pile, by its contract: a number is put onto columns, each column turned by less than 2^30; raise by it.
-/
namespace Go.Proofs.YtnhkagiionkjaaaGreatDoor
open Go Go.RowKit Go.Proofs.YtnhkagiionkjaaaGreatDoor.M
set_option linter.unusedSimpArgs false
set_option linter.unusedVariables false

theorem upd_shift (r : Nat → Int) (q k : Nat) (x : Int) : (fun i => upd r (q + k) x (q + i)) = upd (fun i => r (q + i)) k x := by
  funext i
  unfold upd
  by_cases h : i = k
  · simp [h]
  · simp [h]
theorem shl_dig {x : Int} {p : Nat} (hx : 0 ≤ x ∧ x < 1073741824) (hp : p ≤ 30) : 0 ≤ x * 2 ^ p ∧ x * 2 ^ p ≤ 1073741823 * 2 ^ p ∧ (2 : Int) ^ p ≤ 1073741824 := by
  have h := two_pos p
  exact ⟨Int.mul_nonneg hx.1 (by omega), Int.mul_le_mul_of_nonneg_right (by omega) (by omega), two_le hp⟩

/-- What stands on the columns when k digits of a were put there. -/
structure PileI (q p N n : Nat) (a r0 : Nat → Int) (s : Int) (k : Nat) (c : Int) (r : Nat → Int) : Prop where
  rest : ∀ i, q + k ≤ i → r i = r0 i
  near : ∀ i, 0 ≤ s * (r i - r0 i) ∧ s * (r i - r0 i) < 1073741824
  sum : ∃ T, val r N = val r0 N + s * (P q * T) ∧ T + c * P k = 2 ^ p * val a k
theorem PileI.put {q p N n : Nat} {a r0 : Nat → Int} {s : Int} {k : Nat} {c : Int} {r : Nat → Int} (h : PileI q p N n a r0 s k c r) (hs : s * s = 1) (hN : q + k < N) {m c' : Int} (hm : 0 ≤ m ∧ m < 1073741824) (e : m + c' * 1073741824 = c + a k * 2 ^ p) :
    PileI q p N n a r0 s (k + 1) c' (upd r (q + k) (r (q + k) + s * m)) := by
  refine ⟨fun i hi => by rw [upd_other r _ (by omega)]; exact h.rest i (by omega), fun i => ?_, ?_⟩
  · by_cases hi : i = q + k
    · subst hi
      rw [upd_same, h.rest _ (Nat.le_refl _), show s * (r0 (q + k) + s * m - r0 (q + k)) = s * s * m by grind, hs]
      omega
    · rw [upd_other r _ hi]; exact h.near i
  · obtain ⟨T, e1, e2⟩ := h.sum
    refine ⟨T + m * P k, ?_, ?_⟩
    · rw [val_upd r _ hN, e1, P_add]; grind
    · rw [val_succ, P_succ]
      have : c' * (P k * 1073741824) = (c + a k * 2 ^ p - m) * P k := by rw [show c + a k * 2 ^ p - m = c' * 1073741824 by omega]; grind
      rw [this, show T + m * P k + (c + a k * 2 ^ p - m) * P k = (T + c * P k) + a k * 2 ^ p * P k by grind, e2]; grind
/-- The columns behind it. -/
structure Piled (N : Nat) (r0 : Nat → Int) (s V : Int) (r : Nat → Int) : Prop where
  near : ∀ i, 0 ≤ s * (r i - r0 i) ∧ s * (r i - r0 i) < 1073741824
  sum : val r N = val r0 N + s * V
theorem PileI.done {q p N n : Nat} {a r0 : Nat → Int} {s : Int} {c : Int} {r : Nat → Int} (h : PileI q p N n a r0 s n c r) (hs : s * s = 1) (hN : q + n < N) (hc : 0 ≤ c ∧ c < 1073741824) :
    Piled N r0 s (P q * (2 ^ p * val a n)) (upd r (q + n) (r (q + n) + s * c)) := by
  refine ⟨fun i => ?_, ?_⟩
  · by_cases hi : i = q + n
    · subst hi
      rw [upd_same, h.rest _ (Nat.le_refl _), show s * (r0 (q + n) + s * c - r0 (q + n)) = s * s * c by grind, hs]
      omega
    · rw [upd_other r _ hi]; exact h.near i
  · obtain ⟨T, e1, e2⟩ := h.sum
    rw [val_upd r _ hN, e1, P_add, ← e2]; grind
theorem pile_near {s x y C : Int} (hs : s = 1 ∨ s = -1) (h : 0 ≤ s * (x - y) ∧ s * (x - y) < 1073741824) (hy : -C ≤ y ∧ y ≤ C) : -(C + 1073741823) ≤ x ∧ x ≤ C + 1073741823 := by
  rcases hs with rfl | rfl <;> omega
theorem sgn_mul {s m : Int} (hs : s = 1 ∨ s = -1) (hm : 0 ≤ m ∧ m < 1073741824) : -1073741823 ≤ s * m ∧ s * m ≤ 1073741823 := by
  rcases hs with rfl | rfl <;> omega
theorem sgn_sq {s : Int} (hs : s = 1 ∨ s = -1) : s * s = 1 := by rcases hs with rfl | rfl <;> rfl

set_option maxHeartbeats 1000000 in
theorem pile_qp (g N : Nat) (r0 : Nat → Int) (ao : Option Addr) (n ca q p : Nat) (a : Nat → Int) (w : World) (hB0 : Blk w g N r0) (ha : RowX g w ao n ca a) (da : Dig a n) (hn : n ≤ 100000) (hqN : q + n + 1 ≤ N) (hNm : N ≤ 1000000) (hp : p < 30) (k : Int) (hk : k = 30 * q + p)
    (s : Int) (hs : s = 1 ∨ s = -1) (C : Int) (hC0 : ∀ i, i < N → -C ≤ r0 i ∧ r0 i ≤ C) (hC1 : C ≤ 4611686018427387904) :
    Calls Tryz.prog 95 #[.slice (some ⟨g, 0, none⟩) N N, .slice ao n ca, .int .i64 k, .int .i64 s] w fun e w' => e = .returned (.tuple #[]) ∧ ∃ r, Blk w' g N r ∧ Wr g w w' ∧ Piled N r0 s (P q * (2 ^ p * val a n)) r := by
  have hla := ha.le
  have hma := ha.max
  have e1 : k / 30 = q := by omega
  have e2 : k % 30 = p := by omega
  have hk0 : 0 ≤ k := by omega
  have hk1 : k ≤ 40000000 := by omega
  clear hk
  have hu := two_pos p
  have hu2 : (2 : Int) ^ p ≤ 2 ^ 29 := two_le (by omega)
  have HC : Hid (∀ i, i < N → -C ≤ r0 i ∧ r0 i ≤ C) := hC0
  have hss := sgn_sq hs
  have HS : Hid (s = 1 ∨ s = -1) := hs
  clear hC0 hs
  go_enter Tryz.func95, Tryz.ntmps95
  go_wp2
  go_loopw [10, 18] (fun c i wr => ∃ (k : Nat) (c' : Int) (r : Nat → Int), k ≤ n ∧ i = .int .i64 k ∧ c = .int .i64 c' ∧ 0 ≤ c' ∧ c' < 2 ^ p ∧ Blk wr g N r ∧ Hid (PileI q p N n a r0 s k c' r) ∧ Wr g w wr) (fun _ i _ => n - (intOf i).toNat)
  case atStart => exact ⟨0, 0, r0, Nat.zero_le _, rfl, rfl, by omega, hu, hB0, ⟨fun _ _ => rfl, fun i => by rw [Int.sub_self, Int.mul_zero]; omega, 0, by rw [Int.mul_zero, Int.mul_zero, Int.add_zero], by show (0 : Int) + 0 * 1 = 2 ^ p * 0; omega⟩, Wr.refl _ _⟩
  case round =>
    obtain ⟨k, c, r, hk, rfl, rfl, hc0, hc1, hB, HI, hW⟩ := hrel
    have hcap : -4611686018427387904 - 1073741823 ≤ r (q + k) ∧ r (q + k) ≤ 4611686018427387904 + 1073741823 := by
      have h1 := HC.out (q + k) (by omega)
      have h2 := HI.out.rest (q + k) (Nat.le_refl _)
      rw [h2]; omega
    by_cases hlt : k < n
    · obtain ⟨ba, fa, rfl, hba, hbg, hca⟩ := ha.spot (by omega)
      have c1 := (hW.cell (p := ⟨ba, fa + k, none⟩) hba hbg).trans (hca k hlt)
      have cg := hB.cell (show q + k < N by omega)
      have fg := hB.frozen (q + k)
      have dk := da k hlt
      obtain ⟨s0, s1, s2⟩ := shl_dig dk (show p ≤ 30 by omega)
      have hw : wrap64 (a k * 2 ^ p) = a k * 2 ^ p := IntWalk.wrap64_in _ ⟨by omega, by omega⟩
      have hor : bits .or .i64 c (a k * 2 ^ p) = c + a k * 2 ^ p := or_add c (a k) p hc0 hc1 dk.1 (by omega)
      have h30 := and_30 (c + a k * 2 ^ p)
      have hm := mod_dig (c + a k * 2 ^ p)
      have hc2 : (c + a k * 2 ^ p) / 1073741824 < 2 ^ p := by omega
      have hc3 : 0 ≤ (c + a k * 2 ^ p) / 1073741824 := by omega
      obtain ⟨m0, m1⟩ := sgn_mul HS.out hm
      have e4 : (c + a k * 2 ^ p) % 1073741824 + (c + a k * 2 ^ p) / 1073741824 * 1073741824 = c + a k * 2 ^ p := by omega
      have HI2 : Hid (PileI q p N n a r0 s (k + 1) ((c + a k * 2 ^ p) / 1073741824) (upd r (q + k) (r (q + k) + s * ((c + a k * 2 ^ p) % 1073741824)))) := HI.out.put hss (by omega) hm e4
      clear e4
      generalize hM : (c + a k * 2 ^ p) % 1073741824 = M at *
      generalize hSM : s * M = SM at *
      go_wp2
      go_roundw
      case rel => exact ⟨k + 1, _, _, by omega, by go_num, rfl, hc3, hc2, hB.store (q + k) _, HI2, hW.setCell _ _⟩
      case measure => simp [intOf]; omega
    · obtain rfl : k = n := by omega
      have cg := hB.cell (show q + k < N by omega)
      have fg := hB.frozen (q + k)
      have hc4 : c < 1073741824 := by omega
      obtain ⟨m0, m1⟩ := sgn_mul HS.out ⟨hc0, hc4⟩
      have HD : Hid (Piled N r0 s (P q * (2 ^ p * val a k)) (upd r (q + k) (r (q + k) + s * c))) := HI.out.done hss (by omega) ⟨hc0, hc4⟩
      generalize hSM : s * c = SM at *
      go_wp2
      first | go_end0 | refine bodyPost_ret (results_none rfl _ _ _) rfl ?_
      exact ⟨rfl, _, hB.store (q + k) _, hW.setCell _ _, HD.out⟩
end Go.Proofs.YtnhkagiionkjaaaGreatDoor

/-
  Package nat: raise, lower, by contracts: for every list of digits, every shift.
-/
namespace Go.Proofs.YtnhkagiionkjaaaGreatDoor
open Go Go.RowKit Go.Proofs.YtnhkagiionkjaaaGreatDoor.M
set_option linter.unusedSimpArgs false
set_option linter.unusedVariables false

set_option maxHeartbeats 1000000 in
theorem raise_qp (ao : Option Addr) (n ca q p : Nat) (a : Nat → Int) (w : World) (ha : Row w ao n ca a) (da : Dig a n) (hn : n ≤ 100000) (hq : q ≤ 100000) (hp : p < 30) (k : Int) (hk : k = 30 * q + p) :
    Calls Tryz.prog 120 #[.slice ao n ca, .int .i64 k] w fun e w' => ∃ v, e = .returned v ∧ Ans w w' (P q * (2 ^ p * val a n)) v := by
  have hla := ha.le
  have hma := ha.max
  have e1 : k / 30 = q := by omega
  have e2 : k % 30 = p := by omega
  have hk0 : 0 ≤ k := by omega
  have HK : Hid (k = 30 * q + p) := hk
  clear hk
  go_enter Tryz.func120, Tryz.ntmps120
  go_wp2_with (at_make; refine wpList_mk rfl _ _ rfl _ _ (q + n + 1) rfl rfl (by omega) (by omega) (by omega) ?_; intro w1 hB1 hb1)
  refine (pile_qp w.heap.size (q + n + 1) (fun _ => 0) ao n ca q p a w1 hB1 ((RowX.of ha (Nat.le_refl _)).keeps (wr_of hb1)) da hn (Nat.le_refl _) (by omega) hp k HK.out 1 (.inl rfl) 0 (fun _ _ => ⟨by omega, by omega⟩) (by omega)).mono ?_
  rintro e w2 ⟨rfl, r, hB2, hW2, hP⟩
  have hb2 : Below w.heap.size w w2 := hW2.below hb1 hb1.size (Nat.le_refl _)
  go_wp2_with fail
  refine (trim_any _ _ _ _ _ (hB2.row0 (Nat.le_refl _) (by omega))).mono ?_
  rintro e w3 ⟨t, ht, htop, hz, rfl, rfl⟩
  go_wp2
  go_ret
  have D2 : Dig r (q + n + 1) := fun i hi => by have := hP.near i; omega
  obtain ⟨hN, hv⟩ := nrm_of_top D2 ht htop hz
  refine ⟨_, rfl, t, r, hB2.cut (Nat.le_refl _) ht (by omega), hN, ?_, hb2⟩
  rw [hv, hP.sum, val_zeros (Nat.zero_le _) (fun _ _ _ => rfl)]
  show 0 + 1 * _ = _
  omega
theorem raise_any (ao : Option Addr) (n ca k : Nat) (a : Nat → Int) (w : World) (ha : Row w ao n ca a) (da : Dig a n) (hn : n ≤ 100000) (hk : k ≤ 1000000) :
    Calls Tryz.prog 120 #[.slice ao n ca, .int .i64 k] w fun e w' => ∃ v, e = .returned v ∧ Ans w w' (val a n * 2 ^ k) v := by
  refine (raise_qp ao n ca (k / 30) (k % 30) a w ha da hn (by omega) (by omega) k (by omega)).mono ?_
  rintro e w' ⟨v, he, h⟩
  refine ⟨v, he, ?_⟩
  rw [two_split k]
  rwa [show val a n * (P (k / 30) * 2 ^ (k % 30)) = P (k / 30) * (2 ^ (k % 30) * val a n) by grind]

theorem shr_part {x y : Int} {p : Nat} (hx : 0 ≤ x ∧ x < 1073741824) (hy : 0 ≤ y ∧ y < 1073741824) (hp : p < 30) :
    0 ≤ x / 2 ^ p ∧ x / 2 ^ p < 2 ^ (30 - p) ∧ y * 2 ^ (30 - p) % 1073741824 = y % 2 ^ p * 2 ^ (30 - p) ∧ 0 ≤ y % 2 ^ p ∧ y % 2 ^ p * 2 ^ (30 - p) < 1073741824 := by
  have hu := two_pos p
  have hv := two_pos (30 - p)
  have huv : (2 : Int) ^ p * 2 ^ (30 - p) = 1073741824 := by rw [← Int.pow_add, show p + (30 - p) = 30 by omega]; rfl
  have m0 := Int.emod_nonneg y (show (2 : Int) ^ p ≠ 0 by omega)
  have m1 := Int.emod_lt_of_pos y hu
  refine ⟨Int.ediv_nonneg hx.1 (by omega), (Int.ediv_lt_iff_lt_mul hu).2 (by rw [Int.mul_comm, huv]; exact hx.2), ?_, m0, ?_⟩
  · rw [← huv, Int.mul_comm y, Int.mul_comm (2 ^ p : Int), Int.mul_emod_mul_of_pos _ _ hv, Int.mul_comm]
  · have h1 : (y % 2 ^ p + 1) * 2 ^ (30 - p) ≤ 2 ^ p * 2 ^ (30 - p) := Int.mul_le_mul_of_nonneg_right (by omega) (by omega)
    rw [huv, Int.add_mul] at h1
    omega
theorem low_last {s : Nat → Int} {u v : Int} {k : Nat} (h : s (k + 1) = 0) : low s u v k = s k / u := by
  unfold low; rw [h, Int.zero_emod, Int.zero_mul, Int.add_zero]
set_option maxRecDepth 100000 in
set_option maxHeartbeats 1000000 in
theorem lower_qp (ao : Option Addr) (n ca q p : Nat) (a : Nat → Int) (w : World) (ha : Row w ao n ca a) (da : Dig a n) (hn : n ≤ 100000) (hp : p < 30) (k : Int) (hk : k = 30 * q + p) (hkm : k < 9223372036854775808) :
    Calls Tryz.prog 91 #[.slice ao n ca, .int .i64 k] w fun e w' => ∃ v, e = .returned v ∧ Ans w w' (val a n / P q / 2 ^ p) v := by
  have hla := ha.le
  have hma := ha.max
  have e1 : k / 30 = q := by omega
  have e2 : k % 30 = p := by omega
  have hk0 : 0 ≤ k := by omega
  have hqm : (q : Int) < 9223372036854775808 := by omega
  clear hk
  have hu := two_pos p
  have huv : (2 : Int) ^ p * 2 ^ (30 - p) = 1073741824 := by rw [← Int.pow_add, show p + (30 - p) = 30 by omega]; rfl
  have HU : Hid ((2 : Int) ^ p * 2 ^ (30 - p) = 1073741824) := huv
  clear huv
  by_cases hqn : n ≤ q
  · have h0 : val a n / P q / 2 ^ p = 0 := by
      rw [Int.ediv_eq_zero_of_lt (val_nonneg da) (by have := val_lt da; have := P_le hqn; omega)]; exact Int.zero_ediv _
    have H0 : Hid (val a n / P q / 2 ^ p = 0) := h0
    clear h0
    go_enter Tryz.func91, Tryz.ntmps91
    go_wp2
    go_ret
    exact ⟨_, rfl, by rw [H0.out]; exact Ans.nil (bel_refl _)⟩
  · obtain ⟨ba, fa, rfl, hba, hca⟩ := ha.spot (by omega)
    have sp : (((30 : Int) - p).toNat) = 30 - p := by omega
    obtain ⟨N, hN⟩ : ∃ N, n = q + N := ⟨n - q, by omega⟩
    have HN : Hid (n = q + N) := hN
    have hn1 : q + N ≤ n := by omega
    have hn2 : n ≤ q + N := by omega
    have hN0 : 0 < N := by omega
    have hq1 : q ≤ 100000 := by omega
    have hk1 : k ≤ 4000000 := by omega
    clear hN hqn hqm hkm
    go_enter Tryz.func91, Tryz.ntmps91
    go_wp2_with (at_make; refine wpList_mk rfl _ _ rfl _ _ N rfl rfl (by omega) (by omega) (by omega) ?_; intro w1 hB1 hb1)
    go_loopw [24] (fun i wr => ∃ (k : Nat) (r : Nat → Int), k ≤ N ∧ i = .int .i64 k ∧ Blk wr w.heap.size N r ∧ Hid (∀ i, i < k → r i = low (fun j => ext a n (q + j)) (2 ^ p) (2 ^ (30 - p)) i) ∧ Below w.heap.size w wr) (fun i _ => N - (intOf i).toNat)
    case atStart => exact ⟨0, fun _ => 0, Nat.zero_le _, rfl, hB1, fun i hi => by omega, hb1⟩
    case round =>
      obtain ⟨k, r, hk, rfl, hB, HV, hbw⟩ := hrel
      by_cases hlt : k < N
      · have c1 := (hbw.cell (p := ⟨ba, fa + (q + k), none⟩) hba).trans (hca (q + k) (by omega))
        have cg := hB.cell hlt
        have fg := hB.frozen k
        have hB2 := hB.store k (a (q + k) / 2 ^ p)
        by_cases hl2 : q + k + 1 < n
        · have dx := da (q + k) (by omega)
          have dy := da (q + k + 1) (by omega)
          obtain ⟨s0, s1, s2, s3, s4⟩ := shr_part dx dy hp
          obtain ⟨t0, t1, t2⟩ := shl_dig dy (show 30 - p ≤ 30 by omega)
          have hw : wrap64 (a (q + k + 1) * 2 ^ (30 - p)) = a (q + k + 1) * 2 ^ (30 - p) := IntWalk.wrap64_in _ ⟨by omega, by omega⟩
          have h30 : bits .and .i64 (a (q + k + 1) * 2 ^ (30 - p)) 1073741823 = a (q + k + 1) % 2 ^ p * 2 ^ (30 - p) := (and_30 _).trans s2
          have hor : bits .or .i64 (a (q + k) / 2 ^ p) (a (q + k + 1) % 2 ^ p * 2 ^ (30 - p)) = a (q + k) / 2 ^ p + a (q + k + 1) % 2 ^ p * 2 ^ (30 - p) := or_add _ _ _ s0 s1 s3 (by have : (2:Int) ^ (30 - p) ≤ 2 ^ 30 := two_le (by omega); omega)
          have c2 := (hbw.cell (p := ⟨ba, fa + (q + k + 1), none⟩) hba).trans (hca (q + k + 1) (by omega))
          clear s2
          go_wp2
          go_region
          go_wp2
          go_roundw
          case rel => exact ⟨k + 1, upd (upd r k (a (q + k) / 2 ^ p)) k (a (q + k) / 2 ^ p + a (q + k + 1) % 2 ^ p * 2 ^ (30 - p)), by omega, by go_num, (hB2.store k _).of_block rfl, fun i hi => by
              by_cases e : i = k
              · rw [e, upd_same]
                show _ = ext a n (q + k) / 2 ^ p + ext a n (q + (k + 1)) % 2 ^ p * 2 ^ (30 - p)
                rw [ext_lt a (by omega), ext_lt a (by omega), Nat.add_assoc]
              · rw [upd_other _ _ e, upd_other r _ e]; exact HV.out i (by omega), ((hbw.setCell (Nat.le_refl _) _).setCell (Nat.le_refl _) _).drew⟩
          case measure => simp [intOf]; omega
        · go_wp2
          go_roundw
          case rel => exact ⟨k + 1, upd r k (a (q + k) / 2 ^ p), by omega, by go_num, hB2, fun i hi => by
              by_cases e : i = k
              · rw [e, upd_same, low_last (s := fun j => ext a n (q + j)) (ext_ge a (by omega)), ext_lt a (by omega)]
              · rw [upd_other r _ e]; exact HV.out i (by omega), hbw.setCell (Nat.le_refl _) _⟩
          case measure => simp [intOf]; omega
      · obtain rfl : k = N := by omega
        go_wp2_with (go_at_call 88; refine (trim_any _ _ _ _ _ (hB.row0 (Nat.le_refl _) (by omega))).mono ?_; rintro e w3 ⟨t, ht, htop, hz, rfl, rfl⟩)
        go_ret
        have DS : Dig (fun j => ext a n (q + j)) (k + 1) := fun i hi => ext_dig da (q + k + 1) (q + i) (by omega)
        have D2 : Dig r k := (low_dig hu HU.out DS).congr fun i hi => (HV.out i hi).symm
        obtain ⟨hNr, hv⟩ := nrm_of_top D2 ht htop hz
        refine ⟨_, rfl, t, r, hB.cut (Nat.le_refl _) ht (by omega), hNr, ?_, hbw⟩
        rw [hv, val_congr HV.out, low_eq (s := fun j => ext a n (q + j)) hu HU.out (ext_ge a (by omega))]
        have e3 := val_drop a (show q ≤ n by omega) da
        rw [← e3, show n - q = k by omega]
        congr 1
        exact val_congr fun i hi => ext_lt a (by omega)
theorem lower_any (ao : Option Addr) (n ca k : Nat) (a : Nat → Int) (w : World) (ha : Row w ao n ca a) (da : Dig a n) (hn : n ≤ 100000) (hk : (k : Int) < 9223372036854775808) :
    Calls Tryz.prog 91 #[.slice ao n ca, .int .i64 k] w fun e w' => ∃ v, e = .returned v ∧ Ans w w' (val a n / 2 ^ k) v := by
  refine (lower_qp ao n ca (k / 30) (k % 30) a w ha da hn (by omega) k (by omega) hk).mono ?_
  rintro e w' ⟨v, he, h⟩
  refine ⟨v, he, ?_⟩
  rw [two_split k, ← Int.ediv_ediv_of_nonneg (Int.le_of_lt (P_pos _))]
  exact h
end Go.Proofs.YtnhkagiionkjaaaGreatDoor

/-
  Plain mathematics of exact numbers: a number is told by one whole number V, its value times 2^LL, whatever its exponent; its one form (a sign, an odd number, an exponent) hangs on V alone. No Go text in sight.
-/
namespace Go.Proofs.YtnhkagiionkjaaaGreatDoor.M
open Go
set_option linter.unusedSimpArgs false
set_option linter.unusedVariables false

def LL : Nat := 4194304
/-- 2^e in the scale. -/
def pw (e : Int) : Int := 2 ^ (e + 4194304).toNat
def sg (b : Bool) (x : Int) : Int := if b then -x else x
theorem pw_pos (e : Int) : 0 < pw e := two_pos _
theorem pw_add {e : Int} (h : -4194304 ≤ e) (l : Nat) : pw (e + l) = pw e * 2 ^ l := by
  unfold pw
  rw [show (e + l + 4194304).toNat = (e + 4194304).toNat + l by omega, Int.pow_add]
theorem pw_sub {e low : Int} (h : -4194304 ≤ low) (h1 : low ≤ e) : pw e = 2 ^ (e - low).toNat * pw low := by
  have := pw_add h (e - low).toNat
  rw [show low + ((e - low).toNat : Int) = e by omega] at this
  rw [this, Int.mul_comm]
theorem pw_mul {a b : Int} (ha : -2097152 ≤ a) (hb : -2097152 ≤ b) : pw a * pw b = pw (a + b) * 2 ^ 4194304 := by
  unfold pw
  rw [← Int.pow_add, ← Int.pow_add, show (a + 4194304).toNat + (b + 4194304).toNat = (a + b + 4194304).toNat + 4194304 by omega]
theorem sg_mul (a b : Bool) (x y : Int) : sg a x * sg b y = sg (a != b) (x * y) := by
  cases a <;> cases b <;> simp [sg, Int.neg_mul, Int.mul_neg]
theorem sg_sgn (b : Bool) (x : Int) : sg b x = (if b then -1 else 1) * x := by cases b <;> simp [sg]
theorem sg_not (b : Bool) (x : Int) : sg (!b) x = -sg b x := by cases b <;> simp [sg]
theorem sg_zero (b : Bool) : sg b 0 = 0 := by cases b <;> rfl
theorem sg_eq_zero {b : Bool} {x : Int} (h : sg b x = 0) : x = 0 := by cases b <;> simp [sg] at h <;> exact h

/-- The one form of V: sign, odd number, exponent. -/
structure Dy (V : Int) (ng : Bool) (m e : Int) : Prop where
  val : V = sg ng m * pw e
  low : -4194304 ≤ e
  form : (m = 0 ∧ ng = false ∧ e = 0) ∨ (0 < m ∧ m % 2 = 1)
/-- V has a valid form. -/
def Dok (V : Int) : Prop := ∃ ng m e, Dy V ng m e ∧ m < P 2000 ∧ -1048576 ≤ e ∧ e ≤ 1048576
theorem Dy.zero : Dy 0 false 0 0 := ⟨by simp [sg], by decide, .inl ⟨rfl, rfl, rfl⟩⟩
theorem dok_zero : Dok 0 := ⟨_, _, _, Dy.zero, P_pos _, by decide, by decide⟩
theorem Dy.eq_zero {V : Int} {ng : Bool} {m e : Int} (h : Dy V ng m e) : V = 0 ↔ m = 0 := by
  constructor
  · intro h0
    have := h.val
    rw [h0] at this
    rcases Int.mul_eq_zero.1 this.symm with h1 | h1
    · exact sg_eq_zero h1
    · have := pw_pos e; omega
  · intro h0
    rw [h.val, h0, sg_zero, Int.zero_mul]
theorem Dy.nonneg {V : Int} {ng : Bool} {m e : Int} (h : Dy V ng m e) : 0 ≤ m := by rcases h.form with h | h <;> omega
theorem Dy.neg_iff {V : Int} {ng : Bool} {m e : Int} (h : Dy V ng m e) : ng = true ↔ V < 0 := by
  have hp := pw_pos e
  rcases h.form with ⟨h1, h2, h3⟩ | ⟨h1, _⟩
  · have := h.eq_zero.2 h1; simp [h2]; omega
  · have hm : 0 < m * pw e := Int.mul_pos h1 hp
    have := h.val
    cases ng
    · simp [sg] at this; simp; omega
    · simp [sg, Int.neg_mul] at this; simp; omega
theorem odd_pow {m m' : Int} {a b : Nat} (h : m % 2 = 1) (h' : m' % 2 = 1) (e : m * 2 ^ a = m' * 2 ^ b) : ¬ a < b := by
  intro hlt
  obtain ⟨d, rfl⟩ : ∃ d, b = a + 1 + d := ⟨b - a - 1, by omega⟩
  rw [Int.pow_add, Int.pow_add] at e
  have e1 : m * 2 ^ a = (m' * (2 ^ d * 2)) * 2 ^ a := by rw [e]; grind
  have e2 := Int.eq_of_mul_eq_mul_right (Int.ne_of_gt (two_pos a)) e1
  rw [show m' * (2 ^ d * 2) = 2 * (m' * 2 ^ d) by grind] at e2
  omega
/-- V has one form. -/
theorem Dy.unique {V : Int} {ng ng' : Bool} {m m' e e' : Int} (h : Dy V ng m e) (k : Dy V ng' m' e') : ng = ng' ∧ m = m' ∧ e = e' := by
  have hn : ng = ng' := by
    have a := h.neg_iff
    have b := k.neg_iff
    cases ng <;> cases ng' <;> simp_all <;> omega
  subst hn
  rcases h.form with ⟨h1, h2, h3⟩ | ⟨h1, h2⟩
  · have h0 := k.eq_zero.1 (h.eq_zero.2 h1)
    rcases k.form with ⟨k1, k2, k3⟩ | ⟨k1, k2⟩
    · exact ⟨rfl, by omega, by omega⟩
    · omega
  · rcases k.form with ⟨k1, k2, k3⟩ | ⟨k1, k2⟩
    · have := h.eq_zero.1 (k.eq_zero.2 k1); omega
    · have e1 : m * pw e = m' * pw e' := by
        have := h.val.symm.trans k.val
        cases ng
        · simpa [sg] using this
        · simpa [sg, Int.neg_mul] using this
      have a1 := odd_pow h2 k2 e1
      have a2 := odd_pow k2 h2 e1.symm
      have l1 := h.low
      have l2 := k.low
      obtain rfl : e = e' := by omega
      exact ⟨rfl, Int.eq_of_mul_eq_mul_right (Int.ne_of_gt (pw_pos _)) e1, rfl⟩
theorem Dy.ok {V : Int} {ng : Bool} {m e : Int} (h : Dy V ng m e) : Dok V ↔ m < P 2000 ∧ -1048576 ≤ e ∧ e ≤ 1048576 := by
  constructor
  · rintro ⟨ng', m', e', k, h3⟩
    obtain ⟨_, rfl, rfl⟩ := h.unique k
    exact h3
  · exact fun h3 => ⟨_, _, _, h, h3⟩
theorem Dy.neg {V : Int} {ng : Bool} {m e : Int} (h : Dy V ng m e) (h0 : 0 < m) : Dy (-V) (!ng) m e :=
  ⟨by rw [sg_not, Int.neg_mul, ← h.val], h.low, by rcases h.form with ⟨h1, _⟩ | h1; (· omega); (· exact .inr h1)⟩
theorem sg_abs {V : Int} {ng : Bool} {m e : Int} (h : Dy V ng m e) : m * pw e = V.natAbs := by
  have := h.val
  have h0 := h.nonneg
  have : 0 ≤ m * pw e := Int.mul_nonneg h0 (Int.le_of_lt (pw_pos _))
  cases ng <;> simp [sg, Int.neg_mul] at * <;> omega
theorem Dy.abs {V : Int} {ng : Bool} {m e : Int} (h : Dy V ng m e) : Dy V.natAbs false m e :=
  ⟨by rw [← sg_abs h]; simp [sg], h.low, by rcases h.form with ⟨h1, _, h3⟩ | h1; (· exact .inl ⟨h1, rfl, h3⟩); (· exact .inr h1)⟩
theorem isLow_odd {M : Int} {l : Nat} (h : IsLow M l) (h0 : 0 < M) : 0 < M / 2 ^ l ∧ (M / 2 ^ l) % 2 = 1 ∧ M / 2 ^ l * 2 ^ l = M := by
  obtain ⟨k, hk⟩ := h
  have hp := two_pos l
  have e : M / 2 ^ l = 2 * k + 1 := by rw [hk]; exact Int.mul_ediv_cancel _ (by omega)
  rw [e]
  refine ⟨?_, by omega, hk.symm⟩
  by_cases h1 : 0 < 2 * k + 1
  · exact h1
  · have : (2 * k + 1) * 2 ^ l ≤ 0 := Int.mul_nonpos_of_nonpos_of_nonneg (by omega) (by omega)
    omega
/-- The form of a number that may be even. -/
theorem Dy.of {M e : Int} {l : Nat} (ng : Bool) (h : IsLow M l) (h0 : 0 < M) (he : -4194304 ≤ e) : Dy (sg ng M * pw e) ng (M / 2 ^ l) (e + l) := by
  obtain ⟨a, b, c⟩ := isLow_odd h h0
  refine ⟨?_, by omega, .inr ⟨a, b⟩⟩
  rw [pw_add he, sg_sgn, sg_sgn]
  rw [show (if ng = true then (-1 : Int) else 1) * (M / 2 ^ l) * (pw e * 2 ^ l) = (if ng = true then (-1 : Int) else 1) * (M / 2 ^ l * 2 ^ l) * pw e by grind, c]
theorem Dy.sum {V V' : Int} {low s s' : Int} (h : V = s * pw low) (h' : V' = s' * pw low) : V + V' = (s + s') * pw low := by rw [h, h', Int.add_mul]
/-- Brought to a lower exponent. -/
theorem Dy.at {V : Int} {ng : Bool} {m e low : Int} (h : Dy V ng m e) (hl : -4194304 ≤ low) (h1 : low ≤ e) : V = sg ng (m * 2 ^ (e - low).toNat) * pw low := by
  rw [h.val, pw_sub hl h1, sg_sgn, sg_sgn]; grind
theorem scale_inj {x y : Int} (h : x * 2 ^ 4194304 = y * 2 ^ 4194304) : x = y := Int.eq_of_mul_eq_mul_right (Int.ne_of_gt (two_pos _)) h
end Go.Proofs.YtnhkagiionkjaaaGreatDoor.M
