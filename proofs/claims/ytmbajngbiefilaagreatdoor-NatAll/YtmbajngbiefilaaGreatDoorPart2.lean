/-
  Parts of the proof, one behind another.
-/
import Derived.Test.YtmbajngbiefilaaGreatDoorPart1
import Derived.Lib.BitFns
import Derived.Lib.ItoaNum
import Derived.Laws.Bits64b
/-
  Package nat: Valid, trim, compare, sum, difference, by contracts: for every list in memory.
-/
namespace Go.Proofs.YtmbajngbiefilaaGreatDoor
open Go Go.RowKit Go.Proofs.YtmbajngbiefilaaGreatDoor.M
set_option linter.unusedSimpArgs false
set_option linter.unusedVariables false

instance (d : Nat → Int) (n : Nat) : Decidable (Dig d n) := by unfold Dig; infer_instance
instance (d : Nat → Int) (n : Nat) : Decidable (Top d n) := by unfold Top; infer_instance
instance (d : Nat → Int) (n : Nat) : Decidable (Nrm d n) := by unfold Nrm; infer_instance
/-- Is it a valid list? -/
def okB (d : Nat → Int) (n : Nat) : Bool := decide (n ≤ 2000 ∧ Nrm d n)
theorem okB_yes {d : Nat → Int} {n : Nat} (h : n ≤ 2000) (k : Nrm d n) : okB d n = true := by simp [okB, h, k]
theorem okB_no {d : Nat → Int} {n : Nat} (h : ¬ (n ≤ 2000 ∧ Nrm d n)) : okB d n = false := by simp only [okB, h, decide_false]
theorem okB_out {d : Nat → Int} {n : Nat} (h : okB d n = true) : n ≤ 2000 ∧ Nrm d n := of_decide_eq_true h
theorem ret_bool {a b : Bool} (h : a = b) : Ending.returned (.bool a) = .returned (.bool b) := by rw [h]
theorem ret_int {k : IntKind} {a b : Int} (h : a = b) : Ending.returned (.int k a) = .returned (.int k b) := by rw [h]
theorem dig_snoc {d : Nat → Int} {k : Nat} (h : Dig d k) (h0 : 0 ≤ d k) (h1 : d k < 1073741824) : Dig d (k + 1) := fun i hi => by
  by_cases e : i = k
  · rw [e]; exact ⟨h0, h1⟩
  · exact h i (by omega)

set_option maxHeartbeats 400000 in
theorem valid_any (ao : Option Addr) (n cap : Nat) (d : Nat → Int) (w : World) (h : Row w ao n cap d) :
    Calls Tryz.prog 12 #[.slice ao n cap] w fun e w' => e = .returned (.bool (okB d n)) ∧ w' = w := by
  have hl := h.le
  have hm := h.max
  by_cases h2k : n ≤ 2000
  · go_enter Tryz.func12, Tryz.ntmps12
    go_wp2
    go_loop [9] (fun i => ∃ k : Nat, k ≤ n ∧ i = .int .i64 k ∧ Dig d k) (fun i => n - (intOf i).toNat)
    case atStart => exact ⟨0, Nat.zero_le _, rfl, fun i hi => absurd hi (by omega)⟩
    case round =>
      obtain ⟨k, hk, rfl, hd⟩ := hrel
      by_cases hlt : k < n
      · obtain ⟨b, off, rfl, hb, hc⟩ := h.spot (by omega)
        have c := hc k hlt
        by_cases h0 : d k < 0
        · go_wp2
          go_ret
          exact ⟨ret_bool (okB_no (fun ⟨_, q⟩ => by have := (q.1 k hlt).1; omega)).symm, rfl⟩
        · by_cases h1 : 1073741823 < d k
          · go_wp2
            go_ret
            exact ⟨ret_bool (okB_no (fun ⟨_, q⟩ => by have := (q.1 k hlt).2; omega)).symm, rfl⟩
          · go_wp2
            go_round
            case rel => exact ⟨k + 1, by omega, by go_num, dig_snoc hd (by omega) (by omega)⟩
            case measure => simp [intOf]; omega
      · obtain rfl : k = n := by omega
        by_cases h0 : k = 0
        · subst h0
          go_wp2
          go_ret
          exact ⟨ret_bool (okB_yes h2k ⟨hd, .inl rfl⟩).symm, rfl⟩
        · obtain ⟨b, off, rfl, hb, hc⟩ := h.spot (by omega)
          have c := hc (k - 1) (by omega)
          by_cases h1 : d (k - 1) = 0
          · go_wp2
            go_ret
            exact ⟨ret_bool ((show _ = false by simp; omega).trans (okB_no (fun ⟨_, q⟩ => by rcases q.2 with e | e <;> omega)).symm), rfl⟩
          · go_wp2
            go_ret
            exact ⟨ret_bool ((show _ = true by simp; omega).trans (okB_yes h2k ⟨hd, .inr h1⟩).symm), rfl⟩
  · go_enter Tryz.func12, Tryz.ntmps12
    go_wp2
    go_ret
    exact ⟨ret_bool (okB_no (fun ⟨q, _⟩ => h2k q)).symm, rfl⟩

set_option maxHeartbeats 400000 in
theorem trim_any (ao : Option Addr) (n cap : Nat) (d : Nat → Int) (w : World) (h : Row w ao n cap d) :
    Calls Tryz.prog 76 #[.slice ao n cap] w fun e w' => ∃ t : Nat, t ≤ n ∧ Top d t ∧ (∀ i, t ≤ i → i < n → d i = 0) ∧ e = .returned (cutV ao t cap) ∧ w' = w := by
  have hl := h.le
  have hm := h.max
  go_enter Tryz.func76, Tryz.ntmps76
  go_wp2
  go_loop [3] (fun i => ∃ k : Nat, k ≤ n ∧ i = .int .i64 k ∧ ∀ i, k ≤ i → i < n → d i = 0) (fun i => (intOf i).toNat)
  case atStart => exact ⟨n, Nat.le_refl _, rfl, fun i a b => by omega⟩
  case round =>
    obtain ⟨k, hk, rfl, hz⟩ := hrel
    have HZ : Hid (∀ i, k ≤ i → i < n → d i = 0) := hz
    clear hz
    by_cases h0 : k = 0
    · subst h0
      go_wp2
      go_ret
      exact ⟨0, by omega, .inl rfl, HZ.out, rfl, rfl⟩
    · obtain ⟨b, off, rfl, hb, hc⟩ := h.spot (by omega)
      have c := hc (k - 1) (by omega)
      by_cases h1 : d (k - 1) = 0
      · go_wp2
        go_round
        case rel => exact ⟨k - 1, by omega, by go_num, fun i a b => by by_cases e : i = k - 1; (· rw [e]; exact h1); (· exact HZ.out i (by omega) b)⟩
        case measure => simp [intOf]; omega
      · go_wp2
        go_ret
        exact ⟨k, hk, .inr h1, HZ.out, by unfold cutV; rw [if_neg h0]; simp, rfl⟩
end Go.Proofs.YtmbajngbiefilaaGreatDoor

/-
  Package nat: sum, difference, compare, by contracts: for every two lists of digits.
-/
namespace Go.Proofs.YtmbajngbiefilaaGreatDoor
open Go Go.RowKit Go.Proofs.YtmbajngbiefilaaGreatDoor.M
set_option linter.unusedSimpArgs false
set_option linter.unusedVariables false

set_option maxHeartbeats 1000000 in
theorem sum_ge (ao bo : Option Addr) (n m ca cb : Nat) (a b : Nat → Int) (w : World) (ha : Row w ao n ca a) (hb : Row w bo m cb b) (da : Dig a n) (db : Dig b m) (hn : n ≤ 100000) (hmn : m ≤ n) :
    Calls Tryz.prog 48 #[.slice ao n ca, .slice bo m cb] w fun e w' => ∃ v, e = .returned v ∧ Ans w w' (val a n + val b m) v := by
  have hla := ha.le
  have hma := ha.max
  have hlb := hb.le
  have hmb := hb.max
  go_enter Tryz.func48, Tryz.ntmps48
  go_wp2_with (at_make; refine wpList_mk rfl _ _ rfl _ _ (n + 1) rfl rfl (by omega) (by omega) (by omega) ?_; intro w1 hB1 hb1)
  go_loopw [6, 21] (fun c i wr => ∃ (k : Nat) (q : Int) (r : Nat → Int), k ≤ n ∧ i = .int .i64 k ∧ c = .int .i64 q ∧ 0 ≤ q ∧ q ≤ 1 ∧ Blk wr w.heap.size (n + 1) r ∧ Dig r (n + 1) ∧ Hid (val r k + q * P k = val a k + val (ext b m) k) ∧ Below w.heap.size w wr) (fun _ i _ => n - (intOf i).toNat)
  case atStart => exact ⟨0, 0, fun _ => 0, Nat.zero_le _, rfl, rfl, by omega, by omega, hB1, zero_dig _, rfl, hb1⟩
  case round =>
    obtain ⟨k, q, r, hk, rfl, rfl, hq0, hq1, hB, hD, HV, hbw⟩ := hrel
    have cg := fun h : k < n + 1 => hB.cell h
    have fg := hB.frozen k
    by_cases hlt : k < n
    · obtain ⟨ba, fa, rfl, hba, hca⟩ := ha.spot (by omega)
      have c1 := (hbw.cell (p := ⟨ba, fa + k, none⟩) hba).trans (hca k hlt)
      have dk := da k hlt
      by_cases hkm : k < m
      · obtain ⟨bb, fb, rfl, hbb, hcb⟩ := hb.spot (by omega)
        have c2 := (hbw.cell (p := ⟨bb, fb + k, none⟩) hbb).trans (hcb k hkm)
        have dbk := db k hkm
        have h30 := and_30 (q + a k + b k)
        go_wp2
        have he := ext_lt b hkm
        have hs := sum_step (x := a k + ext b m k) HV.out
        rw [he, show q + (a k + b k) = q + a k + b k by omega] at hs
        go_roundw
        case rel => exact ⟨k + 1, (q + a k + b k) / 1073741824, upd r k ((q + a k + b k) % 1073741824), by omega, by go_num, rfl, by omega, by omega, hB.store k _, hD.upd k (mod_dig _), by show _ = _; rw [hs, val_succ, val_succ, he]; grind, hbw.setCell (Nat.le_refl _) _⟩
        case measure => simp [intOf]; omega
      · have h30 := and_30 (q + a k)
        go_wp2
        have he := ext_ge b (show m ≤ k by omega)
        have hs := sum_step (x := a k + ext b m k) HV.out
        rw [he, show q + (a k + 0) = q + a k by omega] at hs
        go_roundw
        case rel => exact ⟨k + 1, (q + a k) / 1073741824, upd r k ((q + a k) % 1073741824), by omega, by go_num, rfl, by omega, by omega, hB.store k _, hD.upd k (mod_dig _), by show _ = _; rw [hs, val_succ, val_succ, he]; grind, hbw.setCell (Nat.le_refl _) _⟩
        case measure => simp [intOf]; omega
    · obtain rfl : k = n := by omega
      have hB2 := hB.store k q
      go_wp2_with (go_at_call 76; refine (trim_any _ _ _ _ _ (hB2.row0 (Nat.le_refl _) (by omega))).mono ?_; rintro e w3 ⟨t, ht, htop, hz, rfl, rfl⟩)
      go_ret
      have D2 : Dig (upd r k q) (k + 1) := hD.upd k (by omega)
      obtain ⟨hN, hv⟩ := nrm_of_top D2 ht htop hz
      refine ⟨_, rfl, t, upd r k q, hB2.cut (Nat.le_refl _) ht (by omega), hN, ?_, hbw.setCell (Nat.le_refl _) _⟩
      rw [hv, val_succ, upd_same, val_upd_ge r _ (Nat.le_refl _), HV.out, val_ext b (by omega)]

set_option maxHeartbeats 1000000 in
theorem sum_lt (ao bo : Option Addr) (n m ca cb : Nat) (a b : Nat → Int) (w : World) (ha : Row w ao n ca a) (hb : Row w bo m cb b) (da : Dig a n) (db : Dig b m) (hn : n ≤ 100000) (hmn : m < n) :
    Calls Tryz.prog 48 #[.slice bo m cb, .slice ao n ca] w fun e w' => ∃ v, e = .returned v ∧ Ans w w' (val a n + val b m) v := by
  have hla := ha.le
  have hma := ha.max
  have hlb := hb.le
  have hmb := hb.max
  go_enter Tryz.func48, Tryz.ntmps48
  go_wp2_with (at_make; refine wpList_mk rfl _ _ rfl _ _ (n + 1) rfl rfl (by omega) (by omega) (by omega) ?_; intro w1 hB1 hb1)
  go_loopw [6, 21] (fun c i wr => ∃ (k : Nat) (q : Int) (r : Nat → Int), k ≤ n ∧ i = .int .i64 k ∧ c = .int .i64 q ∧ 0 ≤ q ∧ q ≤ 1 ∧ Blk wr w.heap.size (n + 1) r ∧ Dig r (n + 1) ∧ Hid (val r k + q * P k = val a k + val (ext b m) k) ∧ Below w.heap.size w wr) (fun _ i _ => n - (intOf i).toNat)
  case atStart => exact ⟨0, 0, fun _ => 0, Nat.zero_le _, rfl, rfl, by omega, by omega, hB1, zero_dig _, rfl, hb1⟩
  case round =>
    obtain ⟨k, q, r, hk, rfl, rfl, hq0, hq1, hB, hD, HV, hbw⟩ := hrel
    have cg := fun h : k < n + 1 => hB.cell h
    have fg := hB.frozen k
    by_cases hlt : k < n
    · obtain ⟨ba, fa, rfl, hba, hca⟩ := ha.spot (by omega)
      have c1 := (hbw.cell (p := ⟨ba, fa + k, none⟩) hba).trans (hca k hlt)
      have dk := da k hlt
      by_cases hkm : k < m
      · obtain ⟨bb, fb, rfl, hbb, hcb⟩ := hb.spot (by omega)
        have c2 := (hbw.cell (p := ⟨bb, fb + k, none⟩) hbb).trans (hcb k hkm)
        have dbk := db k hkm
        have h30 := and_30 (q + a k + b k)
        go_wp2
        have he := ext_lt b hkm
        have hs := sum_step (x := a k + ext b m k) HV.out
        rw [he, show q + (a k + b k) = q + a k + b k by omega] at hs
        go_roundw
        case rel => exact ⟨k + 1, (q + a k + b k) / 1073741824, upd r k ((q + a k + b k) % 1073741824), by omega, by go_num, rfl, by omega, by omega, hB.store k _, hD.upd k (mod_dig _), by show _ = _; rw [hs, val_succ, val_succ, he]; grind, hbw.setCell (Nat.le_refl _) _⟩
        case measure => simp [intOf]; omega
      · have h30 := and_30 (q + a k)
        go_wp2
        have he := ext_ge b (show m ≤ k by omega)
        have hs := sum_step (x := a k + ext b m k) HV.out
        rw [he, show q + (a k + 0) = q + a k by omega] at hs
        go_roundw
        case rel => exact ⟨k + 1, (q + a k) / 1073741824, upd r k ((q + a k) % 1073741824), by omega, by go_num, rfl, by omega, by omega, hB.store k _, hD.upd k (mod_dig _), by show _ = _; rw [hs, val_succ, val_succ, he]; grind, hbw.setCell (Nat.le_refl _) _⟩
        case measure => simp [intOf]; omega
    · obtain rfl : k = n := by omega
      have hB2 := hB.store k q
      go_wp2_with (go_at_call 76; refine (trim_any _ _ _ _ _ (hB2.row0 (Nat.le_refl _) (by omega))).mono ?_; rintro e w3 ⟨t, ht, htop, hz, rfl, rfl⟩)
      go_ret
      have D2 : Dig (upd r k q) (k + 1) := hD.upd k (by omega)
      obtain ⟨hN, hv⟩ := nrm_of_top D2 ht htop hz
      refine ⟨_, rfl, t, upd r k q, hB2.cut (Nat.le_refl _) ht (by omega), hN, ?_, hbw.setCell (Nat.le_refl _) _⟩
      rw [hv, val_succ, upd_same, val_upd_ge r _ (Nat.le_refl _), HV.out, val_ext b (by omega)]
theorem sum_any (ao bo : Option Addr) (n m ca cb : Nat) (a b : Nat → Int) (w : World) (ha : Row w ao n ca a) (hb : Row w bo m cb b) (da : Dig a n) (db : Dig b m) (hn : n ≤ 100000) (hm : m ≤ 100000) :
    Calls Tryz.prog 48 #[.slice ao n ca, .slice bo m cb] w fun e w' => ∃ v, e = .returned v ∧ Ans w w' (val a n + val b m) v := by
  by_cases h : m ≤ n
  · exact sum_ge ao bo n m ca cb a b w ha hb da db hn h
  · refine (sum_lt bo ao m n cb ca b a w hb ha db da hm (by omega)).mono ?_
    rintro e w' ⟨v, h1, h2⟩
    exact ⟨v, h1, by rw [Int.add_comm]; exact h2⟩

set_option maxHeartbeats 1000000 in
theorem difference_any (ao bo : Option Addr) (n m ca cb : Nat) (a b : Nat → Int) (w : World) (ha : Row w ao n ca a) (hb : Row w bo m cb b) (da : Dig a n) (db : Dig b m) (hn : n ≤ 100000) (hm : m ≤ n) (hv : val b m ≤ val a n) :
    Calls Tryz.prog 57 #[.slice ao n ca, .slice bo m cb] w fun e w' => ∃ v, e = .returned v ∧ Ans w w' (val a n - val b m) v := by
  have hla := ha.le
  have hma := ha.max
  have hlb := hb.le
  have hmb := hb.max
  have HV0 : Hid (val b m ≤ val a n) := hv
  clear hv
  go_enter Tryz.func57, Tryz.ntmps57
  go_wp2_with (at_make; refine wpList_mk rfl _ _ rfl _ _ n rfl rfl (by omega) (by omega) (by omega) ?_; intro w1 hB1 hb1)
  go_loopw [6, 13] (fun c i wr => ∃ (k : Nat) (q : Int) (r : Nat → Int), k ≤ n ∧ i = .int .i64 k ∧ c = .int .i64 q ∧ -1 ≤ q ∧ q ≤ 0 ∧ Blk wr w.heap.size n r ∧ Dig r n ∧ Hid (val r k + q * P k = val a k - val (ext b m) k) ∧ Below w.heap.size w wr) (fun _ i _ => n - (intOf i).toNat)
  case atStart => exact ⟨0, 0, fun _ => 0, Nat.zero_le _, rfl, rfl, by omega, by omega, hB1, zero_dig _, rfl, hb1⟩
  case round =>
    obtain ⟨k, q, r, hk, rfl, rfl, hq0, hq1, hB, hD, HV, hbw⟩ := hrel
    have cg := fun h : k < n => hB.cell h
    have fg := hB.frozen k
    by_cases hlt : k < n
    · obtain ⟨ba, fa, rfl, hba, hca⟩ := ha.spot (by omega)
      have c1 := (hbw.cell (p := ⟨ba, fa + k, none⟩) hba).trans (hca k hlt)
      have dk := da k hlt
      by_cases hkm : k < m
      · obtain ⟨bb, fb, rfl, hbb, hcb⟩ := hb.spot (by omega)
        have c2 := (hbw.cell (p := ⟨bb, fb + k, none⟩) hbb).trans (hcb k hkm)
        have dbk := db k hkm
        have h30 := and_30 (q + a k - b k)
        go_wp2
        have he := ext_lt b hkm
        have hs := sum_step (x := a k - ext b m k) HV.out
        rw [he, show q + (a k - b k) = q + a k - b k by omega] at hs
        go_roundw
        case rel => exact ⟨k + 1, (q + a k - b k) / 1073741824, upd r k ((q + a k - b k) % 1073741824), by omega, by go_num, rfl, by omega, by omega, hB.store k _, hD.upd k (mod_dig _), by show _ = _; rw [hs, val_succ, val_succ, he]; grind, hbw.setCell (Nat.le_refl _) _⟩
        case measure => simp [intOf]; omega
      · have h30 := and_30 (q + a k)
        go_wp2
        have he := ext_ge b (show m ≤ k by omega)
        have hs := sum_step (x := a k - ext b m k) HV.out
        rw [he, show q + (a k - 0) = q + a k by omega] at hs
        go_roundw
        case rel => exact ⟨k + 1, (q + a k) / 1073741824, upd r k ((q + a k) % 1073741824), by omega, by go_num, rfl, by omega, by omega, hB.store k _, hD.upd k (mod_dig _), by show _ = _; rw [hs, val_succ, val_succ, he]; grind, hbw.setCell (Nat.le_refl _) _⟩
        case measure => simp [intOf]; omega
    · obtain rfl : k = n := by omega
      go_wp2_with (go_at_call 76; refine (trim_any _ _ _ _ _ (hB.row0 (Nat.le_refl _) (by omega))).mono ?_; rintro e w3 ⟨t, ht, htop, hz, rfl, rfl⟩)
      go_ret
      obtain ⟨hN, hv⟩ := nrm_of_top hD ht htop hz
      refine ⟨_, rfl, t, r, hB.cut (Nat.le_refl _) ht (by omega), hN, ?_, hbw⟩
      have h1 := HV.out
      have h2 := HV0.out
      rw [val_ext b hm] at h1
      have h3 := val_lt hD
      have h4 : q = 0 := by
        by_cases e : q = -1
        · subst e; omega
        · omega
      subst h4
      rw [hv]; omega
end Go.Proofs.YtmbajngbiefilaaGreatDoor

/-
  Package nat: product, by its contract: for every two lists of digits.
-/
namespace Go.Proofs.YtmbajngbiefilaaGreatDoor
open Go Go.RowKit Go.Proofs.YtmbajngbiefilaaGreatDoor.M
set_option linter.unusedSimpArgs false
set_option linter.unusedVariables false

set_option maxHeartbeats 2000000 in
theorem product_any (ao bo : Option Addr) (n m ca cb : Nat) (a b : Nat → Int) (w : World) (ha : Row w ao n ca a) (hb : Row w bo m cb b) (da : Dig a n) (db : Dig b m) (hn : n ≤ 100000) (hm : m ≤ 100000) :
    Calls Tryz.prog 49 #[.slice ao n ca, .slice bo m cb] w fun e w' => ∃ v, e = .returned v ∧ Ans w w' (val a n * val b m) v := by
  have hla := ha.le
  have hma := ha.max
  have hlb := hb.le
  have hmb := hb.max
  go_enter Tryz.func49, Tryz.ntmps49
  go_wp2_with (at_make; refine wpList_mk rfl _ _ rfl _ _ (n + m) rfl rfl (by omega) (by omega) (by omega) ?_; intro w1 hB1 hb1)
  go_loopw [18] (fun i wr => ∃ (k : Nat) (r : Nat → Int), k ≤ n ∧ i = .int .i64 k ∧ Blk wr w.heap.size (n + m) r ∧ Dig r (n + m) ∧ Hid (∀ t, k + m ≤ t → r t = 0) ∧ Hid (val r (k + m) = val a k * val b m) ∧ Below w.heap.size w wr) (fun i _ => n - (intOf i).toNat)
  case atStart => exact ⟨0, fun _ => 0, Nat.zero_le _, rfl, hB1, zero_dig _, fun _ _ => rfl, by show _ = _; rw [val_zeros (Nat.zero_le (0 + m)) (fun _ _ _ => rfl)]; show 0 = 0 * val b m; omega, hb1⟩
  case round =>
    obtain ⟨i, r0, hi, rfl, hB0, hD0, HZ0, HV0, hbw0⟩ := hrel
    by_cases hlt : i < n
    · obtain ⟨ba, fa, rfl, hba, hca⟩ := ha.spot (by omega)
      have dai := da i hlt
      go_wp2
      go_loopw [8, 30] (fun c j wr => ∃ (k : Nat) (q : Int) (r : Nat → Int), k ≤ m ∧ j = .int .i64 k ∧ c = .int .i64 q ∧ 0 ≤ q ∧ q < 1073741824 ∧ Blk wr w.heap.size (n + m) r ∧ Dig r (n + m) ∧ Hid (∀ t, i + k ≤ t → r t = r0 t) ∧ Hid (val r (i + k) + q * P (i + k) = val r0 (i + k) + a i * val b k * P i) ∧ Below w.heap.size w wr) (fun _ j _ => m - (intOf j).toNat)
      case atStart => exact ⟨0, 0, r0, Nat.zero_le _, rfl, rfl, by omega, by omega, hB0, hD0, fun _ _ => rfl, by show _ = _; show val r0 i + 0 * P i = val r0 i + a i * 0 * P i; grind, hbw0⟩
      case round =>
        obtain ⟨k, q, r, hk, rfl, rfl, hq0, hq1, hB, hD, HS, HV, hbw⟩ := hrel
        have c1 := (hbw.cell (p := ⟨ba, fa + i, none⟩) hba).trans (hca i hlt)
        by_cases hkm : k < m
        · obtain ⟨bb, fb, rfl, hbb, hcb⟩ := hb.spot (by omega)
          have c2 := (hbw.cell (p := ⟨bb, fb + k, none⟩) hbb).trans (hcb k hkm)
          have c3 := hB.cell (show i + k < n + m by omega)
          have fg := hB.frozen (i + k)
          have drk := hD (i + k) (by omega)
          have hmul := dig_mul dai (db k hkm)
          have h30 := and_30 (q + (a i * b k + r (i + k)))
          go_wp2
          go_quiet (fail)
          go_wp2
          have hs := mul_step (b := b) (j := k) HV.out (HS.out (i + k) (Nat.le_refl _))
          go_roundw
          case rel => exact ⟨k + 1, _, upd r (i + k) ((q + (a i * b k + r (i + k))) % 1073741824), by omega, by go_num, rfl, by omega, by omega, hB.store (i + k) _, hD.upd _ (mod_dig _), fun t ht => by rw [upd_other r _ (by omega)]; exact HS.out t (by omega), hs, (bDrewN hbw _).setCell (Nat.le_refl _) _⟩
          case measure => simp [intOf]; omega
        · obtain rfl : k = m := by omega
          have c3 := hB.cell (show i + k < n + k by omega)
          have fg := hB.frozen (i + k)
          go_wp2
          have hr := mul_row HV.out HV0.out
          go_roundw
          case rel => exact ⟨i + 1, upd r (i + k) q, by omega, by go_num, hB.store (i + k) _, hD.upd _ ⟨hq0, hq1⟩, fun t ht => by rw [upd_other r _ (by omega), HS.out t (by omega)]; exact HZ0.out t (by omega), by show _ = _; rw [hr, val_succ], hbw.setCell (Nat.le_refl _) _⟩
          case measure => simp [intOf]; omega
    · obtain rfl : i = n := by omega
      go_wp2_with (go_at_call 76; refine (trim_any _ _ _ _ _ (hB0.row0 (Nat.le_refl _) (by omega))).mono ?_; rintro e w3 ⟨t, ht, htop, hz, rfl, rfl⟩)
      go_ret
      obtain ⟨hN, hv⟩ := nrm_of_top hD0 ht htop hz
      exact ⟨_, rfl, t, r0, hB0.cut (Nat.le_refl _) ht (by omega), hN, by rw [hv, HV0.out], hbw0⟩
end Go.Proofs.YtmbajngbiefilaaGreatDoor

/-
  Package nat: Cmp, Add, Sub, Mul, by contracts: for every two lists.
-/
namespace Go.Proofs.YtmbajngbiefilaaGreatDoor
open Go Go.RowKit Go.Proofs.YtmbajngbiefilaaGreatDoor.M
set_option linter.unusedSimpArgs false
set_option linter.unusedVariables false

theorem cmpInt_any (x y : Int) (w : World) : Calls Tryz.prog 92 #[.int .i64 x, .int .i64 y] w fun e w' => e = .returned (.int .i64 (ord x y)) ∧ w' = w := by
  by_cases h1 : x < y
  · go_enter Tryz.func92, Tryz.ntmps92
    go_wp2
    go_ret
    exact ⟨ret_int (ord_lt h1).symm, rfl⟩
  · by_cases h2 : y < x
    · go_enter Tryz.func92, Tryz.ntmps92
      go_wp2
      go_ret
      exact ⟨ret_int (ord_gt h2).symm, rfl⟩
    · go_enter Tryz.func92, Tryz.ntmps92
      go_wp2
      go_ret
      exact ⟨ret_int (ord_eq (show x = y by omega)).symm, rfl⟩

theorem ord_ge {a b : Int} (h : b ≤ a) : ¬ ord a b < 0 := by
  rcases Int.lt_or_eq_of_le h with h1 | h1
  · rw [ord_gt h1]; decide
  · rw [ord_eq h1.symm]; decide
theorem ord_len {d e : Nat → Int} {n m : Nat} (hd : Nrm d n) (he : Nrm e m) (h : n ≠ m) : ord n m = ord (val d n) (val e m) := by
  rcases Nat.lt_or_gt_of_ne h with h1 | h1
  · rw [ord_lt (by omega), ord_lt (nrm_lt hd.1 he h1)]
  · rw [ord_gt (by omega), ord_gt (nrm_lt he.1 hd h1)]
theorem ord_top {d e : Nat → Int} {n k : Nat} (hd : Dig d n) (he : Dig e n) (hk : k < n) (hs : ∀ i, k < i → i < n → d i = e i) (hne : d k ≠ e k) : ord (d k) (e k) = ord (val d n) (val e n) := by
  rcases Int.lt_or_gt_of_ne hne with h1 | h1
  · rw [ord_lt h1, ord_lt (cmp_top hd he hk hs h1)]
  · rw [ord_gt h1, ord_gt (cmp_top he hd hk (fun i a b => (hs i a b).symm) h1)]

set_option maxHeartbeats 1000000 in
theorem compare_any (ao bo : Option Addr) (n m ca cb : Nat) (a b : Nat → Int) (w : World) (ha : Row w ao n ca a) (hb : Row w bo m cb b) (na : Nrm a n) (nb : Nrm b m) :
    Calls Tryz.prog 70 #[.slice ao n ca, .slice bo m cb] w fun e w' => e = .returned (.int .i64 (ord (val a n) (val b m))) ∧ Below w.heap.size w w' := by
  have hla := ha.le
  have hma := ha.max
  have hlb := hb.le
  have hmb := hb.max
  by_cases hnm : n = m
  · subst hnm
    go_enter Tryz.func70, Tryz.ntmps70
    go_wp2
    go_loopw [19] (fun i wr => ∃ k : Nat, k ≤ n ∧ i = .int .i64 k ∧ Hid (∀ i, n - k ≤ i → i < n → a i = b i) ∧ Below w.heap.size w wr) (fun i _ => n - (intOf i).toNat)
    case atStart => exact ⟨0, Nat.zero_le _, rfl, fun i _ _ => by omega, bel_refl _⟩
    case round =>
      obtain ⟨k, hk, rfl, HS, hbw⟩ := hrel
      by_cases hlt : k < n
      · obtain ⟨ba, fa, rfl, hba, hca⟩ := ha.spot (by omega)
        obtain ⟨bb, fb, rfl, hbb, hcb⟩ := hb.spot (by omega)
        have c1 := (hbw.cell (p := ⟨ba, fa + (n - 1 - k), none⟩) hba).trans (hca (n - 1 - k) (by omega))
        have c2 := (hbw.cell (p := ⟨bb, fb + (n - 1 - k), none⟩) hbb).trans (hcb (n - 1 - k) (by omega))
        by_cases he : a (n - 1 - k) = b (n - 1 - k)
        · have he' : (a (n - 1 - k) != b (n - 1 - k)) = false := by simp [he]
          have HE : Hid (a (n - 1 - k) = b (n - 1 - k)) := he
          clear he
          go_wp2
          go_quiet (fail)
          go_wp2
          go_roundw
          case rel => exact ⟨k + 1, by omega, by go_num, fun i x y => by by_cases e : i = n - 1 - k; (· rw [e]; exact HE.out); (· exact HS.out i (by omega) y), bDrewN hbw _⟩
          case measure => simp [intOf]; omega
        · have he' : (a (n - 1 - k) != b (n - 1 - k)) = true := by simp [he]
          go_wp2
          go_quiet (fail)
          go_wp2
          go_quiet ((refine (cmpInt_any _ _ _).mono ?_; rintro _ _ ⟨rfl, rfl⟩; exact ⟨rfl, _, rfl⟩))
          go_wp2
          go_ret
          exact ⟨ret_int (ord_top na.1 nb.1 (show n - 1 - k < n by omega) (fun i x y => HS.out i (by omega) y) he), bDrewN (bDrewN hbw _) _⟩
      · obtain rfl : k = n := by omega
        go_wp2
        go_ret
        exact ⟨ret_int (ord_eq (val_congr fun i hi => HS.out i (by omega) hi)).symm, hbw⟩
  · go_enter Tryz.func70, Tryz.ntmps70
    go_wp2_with (go_at_call 92; refine (cmpInt_any _ _ _).mono ?_; rintro e w' ⟨rfl, rfl⟩)
    go_ret
    exact ⟨ret_int (ord_len na nb hnm), bel_refl _⟩

/-- What fit hands on. -/
def fitV (ao : Option Addr) (t cap : Nat) : Value := if 2000 < t then .slice none 0 0 else .slice ao t cap
def fitE (t : Nat) : Int := if 2000 < t then 2 else 0
theorem fit_any (ao : Option Addr) (t cap : Nat) (w : World) : Calls Tryz.prog 47 #[.slice ao t cap] w fun e w' => e = .returned (.tuple #[fitV ao t cap, .int .i64 (fitE t)]) ∧ w' = w := by
  by_cases h : 2000 < t
  · go_enter Tryz.func47, Tryz.ntmps47
    go_wp2
    go_ret2
    exact ⟨by simp [fitV, fitE, h], rfl⟩
  · go_enter Tryz.func47, Tryz.ntmps47
    go_wp2
    go_ret2
    exact ⟨by simp [fitV, fitE, h], rfl⟩
theorem Fit.of {w w' : World} {V : Int} {ao : Option Addr} {t cap : Nat} {d : Nat → Int} (h1 : Out w.heap.size w' (.slice ao t cap) t d) (h2 : Nrm d t) (h3 : val d t = V) (hb : Below w.heap.size w w') : Fit w w' V (fitV ao t cap) (fitE t) := by
  refine ⟨hb, ?_⟩
  by_cases h : 2000 < t
  · refine .inr ⟨?_, by simp [fitE, h], by simp [fitV, h]⟩
    have a := val_top h2.1 (by omega) h2.2
    have b := P_le (show 2000 ≤ t - 1 by omega)
    omega
  · refine .inl ⟨?_, by simp [fitE, h], ?_⟩
    · have a := val_lt h2.1
      have b := P_le (show t ≤ 2000 by omega)
      omega
    · rw [show fitV ao t cap = .slice ao t cap by simp [fitV, h]]
      exact ⟨t, d, h1, h2, h3, hb⟩

/-- The two lists of a call, as they lie. -/
structure Two (w : World) (ao bo : Option Addr) (n m ca cb : Nat) (a b : Nat → Int) : Prop where
  ra : Row w ao n ca a
  rb : Row w bo m cb b
theorem Two.keeps {w w' : World} {ao bo : Option Addr} {n m ca cb : Nat} {a b : Nat → Int} (h : Two w ao bo n m ca cb a b) (hb : Below w.heap.size w w') : Two w' ao bo n m ca cb a b := ⟨h.ra.keeps hb, h.rb.keeps hb⟩

set_option maxHeartbeats 400000 in
theorem cmp_yes (ao bo : Option Addr) (n m ca cb : Nat) (a b : Nat → Int) (w : World) (h : Two w ao bo n m ca cb a b) (oa : okB a n = true) (ob : okB b m = true) :
    Calls Tryz.prog 32 #[.slice ao n ca, .slice bo m cb] w fun e w' => e = .returned (.tuple #[.int .i64 (ord (val a n) (val b m)), .int .i64 0]) ∧ Below w.heap.size w w' := by
  go_enter Tryz.func32, Tryz.ntmps32
  go_wp2_with fail
  refine (valid_any _ _ _ _ _ h.ra).mono ?_
  rintro e w' ⟨rfl, rfl⟩
  go_wp2_with fail
  refine (valid_any _ _ _ _ _ h.rb).mono ?_
  rintro e w' ⟨rfl, rfl⟩
  go_wp2_with fail
  refine (compare_any _ _ _ _ _ _ _ _ _ h.ra h.rb (okB_out oa).2 (okB_out ob).2).mono ?_
  rintro e w' ⟨rfl, hb⟩
  go_wp2
  go_ret2
  exact ⟨rfl, hb⟩
set_option maxHeartbeats 400000 in
theorem add_yes (ao bo : Option Addr) (n m ca cb : Nat) (a b : Nat → Int) (w : World) (h : Two w ao bo n m ca cb a b) (oa : okB a n = true) (ob : okB b m = true) :
    Calls Tryz.prog 9 #[.slice ao n ca, .slice bo m cb] w fun e w' => ∃ v er, e = .returned (.tuple #[v, .int .i64 er]) ∧ Fit w w' (val a n + val b m) v er := by
  obtain ⟨la, na⟩ := okB_out oa
  obtain ⟨lb, nb⟩ := okB_out ob
  go_enter Tryz.func9, Tryz.ntmps9
  go_wp2_with fail
  refine (valid_any _ _ _ _ _ h.ra).mono ?_
  rintro e w' ⟨rfl, rfl⟩
  go_wp2_with fail
  refine (valid_any _ _ _ _ _ h.rb).mono ?_
  rintro e w' ⟨rfl, rfl⟩
  go_wp2_with fail
  refine (sum_any _ _ _ _ _ _ _ _ _ h.ra h.rb na.1 nb.1 (by omega) (by omega)).mono ?_
  rintro e w1 ⟨v, rfl, t, d, hO, hN, hV, hB⟩
  obtain ⟨ao', cap', rfl, hR⟩ := hO.row
  go_wp2_with fail
  refine (fit_any _ _ _ _).mono ?_
  rintro e w2 ⟨rfl, rfl⟩
  go_wp2
  go_ret2
  exact ⟨_, _, rfl, Fit.of hO hN hV hB⟩
set_option maxHeartbeats 400000 in
theorem sub_yes (ao bo : Option Addr) (n m ca cb : Nat) (a b : Nat → Int) (w : World) (h : Two w ao bo n m ca cb a b) (oa : okB a n = true) (ob : okB b m = true) (hle : val b m ≤ val a n) :
    Calls Tryz.prog 33 #[.slice ao n ca, .slice bo m cb] w fun e w' => ∃ v, e = .returned (.tuple #[v, .int .i64 0]) ∧ Ans w w' (val a n - val b m) v := by
  obtain ⟨la, na⟩ := okB_out oa
  obtain ⟨lb, nb⟩ := okB_out ob
  have ho : decide (ord (val a n) (val b m) < 0) = false := decide_eq_false (ord_ge hle)
  have HL : Hid (val b m ≤ val a n) := hle
  clear hle
  go_enter Tryz.func33, Tryz.ntmps33
  go_wp2_with fail
  refine (valid_any _ _ _ _ _ h.ra).mono ?_
  rintro e w' ⟨rfl, rfl⟩
  go_wp2_with fail
  refine (valid_any _ _ _ _ _ h.rb).mono ?_
  rintro e w' ⟨rfl, rfl⟩
  go_wp2_with fail
  refine (compare_any _ _ _ _ _ _ _ _ _ h.ra h.rb na nb).mono ?_
  rintro e w1 ⟨rfl, hb⟩
  go_wp2_with fail
  refine (difference_any _ _ _ _ _ _ _ _ _ (h.ra.keeps hb) (h.rb.keeps hb) na.1 nb.1 (by omega) (nrm_le_len nb na.1 HL.out) HL.out).mono ?_
  rintro e w2 ⟨v, rfl, hA⟩
  go_wp2
  go_ret2
  exact ⟨_, rfl, hA.from hb⟩
set_option maxHeartbeats 400000 in
theorem sub_no (ao bo : Option Addr) (n m ca cb : Nat) (a b : Nat → Int) (w : World) (h : Two w ao bo n m ca cb a b) (oa : okB a n = true) (ob : okB b m = true) (hlt : val a n < val b m) :
    Calls Tryz.prog 33 #[.slice ao n ca, .slice bo m cb] w fun e w' => e = .returned (.tuple #[.slice none 0 0, .int .i64 13]) ∧ Below w.heap.size w w' := by
  obtain ⟨la, na⟩ := okB_out oa
  obtain ⟨lb, nb⟩ := okB_out ob
  have ho : decide (ord (val a n) (val b m) < 0) = true := by rw [ord_lt hlt]; decide
  go_enter Tryz.func33, Tryz.ntmps33
  go_wp2_with fail
  refine (valid_any _ _ _ _ _ h.ra).mono ?_
  rintro e w' ⟨rfl, rfl⟩
  go_wp2_with fail
  refine (valid_any _ _ _ _ _ h.rb).mono ?_
  rintro e w' ⟨rfl, rfl⟩
  go_wp2_with fail
  refine (compare_any _ _ _ _ _ _ _ _ _ h.ra h.rb na nb).mono ?_
  rintro e w1 ⟨rfl, hb⟩
  go_wp2
  go_ret2
  exact ⟨rfl, hb⟩
set_option maxHeartbeats 1000000 in
theorem mul_yes (ao bo : Option Addr) (n m ca cb : Nat) (a b : Nat → Int) (w : World) (h : Two w ao bo n m ca cb a b) (oa : okB a n = true) (ob : okB b m = true) :
    Calls Tryz.prog 10 #[.slice ao n ca, .slice bo m cb] w fun e w' => ∃ v er, e = .returned (.tuple #[v, .int .i64 er]) ∧ Fit w w' (val a n * val b m) v er := by
  obtain ⟨la, na⟩ := okB_out oa
  obtain ⟨lb, nb⟩ := okB_out ob
  by_cases h0 : n = 0 ∨ m = 0
  · have hV : val a n * val b m = 0 := by rcases h0 with rfl | rfl <;> simp [val]
    have F : Fit w w (val a n * val b m) (.slice none 0 0) 0 := ⟨bel_refl _, .inl ⟨by rw [hV]; exact P_pos _, rfl, by rw [hV]; exact Ans.nil (bel_refl _)⟩⟩
    by_cases hn : n = 0
    · subst hn
      go_enter Tryz.func10, Tryz.ntmps10
      go_wp2_with fail
      refine (valid_any _ _ _ _ _ h.ra).mono ?_
      rintro e w' ⟨rfl, rfl⟩
      go_wp2_with fail
      refine (valid_any _ _ _ _ _ h.rb).mono ?_
      rintro e w' ⟨rfl, rfl⟩
      go_wp2
      go_ret2
      exact ⟨_, _, rfl, F⟩
    · have hm : m = 0 := by omega
      subst hm
      go_enter Tryz.func10, Tryz.ntmps10
      go_wp2_with fail
      refine (valid_any _ _ _ _ _ h.ra).mono ?_
      rintro e w' ⟨rfl, rfl⟩
      go_wp2_with fail
      refine (valid_any _ _ _ _ _ h.rb).mono ?_
      rintro e w' ⟨rfl, rfl⟩
      go_wp2
      go_ret2
      exact ⟨_, _, rfl, F⟩
  · have hn : 0 < n := by omega
    have hm : 0 < m := by omega
    clear h0
    have e1 : ((n : Int) == 0) = false := by simp; omega
    have e2 : ((m : Int) == 0) = false := by simp; omega
    by_cases hl : n + m - 1 ≤ 2000
    · go_enter Tryz.func10, Tryz.ntmps10
      go_wp2_with fail
      refine (valid_any _ _ _ _ _ h.ra).mono ?_
      rintro e w' ⟨rfl, rfl⟩
      go_wp2_with fail
      refine (valid_any _ _ _ _ _ h.rb).mono ?_
      rintro e w' ⟨rfl, rfl⟩
      go_wp2_with fail
      refine (product_any _ _ _ _ _ _ _ _ _ h.ra h.rb na.1 nb.1 (by omega) (by omega)).mono ?_
      rintro e w1 ⟨v, rfl, t, d, hO, hN, hV, hB⟩
      obtain ⟨ao', cap', rfl, hR⟩ := hO.row
      go_wp2_with fail
      refine (fit_any _ _ _ _).mono ?_
      rintro e w2 ⟨rfl, rfl⟩
      go_wp2
      go_ret2
      exact ⟨_, _, rfl, Fit.of hO hN hV hB⟩
    · have hV : P 2000 ≤ val a n * val b m := by
        have a1 := val_top na.1 hn na.2
        have b1 := val_top nb.1 hm nb.2
        have c1 : P (n - 1) * P (m - 1) ≤ val a n * val b m := Int.mul_le_mul a1 b1 (Int.le_of_lt (P_pos _)) (val_nonneg na.1)
        rw [← P_add] at c1
        have := P_le (show 2000 ≤ n - 1 + (m - 1) by omega)
        omega
      have F : Fit w w (val a n * val b m) (.slice none 0 0) 2 := ⟨bel_refl _, .inr ⟨hV, rfl, rfl⟩⟩
      clear hV
      go_enter Tryz.func10, Tryz.ntmps10
      go_wp2_with fail
      refine (valid_any _ _ _ _ _ h.ra).mono ?_
      rintro e w' ⟨rfl, rfl⟩
      go_wp2_with fail
      refine (valid_any _ _ _ _ _ h.rb).mono ?_
      rintro e w' ⟨rfl, rfl⟩
      go_wp2
      go_ret2
      exact ⟨_, _, rfl, F⟩
end Go.Proofs.YtmbajngbiefilaaGreatDoor

/-
  Plain mathematics of shifts of digit lists: powers of 2, bits put together, digits shifted by part of a digit. No Go text in sight.
-/
namespace Go.Proofs.YtmbajngbiefilaaGreatDoor.M
open Go
set_option linter.unusedSimpArgs false
set_option linter.unusedVariables false

/-- l is the lowest bit of V. -/
def IsLow (V : Int) (l : Nat) : Prop := ∃ m : Int, V = (2 * m + 1) * 2 ^ l
theorem two_pos (k : Nat) : (0 : Int) < 2 ^ k := Int.pow_pos (by decide)
theorem P_two (n : Nat) : P n = 2 ^ (30 * n) := by
  induction n with
  | zero => rfl
  | succ n ih => rw [P_succ, ih, show 30 * (n + 1) = 30 * n + 30 by omega, Int.pow_add]; rfl
theorem two_split (k : Nat) : (2 : Int) ^ k = P (k / 30) * 2 ^ (k % 30) := by
  rw [P_two, ← Int.pow_add]; congr 1; omega
theorem two_le {j k : Nat} (h : j ≤ k) : (2 : Int) ^ j ≤ 2 ^ k := by
  obtain ⟨m, rfl⟩ := Nat.exists_eq_add_of_le h
  rw [Int.pow_add]
  have h1 := two_pos j
  have h2 := two_pos m
  have h3 : (2 : Int) ^ j * 1 ≤ 2 ^ j * 2 ^ m := Int.mul_le_mul_of_nonneg_left (by omega) (by omega)
  omega
theorem two_lt {j k : Nat} (h : j < k) : (2 : Int) ^ j < 2 ^ k := by
  have h1 := two_le (show j + 1 ≤ k by omega)
  have h2 := two_pos j
  rw [Int.pow_succ] at h1
  omega
/-- Bits of which none meet are put together as a sum is. -/
theorem or_add (x m : Int) (k : Nat) (hx : 0 ≤ x) (hxk : x < 2 ^ k) (hm : 0 ≤ m) (hs : x + m * 2 ^ k < 9223372036854775808) : bits .or .i64 x (m * 2 ^ k) = x + m * 2 ^ k := by
  have hp := two_pos k
  have hy : 0 ≤ m * 2 ^ k := Int.mul_nonneg hm (by omega)
  obtain ⟨m', rfl⟩ := Int.eq_ofNat_of_zero_le hm
  obtain ⟨x', rfl⟩ := Int.eq_ofNat_of_zero_le hx
  have e2 : ((m' : Int) * 2 ^ k) = ((m' * 2 ^ k : Nat) : Int) := by simp
  rw [e2] at hs hy ⊢
  have hx' : x' < 2 ^ k := by
    have : ((x' : Nat) : Int) < ((2 ^ k : Nat) : Int) := by simpa using hxk
    exact Int.ofNat_lt.1 this
  have e3 : x' ||| m' * 2 ^ k = m' * 2 ^ k + x' := by rw [Nat.or_comm, Nat.mul_comm m', Nat.two_pow_add_eq_or_of_lt hx' m']
  generalize m' * 2 ^ k = M at *
  rw [bits_or64, show (((x' : Int)) % 18446744073709551616).toNat = x' by omega, show ((M : Int) % 18446744073709551616).toNat = M by omega, e3, wrap_i64_eq]
  omega
/-- The digits of a list divided by 2^t (u is 2^t, v is 2^(30 - t)), cut. -/
def low (s : Nat → Int) (u v : Int) : Nat → Int := fun i => s i / u + s (i + 1) % u * v
theorem low_dig {s : Nat → Int} {u v : Int} {n : Nat} (hu : 0 < u) (huv : u * v = 1073741824) (h : Dig s (n + 1)) : Dig (low s u v) n := by
  intro i hi
  have a := h i (by omega)
  have hv : 0 < v := by
    rcases Int.lt_or_le 0 v with h | h
    · exact h
    · have := Int.mul_nonneg (show 0 ≤ u by omega) (show 0 ≤ -v by omega); rw [Int.mul_neg] at this; omega
  have b0 : 0 ≤ s (i + 1) % u := Int.emod_nonneg _ (by omega)
  have b1 : s (i + 1) % u < u := Int.emod_lt_of_pos _ hu
  have c0 : 0 ≤ s i / u := Int.ediv_nonneg a.1 (by omega)
  have c1 : s i / u < v := (Int.ediv_lt_iff_lt_mul hu).2 (by rw [Int.mul_comm, huv]; exact a.2)
  have d1 : s (i + 1) % u * v ≤ (u - 1) * v := Int.mul_le_mul_of_nonneg_right (by omega) (by omega)
  have d0 : 0 ≤ s (i + 1) % u * v := Int.mul_nonneg b0 (by omega)
  rw [Int.sub_mul, huv] at d1
  unfold low
  omega
theorem low_val (s : Nat → Int) {u v : Int} (huv : u * v = 1073741824) (n : Nat) : val (low s u v) n * u = val s n - s 0 % u + s n % u * P n := by
  induction n with
  | zero => show (0 : Int) * u = 0 - s 0 % u + s 0 % u * 1; omega
  | succ n ih =>
    rw [val_succ, val_succ, P_succ]
    have e : s n / u * u = s n - s n % u := by have := Int.emod_add_ediv_mul (s n) u; omega
    unfold low at ih ⊢
    have e2 : (val (fun i => s i / u + s (i + 1) % u * v) n + (s n / u + s (n + 1) % u * v) * P n) * u = val (fun i => s i / u + s (i + 1) % u * v) n * u + (s n / u * u) * P n + s (n + 1) % u * (u * v) * P n := by grind
    rw [e2, ih, e, huv]; grind
theorem low_eq {s : Nat → Int} {u v : Int} (hu : 0 < u) (huv : u * v = 1073741824) {n : Nat} (h : s n = 0) : val (low s u v) n = val s n / u := by
  have h1 := low_val s huv n
  rw [h, Int.zero_emod, Int.zero_mul, Int.add_zero] at h1
  have b0 : 0 ≤ s 0 % u := Int.emod_nonneg _ (by omega)
  have b1 : s 0 % u < u := Int.emod_lt_of_pos _ hu
  have : val s n = s 0 % u + val (low s u v) n * u := by omega
  rw [this, Int.add_mul_ediv_right _ _ (by omega), Int.ediv_eq_zero_of_lt b0 b1]; omega
/-- A list without its lowest digits. -/
theorem val_drop (d : Nat → Int) {w n : Nat} (h : w ≤ n) (hd : Dig d n) : val (fun i => d (w + i)) (n - w) = val d n / P w := by
  have e := val_split d w (n - w)
  rw [show w + (n - w) = n by omega] at e
  rw [e, Int.add_mul_ediv_left _ _ (by have := P_pos w; omega), Int.ediv_eq_zero_of_lt (val_nonneg (hd.le h)) (val_lt (hd.le h))]; omega
theorem val_shift0 (d : Nat → Int) (w n : Nat) (h : ∀ i, i < w → d i = 0) : val d (w + n) = P w * val (fun i => d (w + i)) n := by
  rw [val_split, val_zeros (Nat.zero_le w) (fun i _ b => h i b)]; show 0 + _ = _; omega
end Go.Proofs.YtmbajngbiefilaaGreatDoor.M

/-
  Plain mathematics of the number of bits: the least k with V < 2^k. No Go text in sight.
-/
namespace Go.Proofs.YtmbajngbiefilaaGreatDoor.M
open Go
set_option linter.unusedSimpArgs false
set_option linter.unusedVariables false

/-- The number of bits. -/
def blen (V : Int) : Nat := if V ≤ 0 then 0 else Nat.log2 V.toNat + 1
theorem blen_zero : blen 0 = 0 := by decide
theorem blen_lt (V : Int) : V < 2 ^ blen V := by
  unfold blen
  split
  · show V < 1; omega
  · have h := @Nat.lt_log2_self V.toNat
    have e : ((V.toNat : Nat) : Int) < ((2 ^ (Nat.log2 V.toNat + 1) : Nat) : Int) := Int.ofNat_lt.2 h
    rw [Int.toNat_of_nonneg (by omega)] at e
    simpa using e
theorem blen_pos {V : Int} (h : 0 < V) : 1 ≤ blen V ∧ 2 ^ (blen V - 1) ≤ V := by
  unfold blen
  rw [if_neg (by omega)]
  refine ⟨by omega, ?_⟩
  have h1 := Nat.log2_self_le (n := V.toNat) (by omega)
  have e : ((2 ^ Nat.log2 V.toNat : Nat) : Int) ≤ ((V.toNat : Nat) : Int) := Int.ofNat_le.2 h1
  rw [Int.toNat_of_nonneg (by omega)] at e
  simpa using e
theorem two_lt_iff {j k : Nat} (h : (2 : Int) ^ j < 2 ^ k) : j < k := by
  rcases Nat.lt_or_ge j k with h1 | h1
  · exact h1
  · have := two_le h1; omega
theorem blen_le {V : Int} {k : Nat} (h : V < 2 ^ k) : blen V ≤ k := by
  by_cases h0 : 0 < V
  · obtain ⟨h1, h2⟩ := blen_pos h0
    have := two_lt_iff (show (2 : Int) ^ (blen V - 1) < 2 ^ k by omega)
    omega
  · unfold blen; rw [if_pos (by omega)]; omega
theorem blen_ge {V : Int} {k : Nat} (h : 2 ^ k ≤ V) : k < blen V := by
  have h1 := blen_lt V
  exact two_lt_iff (by omega)
theorem blen_of {V : Int} {k : Nat} (h1 : 2 ^ k ≤ V) (h2 : V < 2 ^ (k + 1)) : blen V = k + 1 := by
  have a := blen_ge h1
  have b := blen_le h2
  omega
theorem bitLen_eq {x : Int} (h0 : 0 ≤ x) (h1 : x < 18446744073709551616) : (Lib.bitLen x.toNat : Int) = blen x := by
  by_cases hx : x = 0
  · subst hx; decide
  · obtain ⟨a, b, c⟩ := Lib.bitLenAux_bounds 64 x.toNat (by omega) (by omega)
    have e : blen x = Lib.bitLen x.toNat := by
      have hb : Lib.bitLen x.toNat = Lib.bitLenAux 64 x.toNat := rfl
      rw [← hb] at a b c
      obtain ⟨k, hk⟩ : ∃ k, Lib.bitLen x.toNat = k + 1 := ⟨Lib.bitLen x.toNat - 1, by omega⟩
      rw [hk] at b c ⊢
      have b' : ((2 ^ k : Nat) : Int) ≤ ((x.toNat : Nat) : Int) := Int.ofNat_le.2 (by simpa using b)
      have c' : ((x.toNat : Nat) : Int) < ((2 ^ (k + 1) : Nat) : Int) := Int.ofNat_lt.2 c
      rw [Int.toNat_of_nonneg h0] at b' c'
      exact blen_of (by simpa using b') (by simpa using c')
    rw [e]
theorem blen_val {d : Nat → Int} {n : Nat} (h : Nrm d (n + 1)) : blen (val d (n + 1)) = 30 * n + blen (d n) := by
  have hd := h.1 n (by omega)
  have ht : d n ≠ 0 := by rcases h.2 with e | e; (· omega); (· simpa using e)
  have hp : 0 < d n := by omega
  obtain ⟨a, b⟩ := blen_pos hp
  have c := blen_lt (d n)
  have v0 := val_nonneg (h.1.le (Nat.le_succ n))
  have v1 := val_lt (h.1.le (Nat.le_succ n))
  have pp := P_pos n
  obtain ⟨k, hk⟩ : ∃ k, blen (d n) = k + 1 := ⟨blen (d n) - 1, by omega⟩
  rw [hk] at b c ⊢
  rw [show 30 * n + (k + 1) = (30 * n + k) + 1 by omega]
  have e1 : (2 : Int) ^ (30 * n + k) = 2 ^ k * P n := by rw [Int.pow_add, P_two, Int.mul_comm]
  have e2 : (2 : Int) ^ (30 * n + k + 1) = 2 ^ (k + 1) * P n := by rw [show 30 * n + k + 1 = 30 * n + (k + 1) by omega, Int.pow_add, P_two, Int.mul_comm]
  have f1 : (2 : Int) ^ k * P n ≤ d n * P n := Int.mul_le_mul_of_nonneg_right (by simpa using b) (by omega)
  have f2 : (d n + 1) * P n ≤ 2 ^ (k + 1) * P n := Int.mul_le_mul_of_nonneg_right (by omega) (by omega)
  rw [Int.add_mul] at f2
  apply blen_of
  · rw [e1, val_succ]; omega
  · rw [e2, val_succ]; omega
end Go.Proofs.YtmbajngbiefilaaGreatDoor.M

/-
  math/bits.Len64 and Len; nat's width, bitLength, Bits, by contracts.
-/
namespace Go.Proofs.YtmbajngbiefilaaGreatDoor
open Go Go.RowKit Go.Proofs.YtmbajngbiefilaaGreatDoor.M
set_option linter.unusedSimpArgs false
set_option linter.unusedVariables false

theorem len_close (x q : Int) (s : Nat) (h : q.toNat < Lib.len8tab.size) (hq0 : 0 ≤ q) (hq : q ≤ 255) (hs : s ≤ 56) (hb : Lib.bitLen x.toNat = s + Lib.bitLen q.toNat) :
    wrap64 ((s : Int) + wrap64 ((Lib.len8tab[q.toNat]'h).toNat : Int)) = (Lib.bitLen x.toNat : Int) := by
  have e := Lib.len8_of q hq0 hq
  have l := Lib.bitLen_le8' q hq0 hq
  unfold Lib.len8 at e
  rw [getElem?_pos Lib.len8tab q.toNat h] at e
  simp only [Option.getD_some] at e
  rw [e, hb]
  unfold wrap64
  omega
theorem len_close0 (x : Int) (h : x.toNat < Lib.len8tab.size) (hq0 : 0 ≤ x) (hq : x ≤ 255) :
    wrap64 (wrap64 ((Lib.len8tab[x.toNat]'h).toNat : Int)) = (Lib.bitLen x.toNat : Int) := by
  have := len_close x x 0 h hq0 hq (by omega) (by omega)
  simpa using this
theorem len_q (x q : Int) (s : Nat) (h0 : 0 ≤ x) (h1 : x ≤ 18446744073709551615) (hx : ((2 ^ s : Nat) : Int) ≤ x) (e : q = x / ((2 ^ s : Nat) : Int)) : Lib.bitLen x.toNat = s + Lib.bitLen q.toNat := by
  rw [Lib.bitLen_shift s x.toNat (by omega) (by omega), e]
  congr 2
  obtain ⟨n, rfl⟩ := Int.eq_ofNat_of_zero_le h0
  rw [← Int.natCast_ediv, Int.toNat_natCast, Int.toNat_natCast]
set_option maxHeartbeats 4000000 in
set_option maxRecDepth 100000 in
theorem len64 (x : Int) (w : World) (h0 : 0 ≤ x) (h1 : x ≤ 18446744073709551615) :
    Calls Tryz.prog 98 #[.int .u64 x] w fun e w' => e = .returned (.int .i64 (Lib.bitLen x.toNat)) ∧ w' = w := by
  have hs : Lib.len8tab.size = 256 := by decide +kernel
  go_enter Tryz.func98, Tryz.ntmps98
  go_wp2
  all_goals go_ret
  · exact ⟨ret_int (len_close x _ 56 _ (by omega) (by omega) (by omega) (len_q x _ 56 h0 h1 (by omega) (by omega))), rfl⟩
  · exact ⟨ret_int (len_close x _ 48 _ (by omega) (by omega) (by omega) (len_q x _ 48 h0 h1 (by omega) (by omega))), rfl⟩
  · exact ⟨ret_int (len_close x _ 40 _ (by omega) (by omega) (by omega) (len_q x _ 40 h0 h1 (by omega) (by omega))), rfl⟩
  · exact ⟨ret_int (len_close x _ 32 _ (by omega) (by omega) (by omega) (len_q x _ 32 h0 h1 (by omega) (by omega))), rfl⟩
  · exact ⟨ret_int (len_close x _ 24 _ (by omega) (by omega) (by omega) (len_q x _ 24 h0 h1 (by omega) (by omega))), rfl⟩
  · exact ⟨ret_int (len_close x _ 16 _ (by omega) (by omega) (by omega) (len_q x _ 16 h0 h1 (by omega) (by omega))), rfl⟩
  · exact ⟨ret_int (len_close x _ 8 _ (by omega) (by omega) (by omega) (len_q x _ 8 h0 h1 (by omega) (by omega))), rfl⟩
  · exact ⟨ret_int (len_close0 x _ (by omega) (by omega)), rfl⟩
theorem len_any (x : Int) (w : World) (h0 : 0 ≤ x) (h1 : x ≤ 18446744073709551615) :
    Calls Tryz.prog 79 #[.int .u64 x] w fun e w' => e = .returned (.int .i64 (blen x)) ∧ w' = w := by
  go_enter Tryz.func79, Tryz.ntmps79
  go_wp2_with (go_at_call 98; refine (len64 _ _ (by omega) (by omega)).mono ?_; rintro e w' ⟨rfl, rfl⟩)
  go_ret
  exact ⟨ret_int (bitLen_eq h0 (by omega)), rfl⟩
theorem width_any (x : Int) (w : World) (h0 : 0 ≤ x) (h1 : x < 9223372036854775808) :
    Calls Tryz.prog 77 #[.int .i64 x] w fun e w' => e = .returned (.int .i64 (blen x)) ∧ w' = w := by
  go_enter Tryz.func77, Tryz.ntmps77
  go_wp2_with (go_at_call 79; refine (len_any _ _ (by omega) (by omega)).mono ?_; rintro e w' ⟨rfl, rfl⟩)
  go_ret
  exact ⟨rfl, rfl⟩
theorem bitLength_any (ao : Option Addr) (n cap : Nat) (d : Nat → Int) (w : World) (h : Row w ao n cap d) (hd : Nrm d n) (hn : n ≤ 1000000) :
    Calls Tryz.prog 50 #[.slice ao n cap] w fun e w' => e = .returned (.int .i64 (blen (val d n))) ∧ w' = w := by
  have hl := h.le
  have hm := h.max
  by_cases h0 : n = 0
  · subst h0
    go_enter Tryz.func50, Tryz.ntmps50
    go_wp2
    go_ret
    exact ⟨rfl, rfl⟩
  · obtain ⟨k, rfl⟩ : ∃ k, n = k + 1 := ⟨n - 1, by omega⟩
    obtain ⟨b, off, rfl, hb, hc⟩ := h.spot (by omega)
    have c := hc k (by omega)
    have dk := hd.1 k (by omega)
    have hbl : blen (d k) ≤ 30 := blen_le (by show d k < 1073741824; exact dk.2)
    go_enter Tryz.func50, Tryz.ntmps50
    go_wp2_with (go_at_call 77; refine (width_any _ _ (by omega) (by omega)).mono ?_; rintro e w' ⟨rfl, rfl⟩)
    go_ret
    exact ⟨ret_int (by rw [blen_val hd]; omega), rfl⟩
theorem bits_yes (ao : Option Addr) (n cap : Nat) (d : Nat → Int) (w : World) (h : Row w ao n cap d) (ok : okB d n = true) :
    Calls Tryz.prog 13 #[.slice ao n cap] w fun e w' => e = .returned (.int .i64 (blen (val d n))) ∧ w' = w := by
  obtain ⟨hl, hn⟩ := okB_out ok
  go_enter Tryz.func13, Tryz.ntmps13
  go_wp2_with fail
  refine (valid_any _ _ _ _ _ h).mono ?_
  rintro e w' ⟨rfl, rfl⟩
  go_wp2_with fail
  refine (bitLength_any _ _ _ _ _ h hn (by omega)).mono ?_
  rintro e w' ⟨rfl, rfl⟩
  go_wp2
  go_ret
  exact ⟨rfl, rfl⟩
end Go.Proofs.YtmbajngbiefilaaGreatDoor

/-
  The statements' own helpers: Same, digits, alive, by contracts.
-/
namespace Go.Proofs.YtmbajngbiefilaaGreatDoor
open Go Go.RowKit Go.Proofs.YtmbajngbiefilaaGreatDoor.M
set_option linter.unusedSimpArgs false
set_option linter.unusedVariables false

instance (n : Nat) (a b : Nat → Int) : Decidable (∀ i, i < n → a i = b i) := by infer_instance
/-- Are two lists one? -/
def sameB (a b : Nat → Int) (n m : Nat) : Bool := decide (n = m ∧ ∀ i, i < n → a i = b i)
theorem sameB_of {a b : Nat → Int} {n m : Nat} (ha : Nrm a n) (hb : Nrm b m) (h : val a n = val b m) : sameB a b n m = true := by
  unfold sameB; exact decide_eq_true (nrm_inj ha hb h)
set_option maxHeartbeats 1000000 in
theorem same_any (ao bo : Option Addr) (n m ca cb : Nat) (a b : Nat → Int) (w : World) (ha : Row w ao n ca a) (hb : Row w bo m cb b) :
    Calls Tryz.prog 11 #[.slice ao n ca, .slice bo m cb] w fun e w' => e = .returned (.bool (sameB a b n m)) ∧ Below w.heap.size w w' := by
  have hla := ha.le
  have hma := ha.max
  have hlb := hb.le
  have hmb := hb.max
  by_cases hnm : n = m
  · subst hnm
    go_enter Tryz.func11, Tryz.ntmps11
    go_wp2
    go_loopw [5] (fun i wr => ∃ k : Nat, k ≤ n ∧ i = .int .i64 k ∧ Hid (∀ i, i < k → a i = b i) ∧ Below w.heap.size w wr) (fun i _ => n - (intOf i).toNat)
    case atStart => exact ⟨0, Nat.zero_le _, rfl, fun i _ => by omega, bel_refl _⟩
    case round =>
      obtain ⟨k, hk, rfl, HS, hbw⟩ := hrel
      by_cases hlt : k < n
      · obtain ⟨ba, fa, rfl, hba, hca⟩ := ha.spot (by omega)
        obtain ⟨bb, fb, rfl, hbb, hcb⟩ := hb.spot (by omega)
        have c1 := (hbw.cell (p := ⟨ba, fa + k, none⟩) hba).trans (hca k hlt)
        have c2 := (hbw.cell (p := ⟨bb, fb + k, none⟩) hbb).trans (hcb k hlt)
        by_cases he : a k = b k
        · have he' : (a k != b k) = false := by simp [he]
          have HE : Hid (a k = b k) := he
          clear he
          go_wp2
          go_quiet (fail)
          go_wp2
          go_roundw
          case rel => exact ⟨k + 1, by omega, by go_num, fun i x => by by_cases e : i = k; (· rw [e]; exact HE.out); (· exact HS.out i (by omega)), bDrewN hbw _⟩
          case measure => simp [intOf]; omega
        · have he' : (a k != b k) = true := by simp [he]
          go_wp2
          go_quiet (fail)
          go_wp2
          go_ret
          exact ⟨ret_bool (decide_eq_false (fun q => he (q.2 k hlt))).symm, bDrewN hbw _⟩
      · obtain rfl : k = n := by omega
        go_wp2
        go_ret
        exact ⟨ret_bool (decide_eq_true (⟨rfl, HS.out⟩ : k = k ∧ ∀ i, i < k → a i = b i)).symm, hbw⟩
  · go_enter Tryz.func11, Tryz.ntmps11
    go_wp2
    go_ret
    exact ⟨ret_bool (decide_eq_false (fun q => hnm q.1)).symm, bel_refl _⟩
theorem same_yes (ao bo : Option Addr) (n m ca cb : Nat) (a b : Nat → Int) (w : World) (ha : Row w ao n ca a) (hb : Row w bo m cb b) (na : Nrm a n) (nb : Nrm b m) (hv : val a n = val b m) :
    Calls Tryz.prog 11 #[.slice ao n ca, .slice bo m cb] w fun e w' => e = .returned (.bool true) ∧ Below w.heap.size w w' := by
  refine (same_any ao bo n m ca cb a b w ha hb).mono ?_
  rintro e w' ⟨rfl, h⟩
  exact ⟨ret_bool (sameB_of na nb hv), h⟩
theorem same_num {w : World} {x y : Value} {V : Int} (hx : Num w x V) (hy : Num w y V) :
    Calls Tryz.prog 11 #[x, y] w fun e w' => e = .returned (.bool true) ∧ Below w.heap.size w w' := by
  obtain ⟨ao, n, ca, d, rfl, hR, h2, h3⟩ := hx
  obtain ⟨bo, m, cb, e, rfl, kR, k2, k3⟩ := hy
  exact same_yes _ _ _ _ _ _ _ _ _ hR kR h2 k2 (h3.trans k3.symm)
theorem Num.ok {d : Nat → Int} {n : Nat} (h : Nrm d n) (hV : val d n < P 2000) : okB d n = true := by
  refine okB_yes ?_ h
  by_cases hk : n ≤ 2000
  · exact hk
  · have a := val_top h.1 (by omega) h.2
    have b := P_le (show 2000 ≤ n - 1 by omega)
    omega
theorem add_num {w : World} {x y : Value} {A B : Int} (hx : Num w x A) (hy : Num w y B) (hA : A < P 2000) (hB : B < P 2000) :
    Calls Tryz.prog 9 #[x, y] w fun e w' => ∃ v er, e = .returned (.tuple #[v, .int .i64 er]) ∧ Fit w w' (A + B) v er := by
  obtain ⟨ao, n, ca, d, rfl, hR, h2, rfl⟩ := hx
  obtain ⟨bo, m, cb, e, rfl, kR, k2, rfl⟩ := hy
  exact add_yes _ _ _ _ _ _ _ _ _ ⟨hR, kR⟩ (Num.ok h2 hA) (Num.ok k2 hB)
theorem mul_num {w : World} {x y : Value} {A B : Int} (hx : Num w x A) (hy : Num w y B) (hA : A < P 2000) (hB : B < P 2000) :
    Calls Tryz.prog 10 #[x, y] w fun e w' => ∃ v er, e = .returned (.tuple #[v, .int .i64 er]) ∧ Fit w w' (A * B) v er := by
  obtain ⟨ao, n, ca, d, rfl, hR, h2, rfl⟩ := hx
  obtain ⟨bo, m, cb, e, rfl, kR, k2, rfl⟩ := hy
  exact mul_yes _ _ _ _ _ _ _ _ _ ⟨hR, kR⟩ (Num.ok h2 hA) (Num.ok k2 hB)
theorem Fit.ans {w w' : World} {V er : Int} {v : Value} (h : Fit w w' V v er) (hV : V < P 2000) : er = 0 ∧ Ans w w' V v := by
  rcases h.2 with ⟨_, h1, h2⟩ | ⟨h1, _⟩
  · exact ⟨h1, h2⟩
  · omega
theorem add_ok {w : World} {x y : Value} {A B : Int} (hx : Num w x A) (hy : Num w y B) (hV : A + B < P 2000) :
    Calls Tryz.prog 9 #[x, y] w fun e w' => ∃ v, e = .returned (.tuple #[v, .int .i64 0]) ∧ Ans w w' (A + B) v := by
  have a := hx.nonneg
  have b := hy.nonneg
  refine (add_num hx hy (by omega) (by omega)).mono ?_
  rintro e w' ⟨v, er, rfl, hF⟩
  obtain ⟨rfl, hA⟩ := hF.ans hV
  exact ⟨v, rfl, hA⟩
theorem mul_ok {w : World} {x y : Value} {A B : Int} (hx : Num w x A) (hy : Num w y B) (hA : A < P 2000) (hB : B < P 2000) (hV : A * B < P 2000) :
    Calls Tryz.prog 10 #[x, y] w fun e w' => ∃ v, e = .returned (.tuple #[v, .int .i64 0]) ∧ Ans w w' (A * B) v := by
  refine (mul_num hx hy hA hB).mono ?_
  rintro e w' ⟨v, er, rfl, hF⟩
  obtain ⟨rfl, hA⟩ := hF.ans hV
  exact ⟨v, rfl, hA⟩
theorem sub_ok {w : World} {x y : Value} {A B : Int} (hx : Num w x A) (hy : Num w y B) (hA : A < P 2000) (hB : B < P 2000) (hV : B ≤ A) :
    Calls Tryz.prog 33 #[x, y] w fun e w' => ∃ v, e = .returned (.tuple #[v, .int .i64 0]) ∧ Ans w w' (A - B) v := by
  obtain ⟨ao, n, ca, d, rfl, hR, h2, rfl⟩ := hx
  obtain ⟨bo, m, cb, e, rfl, kR, k2, rfl⟩ := hy
  exact sub_yes _ _ _ _ _ _ _ _ _ ⟨hR, kR⟩ (Num.ok h2 hA) (Num.ok k2 hB) hV
theorem cmp_num {w : World} {x y : Value} {A B : Int} (hx : Num w x A) (hy : Num w y B) (hA : A < P 2000) (hB : B < P 2000) :
    Calls Tryz.prog 32 #[x, y] w fun e w' => e = .returned (.tuple #[.int .i64 (ord A B), .int .i64 0]) ∧ Below w.heap.size w w' := by
  obtain ⟨ao, n, ca, d, rfl, hR, h2, rfl⟩ := hx
  obtain ⟨bo, m, cb, e, rfl, kR, k2, rfl⟩ := hy
  exact cmp_yes _ _ _ _ _ _ _ _ _ ⟨hR, kR⟩ (Num.ok h2 hA) (Num.ok k2 hB)
theorem bits_num {w : World} {x : Value} {A : Int} (hx : Num w x A) (hA : A < P 2000) :
    Calls Tryz.prog 13 #[x] w fun e w' => e = .returned (.int .i64 (blen A)) ∧ w' = w := by
  obtain ⟨ao, n, ca, d, rfl, hR, h2, rfl⟩ := hx
  exact bits_yes _ _ _ _ _ hR (Num.ok h2 hA)
theorem valid_num {w : World} {x : Value} {A : Int} (hx : Num w x A) (hA : A < P 2000) :
    Calls Tryz.prog 12 #[x] w fun e w' => e = .returned (.bool true) ∧ w' = w := by
  obtain ⟨ao, n, ca, d, rfl, hR, h2, rfl⟩ := hx
  refine (valid_any _ _ _ _ _ hR).mono ?_
  rintro e w' ⟨rfl, rfl⟩
  exact ⟨ret_bool (Num.ok h2 hA), rfl⟩
theorem P2000_big : 1152921504606846976 < P 2000 := by
  have h1 := P_le (show 3 ≤ 2000 by decide)
  have h2 : P 3 = 1073741824 * 1073741824 * 1073741824 := by decide
  omega

set_option maxHeartbeats 2000000 in
theorem alive_any (w : World) : Calls Tryz.prog 4 #[] w fun e w' => e = .returned (.bool true) ∧ Below w.heap.size w w' := by
  have big : Hid (1152921504606846976 < P 2000) := P2000_big
  have bl : blen 7 = 3 := by decide
  go_enter Tryz.func4, Tryz.ntmps4
  go_wp2_with fail
  refine (add_ok ((num1 w 1073741823 (by decide) (by decide) rfl).alloc _) (num1 _ 1 (by decide) (by decide) (by simp)) (by have := big.out; omega)).mono ?_
  rintro e w1 ⟨s, rfl, hs⟩
  have b1 := bel_trans (bel_alloc2 _ _ _) hs.below
  have ns := hs.num
  clear hs
  go_wp2_with fail
  refine (mul_ok ((num1 w1 3 (by decide) (by decide) rfl).alloc _) (num2 _ 0 5 (by decide) (by decide) (by decide) (by simp)) (by have := big.out; omega) (by have := big.out; omega) (by have := big.out; omega)).mono ?_
  rintro e w2 ⟨p, rfl, hp⟩
  have b2 := bel_trans (bel_alloc2 _ _ _) hp.below
  have ns2 := ns.keeps b2
  have np := hp.num
  clear hp
  go_wp2_with fail
  refine (same_num (ns2.alloc _) (num2 _ 0 1 (by decide) (by decide) (by decide) rfl)).mono ?_
  rintro e w3 ⟨rfl, h3⟩
  have b3 := bel_trans (bel_alloc _ _) h3
  have np3 := np.keeps b3
  go_wp2_with fail
  refine (same_num (np3.alloc _) (num2 _ 0 15 (by decide) (by decide) (by decide) rfl)).mono ?_
  rintro e w4 ⟨rfl, h4⟩
  have b4 := bel_trans (bel_alloc _ _) h4
  go_wp2_with fail
  refine (valid_num (num1 w4 7 (by decide) (by decide) rfl) (by have := big.out; omega)).mono ?_
  rintro e w5 ⟨rfl, rfl⟩
  go_wp2_with fail
  refine (bits_num (num1 _ 7 (by decide) (by decide) (by simp)) (by have := big.out; omega)).mono ?_
  rintro e w6 ⟨rfl, rfl⟩
  go_wp2
  go_ret
  exact ⟨rfl, bel_trans (bel_trans (bel_trans (bel_trans b1 b2) b3) b4) (bel_alloc2 _ _ _)⟩
end Go.Proofs.YtmbajngbiefilaaGreatDoor
