/-
  Package nat: sum, difference, compare, by contracts: for every two lists of digits.
-/
import Derived.Test.YtmbajngbiefilabDoorNW1
namespace Go.Proofs.YtmbajngbiefilabDoor
open Go Go.RowKit Go.Proofs.YtmbajngbiefilabDoor.M
set_option linter.unusedSimpArgs false
set_option linter.unusedVariables false

set_option maxHeartbeats 1000000 in
theorem sum_ge (ao bo : Option Addr) (n m ca cb : Nat) (a b : Nat → Int) (w : World) (ha : Row w ao n ca a) (hb : Row w bo m cb b) (da : Dig a n) (db : Dig b m) (hn : n ≤ 100000) (hmn : m ≤ n) :
    Calls Tryd.prog 34 #[.slice ao n ca, .slice bo m cb] w fun e w' => ∃ v, e = .returned v ∧ Ans w w' (val a n + val b m) v := by
  have hla := ha.le
  have hma := ha.max
  have hlb := hb.le
  have hmb := hb.max
  go_enter Tryd.func34, Tryd.ntmps34
  go_wp2_with (at_make; refine wpList_mk rfl _ _ rfl _ _ (n + 1) rfl rfl (by omega) (by omega) (by omega) ?_; intro w1 hB1 hb1)
  go_loopw [6, 21] (fun c i wr => ∃ (k : Nat) (q : Int) (r : Nat → Int), k ≤ n ∧ i = .int .i64 k ∧ c = .int .i64 q ∧ 0 ≤ q ∧ q ≤ 1 ∧ Blk wr w.heap.size (n + 1) r ∧ Dig r (n + 1) ∧ Hid (val r k + q * P k = val a k + val (ext b m) k) ∧ Below w.heap.size w wr) (fun _ i _ => n - (intOf i).toNat)
  case atStart => exact ⟨0, 0, fun _ => 0, Nat.zero_le _, rfl, rfl, by omega, by omega, hB1, zero_dig _, rfl, hb1⟩
  case round =>
    obtain ⟨k, q, r, hk, rfl, rfl, hq0, hq1, hB, hD, HV, hbw⟩ := hrel
    have cg := fun h : k < n + 1 => hB.cell h
    have fg := hB.frozen k
    by_cases hlt : k < n
    · obtain ⟨ba, fa, rfl, hba, hca⟩ := ha.spot (by omega)
      have c1 := (hbw.cell (p := ⟨ba, fa + k, none⟩) hba).trans (hca k hlt)
      have dk := da k hlt
      by_cases hkm : k < m
      · obtain ⟨bb, fb, rfl, hbb, hcb⟩ := hb.spot (by omega)
        have c2 := (hbw.cell (p := ⟨bb, fb + k, none⟩) hbb).trans (hcb k hkm)
        have dbk := db k hkm
        have h30 := and_30 (q + a k + b k)
        go_wp2
        have he := ext_lt b hkm
        have hs := sum_step (x := a k + ext b m k) HV.out
        rw [he, show q + (a k + b k) = q + a k + b k by omega] at hs
        go_roundw
        case rel => exact ⟨k + 1, (q + a k + b k) / 1073741824, upd r k ((q + a k + b k) % 1073741824), by omega, by go_num, rfl, by omega, by omega, hB.store k _, hD.upd k (mod_dig _), by show _ = _; rw [hs, val_succ, val_succ, he]; grind, hbw.setCell (Nat.le_refl _) _⟩
        case measure => simp [intOf]; omega
      · have h30 := and_30 (q + a k)
        go_wp2
        have he := ext_ge b (show m ≤ k by omega)
        have hs := sum_step (x := a k + ext b m k) HV.out
        rw [he, show q + (a k + 0) = q + a k by omega] at hs
        go_roundw
        case rel => exact ⟨k + 1, (q + a k) / 1073741824, upd r k ((q + a k) % 1073741824), by omega, by go_num, rfl, by omega, by omega, hB.store k _, hD.upd k (mod_dig _), by show _ = _; rw [hs, val_succ, val_succ, he]; grind, hbw.setCell (Nat.le_refl _) _⟩
        case measure => simp [intOf]; omega
    · obtain rfl : k = n := by omega
      have hB2 := hB.store k q
      go_wp2_with (go_at_call 29; refine (trim_any _ _ _ _ _ (hB2.row0 (Nat.le_refl _) (by omega))).mono ?_; rintro e w3 ⟨t, ht, htop, hz, rfl, rfl⟩)
      go_ret
      have D2 : Dig (upd r k q) (k + 1) := hD.upd k (by omega)
      obtain ⟨hN, hv⟩ := nrm_of_top D2 ht htop hz
      refine ⟨_, rfl, t, upd r k q, hB2.cut (Nat.le_refl _) ht (by omega), hN, ?_, hbw.setCell (Nat.le_refl _) _⟩
      rw [hv, val_succ, upd_same, val_upd_ge r _ (Nat.le_refl _), HV.out, val_ext b (by omega)]

set_option maxHeartbeats 1000000 in
theorem sum_lt (ao bo : Option Addr) (n m ca cb : Nat) (a b : Nat → Int) (w : World) (ha : Row w ao n ca a) (hb : Row w bo m cb b) (da : Dig a n) (db : Dig b m) (hn : n ≤ 100000) (hmn : m < n) :
    Calls Tryd.prog 34 #[.slice bo m cb, .slice ao n ca] w fun e w' => ∃ v, e = .returned v ∧ Ans w w' (val a n + val b m) v := by
  have hla := ha.le
  have hma := ha.max
  have hlb := hb.le
  have hmb := hb.max
  go_enter Tryd.func34, Tryd.ntmps34
  go_wp2_with (at_make; refine wpList_mk rfl _ _ rfl _ _ (n + 1) rfl rfl (by omega) (by omega) (by omega) ?_; intro w1 hB1 hb1)
  go_loopw [6, 21] (fun c i wr => ∃ (k : Nat) (q : Int) (r : Nat → Int), k ≤ n ∧ i = .int .i64 k ∧ c = .int .i64 q ∧ 0 ≤ q ∧ q ≤ 1 ∧ Blk wr w.heap.size (n + 1) r ∧ Dig r (n + 1) ∧ Hid (val r k + q * P k = val a k + val (ext b m) k) ∧ Below w.heap.size w wr) (fun _ i _ => n - (intOf i).toNat)
  case atStart => exact ⟨0, 0, fun _ => 0, Nat.zero_le _, rfl, rfl, by omega, by omega, hB1, zero_dig _, rfl, hb1⟩
  case round =>
    obtain ⟨k, q, r, hk, rfl, rfl, hq0, hq1, hB, hD, HV, hbw⟩ := hrel
    have cg := fun h : k < n + 1 => hB.cell h
    have fg := hB.frozen k
    by_cases hlt : k < n
    · obtain ⟨ba, fa, rfl, hba, hca⟩ := ha.spot (by omega)
      have c1 := (hbw.cell (p := ⟨ba, fa + k, none⟩) hba).trans (hca k hlt)
      have dk := da k hlt
      by_cases hkm : k < m
      · obtain ⟨bb, fb, rfl, hbb, hcb⟩ := hb.spot (by omega)
        have c2 := (hbw.cell (p := ⟨bb, fb + k, none⟩) hbb).trans (hcb k hkm)
        have dbk := db k hkm
        have h30 := and_30 (q + a k + b k)
        go_wp2
        have he := ext_lt b hkm
        have hs := sum_step (x := a k + ext b m k) HV.out
        rw [he, show q + (a k + b k) = q + a k + b k by omega] at hs
        go_roundw
        case rel => exact ⟨k + 1, (q + a k + b k) / 1073741824, upd r k ((q + a k + b k) % 1073741824), by omega, by go_num, rfl, by omega, by omega, hB.store k _, hD.upd k (mod_dig _), by show _ = _; rw [hs, val_succ, val_succ, he]; grind, hbw.setCell (Nat.le_refl _) _⟩
        case measure => simp [intOf]; omega
      · have h30 := and_30 (q + a k)
        go_wp2
        have he := ext_ge b (show m ≤ k by omega)
        have hs := sum_step (x := a k + ext b m k) HV.out
        rw [he, show q + (a k + 0) = q + a k by omega] at hs
        go_roundw
        case rel => exact ⟨k + 1, (q + a k) / 1073741824, upd r k ((q + a k) % 1073741824), by omega, by go_num, rfl, by omega, by omega, hB.store k _, hD.upd k (mod_dig _), by show _ = _; rw [hs, val_succ, val_succ, he]; grind, hbw.setCell (Nat.le_refl _) _⟩
        case measure => simp [intOf]; omega
    · obtain rfl : k = n := by omega
      have hB2 := hB.store k q
      go_wp2_with (go_at_call 29; refine (trim_any _ _ _ _ _ (hB2.row0 (Nat.le_refl _) (by omega))).mono ?_; rintro e w3 ⟨t, ht, htop, hz, rfl, rfl⟩)
      go_ret
      have D2 : Dig (upd r k q) (k + 1) := hD.upd k (by omega)
      obtain ⟨hN, hv⟩ := nrm_of_top D2 ht htop hz
      refine ⟨_, rfl, t, upd r k q, hB2.cut (Nat.le_refl _) ht (by omega), hN, ?_, hbw.setCell (Nat.le_refl _) _⟩
      rw [hv, val_succ, upd_same, val_upd_ge r _ (Nat.le_refl _), HV.out, val_ext b (by omega)]
theorem sum_any (ao bo : Option Addr) (n m ca cb : Nat) (a b : Nat → Int) (w : World) (ha : Row w ao n ca a) (hb : Row w bo m cb b) (da : Dig a n) (db : Dig b m) (hn : n ≤ 100000) (hm : m ≤ 100000) :
    Calls Tryd.prog 34 #[.slice ao n ca, .slice bo m cb] w fun e w' => ∃ v, e = .returned v ∧ Ans w w' (val a n + val b m) v := by
  by_cases h : m ≤ n
  · exact sum_ge ao bo n m ca cb a b w ha hb da db hn h
  · refine (sum_lt bo ao m n cb ca b a w hb ha db da hm (by omega)).mono ?_
    rintro e w' ⟨v, h1, h2⟩
    exact ⟨v, h1, by rw [Int.add_comm]; exact h2⟩

end Go.Proofs.YtmbajngbiefilabDoor
