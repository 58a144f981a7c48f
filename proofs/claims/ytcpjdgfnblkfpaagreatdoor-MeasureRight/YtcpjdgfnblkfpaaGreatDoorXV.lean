/-
  Package expansion: Valid, by its contract.
-/
import Derived.Test.YtcpjdgfnblkfpaaGreatDoorXT
import Derived.Test.YtcpjdgfnblkfpaaGreatDoorNLen
import Derived.Test.YtcpjdgfnblkfpaaGreatDoorEHelp
namespace Go.Proofs.YtcpjdgfnblkfpaaGreatDoor
open Go Go.RowKit Go.Proofs.YtcpjdgfnblkfpaaGreatDoor.M
set_option linter.unusedSimpArgs false
set_option linter.unusedVariables false

/-- The exponent of the least power of 2 that is greater than the last of the first k; are the first k an expansion? -/
def xab (d : Nat → Int) : Nat → Int
  | 0 => -9223372036854775808
  | k + 1 => pexp (d k) + blen (pmag (d k))
def xok (d : Nat → Int) (k : Nat) : Bool := !decide (pmag (d k) = 0) && !decide (pexp (d k) + jz (pmag (d k)) < xab d k)
def xval (d : Nat → Int) : Nat → Bool
  | 0 => true
  | k + 1 => xval d k && xok d k
theorem xval_succ (d : Nat → Int) (k : Nat) : xval d (k + 1) = (xval d k && xok d k) := rfl
theorem xval_mono {d : Nat → Int} : ∀ {k j}, j ≤ k → xval d k = true → xval d j = true
  | 0, j, h, hx => by
    obtain rfl : j = 0 := by omega
    rfl
  | k + 1, j, h, hx => by
    by_cases e : j = k + 1
    · subst e; exact hx
    · rw [xval_succ, Bool.and_eq_true] at hx
      exact xval_mono (by omega) hx.1
theorem xmag_in (b : Int) : 0 ≤ pmag b ∧ pmag b < 9007199254740992 ∧ -2000 ≤ pexp b ∧ pexp b ≤ 2000 := by
  cases h : pok b
  · have : fld b = 2047 := by simpa [pok] using h
    unfold pmag pexp
    rw [if_pos this, if_pos this]
    omega
  · have := pmag_in h
    omega
theorem jz_small (b : Int) : pmag b ≠ 0 → jz (pmag b) ≤ 64 := fun hne => by
  have hm := xmag_in b
  have h1 : (pmag b).toNat < 2 ^ 64 := Nat.lt_of_lt_of_le (show (pmag b).toNat < 9007199254740992 by omega) (by decide)
  exact Nat.le_of_lt (Lib.lowest_bit 64 (pmag b).toNat (by omega) h1).2
set_option maxRecDepth 100000 in
set_option maxHeartbeats 1000000 in
theorem xvalid_any {eo : Option Addr} {n ec : Nat} {d : Nat → Int} (w : World) (h : Row w eo n ec d) (H : Hold4 w) :
    Calls Tryz.prog 79 #[.slice eo n ec] w fun e w' => e = .returned (.bool (xval d n)) ∧ Below w.heap.size w w' := by
  have hle := h.le
  have hmx := h.max
  have HR : Hid (Row w eo n ec d) := h
  have HH : Hid (Hold4 w) := H
  clear h H
  go_enter Tryz.func79, Tryz.ntmps79
  go_wp2_with fail
  go_loopw [3, 12] (fun av iv wr => ∃ k : Nat, k ≤ n ∧ iv = .int .i64 k ∧ av = .int .i64 (xab d k) ∧ Hid (xval d k = true) ∧ Below w.heap.size w wr) (fun _ iv _ => n - (intOf iv).toNat)
  case atStart => exact ⟨0, Nat.zero_le _, rfl, rfl, rfl, bel_refl _⟩
  case round =>
    obtain ⟨k, hk, rfl, rfl, HX, hbw⟩ := hrel
    by_cases hlt : k < n
    · obtain ⟨b, off, rfl, hbb, hc⟩ := (HR.out.keeps hbw).spot (by omega)
      have c0 := hc k hlt
      clear hc
      have H := HH.out.keeps hbw
      have CP := bitsPartsA (d k) wr H.lay
      have m1 := xmag_in (d k)
      have HNO : Hid (xok d k = false → xval d n = false) := fun hno => by
        cases hx : xval d n
        · rfl
        · have := xval_mono (show k + 1 ≤ n by omega) hx
          rw [xval_succ, hno, Bool.and_false] at this
          cases this
      have HO : Hid (xok d k = (!decide (pmag (d k) = 0) && !decide (pexp (d k) + jz (pmag (d k)) < xab d k))) := rfl
      have HA : Hid (xab d (k + 1) = pexp (d k) + blen (pmag (d k))) := rfl
      have hab : -9223372036854775808 ≤ xab d k := by
        cases k with
        | zero => exact Int.le_refl _
        | succ j =>
          show _ ≤ pexp (d j) + ((blen (pmag (d j)) : Nat) : Int)
          have := xmag_in (d j)
          omega
      have CT : Hid (∀ W, b_Tab W → 0 < pmag (d k) → Calls Tryz.prog 109 #[.int .u64 (pmag (d k))] W fun e w' => e = .returned (.int .i64 (jz (pmag (d k)))) ∧ w' = W) := fun W hT hp => tzero_any _ hp (by omega) W hT
      have CL : Hid (∀ W, Calls Tryz.prog 110 #[.int .u64 (pmag (d k))] W fun e w' => e = .returned (.int .i64 (blen (pmag (d k)))) ∧ w' = W) := fun W => len_any _ W (by omega) (by omega)
      have hj := jz_small (d k)
      have hbl : blen (pmag (d k)) ≤ 63 := blen_le (show pmag (d k) < 9223372036854775808 by omega)
      have cv : IntKind.u64.wrap (pmag (d k)) = pmag (d k) := by rw [IntKind.wrap_u64]; omega
      generalize hmg : pmag (d k) = mg at *
      generalize hex : pexp (d k) = ex at *
      generalize pneg (d k) = ng at *
      generalize pok (d k) = fn at *
      generalize hdk : d k = dk at *
      generalize hbn : blen mg = bn at *
      clear hmg hex hdk hbn
      have i0 : (0 : Int) ≤ (k : Int) := by omega
      have i1 : (k : Int) < (n : Int) := by omega
      by_cases hm : mg = 0
      · subst hm
        have hno : Hid (false = xval d n) := (HNO.out (by rw [HO.out]; simp)).symm
        go_wp2_with fail
        refine CP.mono ?_
        rintro _ w1 ⟨rfl, hb1⟩
        go_wp2
        all_goals go_ret
        all_goals exact ⟨ret_bool hno.out, by first | exact bel_trans hbw hb1 | exact (bel_trans hbw hb1).drew⟩
      · have hm0 : (mg == 0) = false := by simpa using hm
        have hmp : 0 < mg := by omega
        have hj' := hj hm
        generalize hjj : jz mg = jj at *
        clear hj hjj
        by_cases hl : ex + (jj : Int) < xab d k
        · have hno : Hid (false = xval d n) := (HNO.out (by rw [HO.out]; simp [hl])).symm
          generalize xab d k = ab at *
          go_wp2_with fail
          refine CP.mono ?_
          rintro _ w1 ⟨rfl, hb1⟩
          have hbw1 := bel_trans hbw hb1
          have HT : Hid (b_Tab w1) := (HH.out.keeps hbw1).tab
          go_wp2_with (go_at_call 109; refine (CT.out _ HT.out hmp).mono ?_; rintro _ wz ⟨rfl, hw⟩; replace hw := hw.symm; subst hw)
          all_goals go_ret
          all_goals exact ⟨ret_bool hno.out, by first | exact hbw1 | exact hbw1.drew⟩
        · have hyes : xval d (k + 1) = true := by rw [xval_succ, HX.out, HO.out]; simp [hl, hm]
          have hl' : ¬ (ex + (jj : Int) < xab d k) := hl
          clear hl
          generalize xab d k = ab at *
          go_wp2_with fail
          refine CP.mono ?_
          rintro _ w1 ⟨rfl, hb1⟩
          have hbw1 := bel_trans hbw hb1
          have HT : Hid (b_Tab w1) := (HH.out.keeps hbw1).tab
          go_wp2_with (first
            | (go_at_call 109; refine (CT.out _ HT.out hmp).mono ?_; rintro _ wz ⟨rfl, hw⟩; replace hw := hw.symm; subst hw)
            | (go_at_call 110; refine (CL.out _).mono ?_; rintro _ wz ⟨rfl, hw⟩; replace hw := hw.symm; subst hw))
          go_roundw
          case rel => exact ⟨k + 1, by omega, by go_num, by rw [HA.out], hyes, by first | exact hbw1 | exact hbw1.drew⟩
          case measure => simp [intOf]; omega
    · obtain rfl : k = n := by omega
      go_wp2
      go_ret
      exact ⟨ret_bool HX.out.symm, hbw⟩
end Go.Proofs.YtcpjdgfnblkfpaaGreatDoor
