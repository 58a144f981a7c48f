/-
  Package nat: guess and takeOut (one digit of a long division), by contracts.
-/
import Derived.Test.YtmbajngbiefilabDoorNW1
import Derived.Test.YtmbajngbiefilabDoorNWr
namespace Go.Proofs.YtmbajngbiefilabDoor
open Go Go.RowKit Go.Proofs.YtmbajngbiefilabDoor.M
set_option linter.unusedSimpArgs false
set_option linter.unusedVariables false

/-- A guess: it is the quotient, or one more. -/
def Gs (U V t : Int) : Prop := 0 ≤ t ∧ t < 1073741824 ∧ (t - 1) * V ≤ U ∧ U < (t + 1) * V
/-- What a division's step is about: U has L + 3 digits, V has L + 2, the highest bit of V is set. -/
structure Stp (u v : Nat → Int) (L : Nat) (U V : Int) : Prop where
  du : Dig u (L + 3)
  dv : Dig v (L + 2)
  top : 536870912 ≤ v (L + 1)
  eU : U = val u (L + 3)
  eV : V = val v (L + 2)
  lt : U < 1073741824 * V
theorem Stp.splitV {u v : Nat → Int} {L : Nat} {U V : Int} (h : Stp u v L U V) : V = (v (L + 1) * 1073741824 + v L) * P L + val v L := by
  rw [h.eV, val_succ, val_succ, P_succ]; grind
theorem Stp.splitU {u v : Nat → Int} {L : Nat} {U V : Int} (h : Stp u v L U V) : U = ((u (L + 2) * 1073741824 + u (L + 1)) * 1073741824 + u L) * P L + val u L := by
  rw [h.eU, val_succ, val_succ, val_succ, show P (L + 2) = P L * 1073741824 * 1073741824 from rfl, show P (L + 1) = P L * 1073741824 from rfl]; grind
theorem Stp.topU {u v : Nat → Int} {L : Nat} {U V : Int} (h : Stp u v L U V) : u (L + 2) ≤ v (L + 1) := by
  have h1 : val u (L + 3) = val u (L + 2) + u (L + 2) * P (L + 2) := val_succ _ _
  have h2 : val v (L + 2) = val v (L + 1) + v (L + 1) * P (L + 1) := val_succ _ _
  have a := val_nonneg (h.du.le (show L + 2 ≤ L + 3 by omega))
  have b := val_lt (h.dv.le (show L + 1 ≤ L + 2 by omega))
  have c := h.lt
  rw [h.eU, h.eV, h1, h2] at c
  have p := P_pos (L + 1)
  have e : P (L + 2) = P (L + 1) * 1073741824 := P_succ _
  rw [e] at c
  rcases Int.lt_or_le (v (L + 1)) (u (L + 2)) with q | q
  · have f : (v (L + 1) + 1) * (P (L + 1) * 1073741824) ≤ u (L + 2) * (P (L + 1) * 1073741824) := mul_le_r (by omega) (by omega)
    have g : (v (L + 1) + 1) * (P (L + 1) * 1073741824) = 1073741824 * (v (L + 1) * P (L + 1)) + 1073741824 * P (L + 1) := by grind
    omega
  · exact q
theorem Stp.start {u v : Nat → Int} {L : Nat} {U V : Int} (h : Stp u v L U V) {t l : Int} (ht : 0 ≤ t) (hh : u (L + 2) * 1073741824 + u (L + 1) = t * v (L + 1) + l) (hl : l < v (L + 1)) : U < (t + 1) * V := by
  have sU := h.splitU
  have sV := h.splitV
  have p := P_pos L
  have a := val_lt (h.du.le (show L ≤ L + 3 by omega))
  have b := val_nonneg (h.dv.le (show L ≤ L + 2 by omega))
  have dL := h.du L (by omega)
  have vL := h.dv L (by omega)
  have e1 : (u (L + 2) * 1073741824 + u (L + 1) + 1) * (1073741824 * P L) ≤ (t + 1) * v (L + 1) * (1073741824 * P L) := mul_le_r (by rw [Int.add_mul]; omega) (by omega)
  have e2 : 0 ≤ (t + 1) * (v L * P L + val v L) := Int.mul_nonneg (by omega) (by have := Int.mul_nonneg vL.1 (Int.le_of_lt p); omega)
  have e3 : (t + 1) * V = (t + 1) * v (L + 1) * (1073741824 * P L) + (t + 1) * (v L * P L + val v L) := by rw [sV]; grind
  have e4 : U = (u (L + 2) * 1073741824 + u (L + 1) + 1) * (1073741824 * P L) - 1073741824 * P L + u L * P L + val u L := by rw [sU]; grind
  have e5 : u L * P L ≤ 1073741823 * P L := mul_le_r (by omega) (by omega)
  omega
theorem Stp.dec {u v : Nat → Int} {L : Nat} {U V : Int} (h : Stp u v L U V) {t l : Int} (ht : 0 ≤ t) (hh : u (L + 2) * 1073741824 + u (L + 1) = t * v (L + 1) + l) (hc : l * 1073741824 + u L < t * v L) : U < t * V :=
  knuth_dec h.splitV (val_nonneg (h.dv.le (by omega))) h.splitU (val_lt (h.du.le (by omega))) (P_pos L) hh ht hc
theorem Stp.big {u v : Nat → Int} {L : Nat} {U V : Int} (h : Stp u v L U V) {t : Int} (ht : 1073741823 < t) : U < t * V := by
  have := val_nonneg h.dv
  rw [← h.eV] at this
  have e : 1073741824 * V ≤ t * V := mul_le_r (by omega) this
  have := h.lt
  omega
theorem Stp.small {u v : Nat → Int} {L : Nat} {U V : Int} (h : Stp u v L U V) {t l : Int} (hh : u (L + 2) * 1073741824 + u (L + 1) = t * v (L + 1) + l) (hl : 1073741823 < l) : t < 1073741824 := by
  rcases Int.lt_or_le t 1073741824 with q | q
  · exact q
  · have a := h.topU
    have b := (h.du (L + 1) (by omega)).2
    have c := (h.dv (L + 1) (by omega)).1
    have e : 1073741824 * v (L + 1) ≤ t * v (L + 1) := mul_le_r q c
    omega
theorem Stp.long {u v : Nat → Int} {L : Nat} {U V : Int} (h : Stp u v L U V) {t l : Int} (ht : 0 ≤ t) (hh : u (L + 2) * 1073741824 + u (L + 1) = t * v (L + 1) + l) (hl : 1073741823 < l) (hU : U < (t + 1) * V) : Gs U V t := by
  have a := knuth_long h.splitV (val_lt (h.dv.le (by omega))) (h.dv L (by omega)).2 h.splitU (val_nonneg (h.du.le (by omega))) (h.du L (by omega)).1 (P_pos L) hh ht (h.small hh hl) (by omega)
  have := val_nonneg h.dv
  rw [← h.eV] at this
  exact ⟨ht, h.small hh hl, by rw [Int.sub_mul]; omega, hU⟩
theorem Stp.done {u v : Nat → Int} {L : Nat} {U V : Int} (h : Stp u v L U V) {t l : Int} (ht : 0 ≤ t) (hh : u (L + 2) * 1073741824 + u (L + 1) = t * v (L + 1) + l) (h1 : t < 1073741824) (hc : t * v L ≤ l * 1073741824 + u L) (hU : U < (t + 1) * V) : Gs U V t :=
  ⟨ht, h1, knuth_short h.splitV (val_nonneg (h.dv.le (by omega))) (val_lt (h.dv.le (by omega))) (by have := h.top; omega) (h.dv L (by omega)).1 h.splitU (val_nonneg (h.du.le (by omega))) (P_pos L) hh ht h1 hc, hU⟩

set_option maxHeartbeats 2000000 in
theorem guess_any (bu fu cu : Nat) (bo : Option Addr) (cb L M : Nat) (hM : M = L + 2) (u v : Nat → Int) (U V : Int) (w : World) (hu : ∀ i, i < L + 3 → w.cell? ⟨bu, fu + i, none⟩ = some (.int .i64 (u i))) (hul : M + 1 ≤ cu) (hum : cu ≤ 1000000) (hb : Row w bo M cb v) (h : Stp u v L U V) :
    Calls Tryd.prog 39 #[.slice (some ⟨bu, fu, none⟩) (M + 1) cu, .slice bo M cb] w fun e w' => ∃ t, e = .returned (.int .i64 t) ∧ Gs U V t ∧ Below w.heap.size w w' := by
  have hlb := hb.le
  have hmb := hb.max
  obtain ⟨bb, fb, rfl, hbb, hcb⟩ := hb.spot (by omega)
  have u0 := h.du L (by omega)
  have u1 := h.du (L + 1) (by omega)
  have u2 := h.du (L + 2) (by omega)
  have v0 := h.dv L (by omega)
  have v1 := h.dv (L + 1) (by omega)
  have hv := h.top
  have htop := h.topU
  have cu0 : w.cell? ⟨bu, fu + (M - 2), none⟩ = some (.int .i64 (u L)) := by rw [show M - 2 = L by omega]; exact hu L (by omega)
  have cu1 : w.cell? ⟨bu, fu + (M - 1), none⟩ = some (.int .i64 (u (L + 1))) := by rw [show M - 1 = L + 1 by omega]; exact hu (L + 1) (by omega)
  have cu2 : w.cell? ⟨bu, fu + M, none⟩ = some (.int .i64 (u (L + 2))) := by rw [hM]; exact hu (L + 2) (by omega)
  have cv0 : w.cell? ⟨bb, fb + (M - 2), none⟩ = some (.int .i64 (v L)) := by rw [show M - 2 = L by omega]; exact hcb L (by omega)
  have cv1 : w.cell? ⟨bb, fb + (M - 1), none⟩ = some (.int .i64 (v (L + 1))) := by rw [show M - 1 = L + 1 by omega]; exact hcb (L + 1) (by omega)
  have hM2 : 2 ≤ M := by omega
  clear hM hu
  have hor := or_30 u1 u2.1 (by omega)
  obtain ⟨H, hH⟩ : ∃ H, H = u (L + 2) * 1073741824 + u (L + 1) := ⟨_, rfl⟩
  have hH0 : 0 ≤ H := by omega
  have hH1 : H ≤ v (L + 1) * 1073741824 + 1073741823 := by omega
  rw [← hH] at hor
  have HH : Hid (H = u (L + 2) * 1073741824 + u (L + 1)) := hH
  clear hH
  have q0 : 0 ≤ H / v (L + 1) := Int.ediv_nonneg hH0 (by omega)
  have q1 : H / v (L + 1) ≤ 1073741826 := by
    have : H / v (L + 1) < 1073741827 := (Int.ediv_lt_iff_lt_mul (by omega)).2 (by omega)
    omega
  have q2 := Int.emod_nonneg H (show v (L + 1) ≠ 0 by omega)
  have q3 := Int.emod_lt_of_pos H (show 0 < v (L + 1) by omega)
  have q4 : Hid (u (L + 2) * 1073741824 + u (L + 1) = H / v (L + 1) * v (L + 1) + H % v (L + 1)) := by
    show _ = _
    rw [← HH.out]; exact (Int.ediv_mul_add_emod H (v (L + 1))).symm
  have q5 : Hid (U < (H / v (L + 1) + 1) * V) := h.start q0 q4.out q3
  have hnz : (v (L + 1) == 0) = false := by simp; omega
  go_enter Tryd.func39, Tryd.ntmps39
  go_wp2
  go_quiet (fail)
  go_wp2
  go_quiet (fail)
  go_wp2
  have hbu : bu < w.heap.size := World.block_lt_of_cell? w _ cu0
  go_loopw [7, 8] (fun t l wr => ∃ x y : Int, t = .int .i64 x ∧ l = .int .i64 y ∧ 0 ≤ x ∧ x ≤ 1073741826 ∧ 0 ≤ y ∧ y < 2147483648 ∧ Hid (u (L + 2) * 1073741824 + u (L + 1) = x * v (L + 1) + y) ∧ Hid (U < (x + 1) * V) ∧ Below w.heap.size w wr) (fun t _ _ => (intOf t).toNat)
  case atStart => exact ⟨H / v (L + 1), H % v (L + 1), rfl, rfl, q0, q1, q2, by omega, q4, q5, bDrewN (bDrewN (bel_refl _) _) _⟩
  case round =>
    clear q0 q1 q2 q3 q4 q5 hnz hor HH hH0 hH1
    obtain ⟨x, y, rfl, rfl, hx0, hx1, hy0, hy1, HE, HU, hbw⟩ := hrel
    have d0 := (hbw.cell (p := ⟨bu, fu + (M - 2), none⟩) hbu).trans cu0
    have e0 := (hbw.cell (p := ⟨bb, fb + (M - 2), none⟩) hbb).trans cv0
    have e1 := (hbw.cell (p := ⟨bb, fb + (M - 1), none⟩) hbb).trans cv1
    clear cu0 cu1 cu2 cv0 cv1
    by_cases hA : y ≤ 1073741823
    · by_cases hB : 1073741823 < x
      · go_wp2
        go_quiet (fail)
        go_wp2
        go_roundw
        case rel => exact ⟨x - 1, y + v (L + 1), rfl, rfl, by omega, by omega, by omega, by omega, by show _ = _; rw [HE.out, Int.sub_mul]; omega, by show _ < _; rw [show x - 1 + 1 = x by omega]; exact h.big hB, bDrewN hbw _⟩
        case measure => simp [intOf]; omega
      · have hB' : decide (1073741823 < x) = false := decide_eq_false hB
        have hor2 := or_30 u0 hy0 (by omega)
        have hmul := dig_mul ⟨hx0, show x < 1073741824 by omega⟩ v0
        by_cases hC : y * 1073741824 + u L < x * v L
        · have hxp : 0 < x := by
            rcases Int.lt_or_eq_of_le hx0 with e | e
            · exact e
            · rw [← e] at hC; omega
          go_wp2
          go_quiet (fail)
          go_wp2
          go_roundw
          case rel => exact ⟨x - 1, y + v (L + 1), rfl, rfl, by omega, by omega, by omega, by omega, by show _ = _; rw [HE.out, Int.sub_mul]; omega, by show _ < _; rw [show x - 1 + 1 = x by omega]; exact h.dec hx0 HE.out hC, bDrewN hbw _⟩
          case measure => simp [intOf]; omega
        · have hC' : decide (y * 1073741824 + u L < x * v L) = false := decide_eq_false hC
          go_wp2
          go_quiet (fail)
          go_wp2
          go_ret
          exact ⟨x, rfl, h.done hx0 HE.out (by omega) (by omega) HU.out, bDrewN hbw _⟩
    · have hA' : decide (y ≤ 1073741823) = false := decide_eq_false hA
      go_wp2
      go_quiet (fail)
      go_wp2
      go_ret
      exact ⟨x, rfl, h.long hx0 HE.out (by omega) HU.out, bDrewN hbw _⟩
end Go.Proofs.YtmbajngbiefilabDoor
