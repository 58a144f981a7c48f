/-
  Package dyadic: which numbers are valid, their signs, by contracts: whatever the sign, the list, the exponent.
-/
import Derived.Test.YtcpjdgfnblkfpaaGreatDoorNLen
import Derived.Test.YtcpjdgfnblkfpaaGreatDoorNW5
import Derived.Test.YtcpjdgfnblkfpaaGreatDoorDM
namespace Go.Proofs.YtcpjdgfnblkfpaaGreatDoor
open Go Go.RowKit Go.Proofs.YtcpjdgfnblkfpaaGreatDoor.M
set_option linter.unusedSimpArgs false
set_option linter.unusedVariables false

/-- A number as a call takes it. -/
def numV (ng : Bool) (ao : Option Addr) (n cap : Nat) (e : Int) : Value := .agg #[.bool ng, .slice ao n cap, .int .i64 e]
/-- Is it valid? -/
def okN (ng : Bool) (d : Nat → Int) (n : Nat) (e : Int) : Bool := decide ((n = 0 ∧ ng = false ∧ e = 0) ∨ (0 < n ∧ (n ≤ 2000 ∧ Nrm d n) ∧ d 0 % 2 = 1 ∧ -1048576 ≤ e ∧ e ≤ 1048576))
theorem and_one (x : Int) : bits .and .i64 x 1 = x % 2 := and_i64_mask x 1 (by decide)
set_option maxHeartbeats 1000000 in
theorem dvalid_any (ng : Bool) (ao : Option Addr) (n cap : Nat) (d : Nat → Int) (e : Int) (w : World) (h : Row w ao n cap d) :
    Calls Tryz.prog 95 #[.agg #[.bool ng, .slice ao n cap, .int .i64 e]] w fun r w' => r = .returned (.bool (okN ng d n e)) ∧ Below w.heap.size w w' := by
  have hl := h.le
  have hm := h.max
  by_cases h0 : n = 0
  · subst h0
    have e0 : okN ng d 0 e = (!ng && (e == 0)) := by
      by_cases he : e = 0 <;> cases ng <;> simp [okN, he]
    cases ng
    · go_enter Tryz.func95, Tryz.ntmps95
      go_wp2
      go_ret
      exact ⟨ret_bool (by rw [e0]; rfl), bel_alloc _ _⟩
    · go_enter Tryz.func95, Tryz.ntmps95
      go_wp2
      go_ret
      exact ⟨ret_bool (by rw [e0]; rfl), bel_alloc _ _⟩
  · obtain ⟨b, off, rfl, hb, hc⟩ := h.spot (by omega)
    have c0 : (w.alloc (.cells #[.bool ng, .slice (some ⟨b, off, none⟩) n cap, .int .i64 e] 37)).cell? ⟨b, off, none⟩ = some (.int .i64 (d 0)) := ((bel_alloc w _).cell (p := ⟨b, off, none⟩) hb).trans (hc 0 (by omega))
    have hA := and_one (d 0)
    have hn0 : ((n : Int) == 0) = false := by simp; omega
    have hR := h.alloc (.cells #[.bool ng, .slice (some ⟨b, off, none⟩) n cap, .int .i64 e] 37)
    by_cases h1 : d 0 % 2 = 1
    · by_cases h2 : -1048576 ≤ e
      · by_cases h3 : e ≤ 1048576
        · have e0 : okN ng d n e = okB d n := by simp [okN, okB, h0, h1, h2, h3]; omega
          go_enter Tryz.func95, Tryz.ntmps95
          go_wp2_with (go_at_call 126; refine (valid_any _ _ _ _ _ hR).mono ?_; rintro r w1 ⟨rfl, rfl⟩)
          go_ret
          exact ⟨ret_bool e0.symm, bel_alloc _ _⟩
        · have e0 : okN ng d n e = false := by simp [okN]; omega
          go_enter Tryz.func95, Tryz.ntmps95
          go_wp2
          go_ret
          exact ⟨ret_bool (by first | rfl | rw [e0]), bel_alloc _ _⟩
      · have e0 : okN ng d n e = false := by simp [okN]; omega
        go_enter Tryz.func95, Tryz.ntmps95
        go_wp2
        go_ret
        exact ⟨ret_bool (by first | rfl | rw [e0]), bel_alloc _ _⟩
    · have e0 : okN ng d n e = false := by simp [okN]; omega
      go_enter Tryz.func95, Tryz.ntmps95
      go_wp2
      go_ret
      exact ⟨ret_bool (by first | rfl | rw [e0]), bel_alloc _ _⟩
/-- The sign. -/
def sgn (ng : Bool) (n : Nat) : Int := if n = 0 then 0 else if ng then -1 else 1
theorem dsign_any (ng : Bool) (ao : Option Addr) (n cap : Nat) (e : Int) (w : World) (hm : n ≤ 9223372036854775807) :
    Calls Tryz.prog 99 #[.agg #[.bool ng, .slice ao n cap, .int .i64 e]] w fun r w' => r = .returned (.int .i64 (sgn ng n)) ∧ Below w.heap.size w w' := by
  by_cases h0 : n = 0
  · subst h0
    go_enter Tryz.func99, Tryz.ntmps99
    go_wp2
    go_ret
    exact ⟨rfl, bel_alloc _ _⟩
  · have hn0 : ((n : Int) == 0) = false := by simp; omega
    cases ng
    · go_enter Tryz.func99, Tryz.ntmps99
      go_wp2
      go_ret
      exact ⟨ret_int (by simp [sgn, h0]), bel_alloc _ _⟩
    · go_enter Tryz.func99, Tryz.ntmps99
      go_wp2
      go_ret
      exact ⟨ret_int (by simp [sgn, h0]), bel_alloc _ _⟩
theorem dtop_any (ng : Bool) (ao : Option Addr) (n cap : Nat) (d : Nat → Int) (e : Int) (w : World) (h : Row w ao n cap d) (hd : Nrm d n) (hn : n ≤ 100000) (he0 : -8388608 ≤ e) (he1 : e ≤ 8388608) :
    Calls Tryz.prog 127 #[.agg #[.bool ng, .slice ao n cap, .int .i64 e]] w fun r w' => r = .returned (.int .i64 (e + blen (val d n))) ∧ Below w.heap.size w w' := by
  have hR := h.alloc (.cells #[.bool ng, .slice ao n cap, .int .i64 e] 37)
  have hb : blen (val d n) ≤ 30 * n := blen_le (by rw [← P_two]; exact val_lt hd.1)
  go_enter Tryz.func127, Tryz.ntmps127
  go_wp2
  go_quiet ((refine (bitLength_any _ _ _ _ _ (hR.keeps (bDrewN (bel_refl _) _)) hd (by omega)).mono ?_; rintro _ _ ⟨rfl, rfl⟩; exact ⟨rfl, _, rfl⟩))
  go_wp2
  go_ret
  exact ⟨rfl, bDrewN (bel_alloc _ _) _⟩
end Go.Proofs.YtcpjdgfnblkfpaaGreatDoor
