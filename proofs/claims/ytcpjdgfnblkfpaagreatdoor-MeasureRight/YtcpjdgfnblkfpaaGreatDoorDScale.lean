/-
  Package dyadic: Make and Scale, whatever the exponent, by contracts.
-/
import Derived.Test.YtcpjdgfnblkfpaaGreatDoorDFace
namespace Go.Proofs.YtcpjdgfnblkfpaaGreatDoor
open Go Go.RowKit Go.Proofs.YtcpjdgfnblkfpaaGreatDoor.M
set_option linter.unusedSimpArgs false
set_option linter.unusedVariables false

/-- A number of any exponent: what is far below has no valid form, as 2^-4194304 has none. -/
def mkV (ng : Bool) (M e : Int) : Int := if M = 0 then 0 else if e < -4194304 then 1 else sg ng M * pw e
theorem not_dok_one : ¬ Dok 1 := by
  have h : Dy 1 false 1 (-4194304) := ⟨by show 1 = 1 * pw (-4194304); rfl, by omega, .inr ⟨by omega, by omega⟩⟩
  intro hk
  have := h.ok.1 hk
  omega
theorem not_dok_high {ng : Bool} {M e : Int} (h : 0 < M) (he : 1048576 < e) : ¬ Dok (sg ng M * pw e) := by
  obtain ⟨l, hl⟩ := isLow_ex h
  have hy := Dy.of ng hl h (show -4194304 ≤ e by omega)
  intro hk
  have := hy.ok.1 hk
  omega
theorem settle_mk {ng : Bool} {ao : Option Addr} {n cap : Nat} {d : Nat → Int} {e : Int} {w : World} (h : Row w ao n cap d) (hd : Dig d n) (hn : n ≤ 100000) (hT : Tab w) {V : Int} (hV : V = mkV ng (val d n) e) :
    Calls Tryz.prog 69 #[.agg #[.bool ng, .slice ao n cap, .int .i64 e]] w (DOut w V) := by
  unfold mkV at hV
  by_cases h0 : val d n = 0
  · rw [if_pos h0] at hV
    refine (settle_zero ng ao n cap d e w h hd h0).mono ?_
    rintro x w' ⟨rfl, hb⟩
    rw [hV]
    exact .inl ⟨dok_zero, _, rfl, DAns.zero hb⟩
  · rw [if_neg h0] at hV
    have hp : 0 < val d n := by have := val_nonneg hd; omega
    by_cases he : e < -4194304
    · rw [if_pos he] at hV
      refine (settle_deep h hd hn hT he hp).mono ?_
      rintro x w' ⟨rfl, hb⟩
      rw [hV]
      exact .inr ⟨not_dok_one, rfl, hb⟩
    · rw [if_neg he] at hV
      exact settle_any h hd hn hT (by omega) hV
/-- An exponent that was wrapped round stays far out. -/
theorem settle_wrap {ng : Bool} {ao : Option Addr} {n cap : Nat} {d : Nat → Int} {e k : Int} {w : World} (h : Row w ao n cap d) (hd : Dig d n) (hn : n ≤ 100000) (hT : Tab w) (he0 : -1048576 ≤ e) (he1 : e ≤ 1048576) (hk : rng k) {V : Int} (hV : V = mkV ng (val d n) (e + k)) :
    Calls Tryz.prog 69 #[.agg #[.bool ng, .slice ao n cap, .int .i64 (wrap64 (e + k))]] w (DOut w V) := by
  unfold rng at hk
  by_cases h0 : val d n = 0
  · refine settle_mk h hd hn hT ?_
    rw [hV]; unfold mkV; rw [if_pos h0, if_pos h0]
  · have hp : 0 < val d n := by have := val_nonneg hd; omega
    have hw : wrap64 (e + k) = (e + k + 9223372036854775808) % 18446744073709551616 - 9223372036854775808 := by
      simp only [wrap64]
    by_cases c1 : e + k < -9223372036854775808
    · have e1 : wrap64 (e + k) = e + k + 18446744073709551616 := by rw [hw]; omega
      have hV1 : V = 1 := by rw [hV]; unfold mkV; rw [if_neg h0, if_pos (by omega)]
      refine (settle_mk h hd hn hT rfl).mono ?_
      have hno : ¬ Dok (mkV ng (val d n) (wrap64 (e + k))) := by
        unfold mkV
        rw [if_neg h0, if_neg (by omega)]
        exact not_dok_high hp (by omega)
      rintro x w' (⟨hy, _⟩ | ⟨_, rfl, hb⟩)
      · exact absurd hy hno
      · exact .inr ⟨by rw [hV1]; exact not_dok_one, rfl, hb⟩
    · by_cases c2 : 9223372036854775807 < e + k
      · have e1 : wrap64 (e + k) = e + k - 18446744073709551616 := by rw [hw]; omega
        have hno : ¬ Dok V := by
          rw [hV]
          unfold mkV
          rw [if_neg h0, if_neg (by omega)]
          exact not_dok_high hp (by omega)
        refine (settle_deep h hd hn hT (by omega) hp).mono ?_
        rintro x w' ⟨rfl, hb⟩
        exact .inr ⟨hno, rfl, hb⟩
      · have e1 : wrap64 (e + k) = e + k := by rw [hw]; omega
        rw [e1]
        exact settle_mk h hd hn hT hV
end Go.Proofs.YtcpjdgfnblkfpaaGreatDoor
