/-
  Package round: way.beyond, value.binary64, by their contracts.
-/
import Derived.Test.YtcpjdgfnblkfpaaGreatDoorRFloat
import Derived.Test.YtcpjdgfnblkfpaaGreatDoorJoin
import Derived.Test.YtcpjdgfnblkfpaaGreatDoorDBits
namespace Go.Proofs.YtcpjdgfnblkfpaaGreatDoor
open Go Go.RowKit Go.Proofs.YtcpjdgfnblkfpaaGreatDoor.M
set_option linter.unusedSimpArgs false
set_option linter.unusedVariables false

/-- The rung of what is too great. -/
def bRung (way : Int) (ng : Bool) : Int := if rUp way ng true 3 then 9218868437227405312 else 9218868437227405311
/-- A pattern of a sign and a rung. -/
def patS (ng : Bool) (r : Int) : Int := if ng then r - 9223372036854775808 else r
theorem or_inf : bits BinOp.or IntKind.i64 9218868437227405312 (-9223372036854775808) = -4503599627370496 := by decide +kernel
theorem or_most : bits BinOp.or IntKind.i64 9218868437227405311 (-9223372036854775808) = -4503599627370497 := by decide +kernel
theorem Env.keeps {w w' : World} (h : Env w) (hb : Below w.heap.size w w') : Env w' :=
  ⟨⟨cell_keeps h.lays.a0 hb, cell_keeps h.lays.a1 hb, cell_keeps h.lays.a2 hb, trivial, trivial, trivial⟩, fun j hj => cell_keeps (h.tab j hj) hb⟩
set_option maxRecDepth 100000 in
set_option maxHeartbeats 1000000 in
theorem beyond_any (way : Int) (hw : 0 ≤ way ∧ way ≤ 3) (ng : Bool) (w : World) :
    Calls Tryz.prog 160 #[wayV way, .bool ng, .int .i64 9218868437227405312, .int .i64 (-9223372036854775808)] w fun e w' => e = .returned (.int .i64 (patS ng (bRung way ng))) ∧ Below w.heap.size w w' := by
  have hF := wraise_any way hw
  have hE := wraise_enter way
  unfold wayV bRung
  generalize wayF way = F at hF hE ⊢
  have q0 := heap_alloc_new w (.cells #[.func (.func F) #[] #[]] 174)
  have k0 := blkC q0 0 rfl
  have o1 := or_inf
  have o2 := or_most
  obtain ⟨R, hR⟩ : ∃ R, rUp way ng true 3 = R := ⟨_, rfl⟩
  have hFF := hF ng true 3
  rw [hR] at hFF ⊢
  clear hR hF
  cases ng <;> cases R
  all_goals
    unfold patS
    go_enter Tryz.func160, Tryz.ntmps160
    go_wp2_with (first | (refine (hFF _).mono ?_; rintro _ _ ⟨rfl, rfl⟩))
    all_goals go_ret
    all_goals exact ⟨by simp, bel_alloc _ _⟩
/-- What a value is rounded to. -/
def r64 (way : Int) (ng sd : Bool) (mag : Nat) (exp : Int) (cut : Bool) : Int × Bool :=
  let E := rE 53 (-1074) mag exp
  let u := rU mag (E - exp)
  let left := rL mag cut (E - exp)
  let U := u + (if rUp way ng (decide (u % 2 = 1)) left then 1 else 0)
  let neg := ng && (decide (0 < U) || sd)
  if jk 52 2047 (-1074) U E then (jp neg U E, decide (left ≠ 0)) else (patS neg (bRung way neg), true)
set_option maxRecDepth 100000 in
set_option maxHeartbeats 1000000 in
theorem binary64_any (way : Int) (hw : 0 ≤ way ∧ way ≤ 3) (ng sd : Bool) (mag : Nat) (exp : Int) (cut : Bool) (w : World) (Ev : Env w) (hm : mag < 18446744073709551616) (he : -4500000 ≤ exp ∧ exp ≤ 4500000) :
    Calls Tryz.prog 154 #[valV ng mag exp cut sd, wayV way] w fun e w' => e = .returned (.tuple #[.int .i64 (r64 way ng sd mag exp cut).1, .bool (r64 way ng sd mag exp cut).2]) ∧ Below w.heap.size w w' := by
  have e64 : (2 : Nat) ^ 64 = 18446744073709551616 := by decide
  have e53 : (2 : Nat) ^ (53 : Int).toNat = 9007199254740992 := by decide
  have hE : -5000000 ≤ rE 53 (-1074) mag exp ∧ rE 53 (-1074) mag exp ≤ 5000000 := by
    have hbl : Lib.bitLen mag ≤ 64 := by
      by_cases h0 : mag = 0
      · rw [h0]; decide
      · exact (M.bitLen_spec mag (by omega) h0).2.2.2
    unfold rE
    omega
  have hu : rU mag (rE 53 (-1074) mag exp - exp) ≤ 9007199254740991 := by
    by_cases h0 : mag = 0
    · rw [h0]; unfold rU; split <;> simp
    · have := (rU_bits (size := 53) (low := -1074) (exp := exp) (by decide) (by omega) h0).1
      rw [e53] at this
      omega
  have hUn := fun W => units_any way hw ng mag exp (rE 53 (-1074) mag exp) cut sd W hm hE (by omega) (by omega)
  have HR : r64 way ng sd mag exp cut = (let E := rE 53 (-1074) mag exp
    let u := rU mag (E - exp)
    let left := rL mag cut (E - exp)
    let U := u + (if rUp way ng (decide (u % 2 = 1)) left then 1 else 0)
    let neg := ng && (decide (0 < U) || sd)
    if jk 52 2047 (-1074) U E then (jp neg U E, decide (left ≠ 0)) else (patS neg (bRung way neg), true)) := rfl
  simp only at HR
  have hEE : rE 53 (-1074) mag exp = rE 53 (-1074) mag exp := rfl
  obtain ⟨E, hEq⟩ : ∃ E, rE 53 (-1074) mag exp = E := ⟨_, rfl⟩
  rw [hEq] at hE hu hUn HR
  obtain ⟨left, hleft⟩ : ∃ l, rL mag cut (E - exp) = l := ⟨_, rfl⟩
  rw [hleft] at hUn HR
  obtain ⟨U, hU⟩ : ∃ U, rU mag (E - exp) + (if rUp way ng (decide (rU mag (E - exp) % 2 = 1)) left then 1 else 0) = U := ⟨_, rfl⟩
  rw [hU] at hUn HR
  have hU2 : U ≤ 9007199254740992 := by rw [← hU]; split <;> omega
  obtain ⟨neg, hneg⟩ : ∃ n, (ng && (decide (0 < U) || sd)) = n := ⟨_, rfl⟩
  have hFl := fun W => float_F (wayF way) ng mag exp 53 (-1074) cut sd U E (decide (left ≠ 0)) W hm he (by omega) (by omega) hEq (by omega) hUn
  rw [hneg] at hFl HR
  have hJ := fun W (EW : Env W) => bitsJoin neg (U : Int) E W EW (by unfold rng; omega) (by unfold rng; omega)
  have hB := fun W => beyond_any way hw neg W
  obtain ⟨other, hoth⟩ : ∃ o, decide (left ≠ 0) = o := ⟨_, rfl⟩
  rw [hoth] at hFl HR
  obtain ⟨fin, hfin⟩ : ∃ f, jk 52 2047 (-1074) (U : Int) E = f := ⟨_, rfl⟩
  obtain ⟨pt, hpt⟩ : ∃ p, jp neg (U : Int) E = p := ⟨_, rfl⟩
  rw [hpt] at hJ HR
  rw [hfin] at hJ HR
  obtain ⟨by1, hby⟩ : ∃ b, patS neg (bRung way neg) = b := ⟨_, rfl⟩
  rw [hby] at hB HR
  rw [HR]
  have hUi : ((U : Nat) : Int) = ((U : Nat) : Int) := rfl
  have hb2 := bel_alloc2 w (.cells #[.bool ng, .int .u64 mag, .int .i64 exp, .bool cut, .bool sd] 170) (.cells #[.func (.func (wayF way)) #[] #[]] 174)
  have q1 := heap_b2 w (.cells #[.bool ng, .int .u64 mag, .int .i64 exp, .bool cut, .bool sd] 170) (.cells #[.func (.func (wayF way)) #[] #[]] 174)
  have k1 := blkC q1 0 rfl
  have HEV : Hid (Env w) := Ev
  clear Ev HR hUn hEq hleft hU hneg hoth hfin hpt hby hU2 hu hE hEE hUi e64 e53
  unfold wayV valV at *
  generalize wayF way = F at *
  go_enter Tryz.func154, Tryz.ntmps154
  go_wp2_with fail
  refine (hFl _).mono ?_
  rintro _ w1 ⟨rfl, hb1⟩
  have hbw := bel_trans hb2 hb1
  have p1 := (hb1.block _ (Array.getElem?_eq_some_iff.1 q1).1).trans q1
  have k2 := blkC p1 0 rfl
  clear hFl hb2 hb1 q1 k1
  go_wp2_with fail
  refine (hJ _ (HEV.out.keeps hbw)).mono ?_
  rintro _ w2 ⟨rfl, hg⟩
  have hb2 := hg.be
  have hbw2 := bel_trans hbw hb2
  have p2 := (hb2.block _ (Array.getElem?_eq_some_iff.1 p1).1).trans p1
  have k3 := blkC p2 0 rfl
  clear hJ hg p1 p2 k2 hb2 hbw
  cases fin
  · go_wp2_with fail
    refine (hB _).mono ?_
    rintro _ w3 ⟨rfl, hb3⟩
    go_wp2
    all_goals go_ret2
    all_goals exact ⟨by simp, bel_trans hbw2 hb3⟩
  · go_wp2
    all_goals go_ret2
    all_goals exact ⟨by simp, hbw2⟩
end Go.Proofs.YtcpjdgfnblkfpaaGreatDoor
