/-
  Package round: value.units, by its contract.
-/
import Derived.Test.YtcpjdgfnblkfpaaGreatDoorRSplit
import Derived.WalkSmall
namespace Go.Proofs.YtcpjdgfnblkfpaaGreatDoor
open Go Go.RowKit Go.Proofs.YtcpjdgfnblkfpaaGreatDoor.M
set_option linter.unusedSimpArgs false
set_option linter.unusedVariables false

theorem wraise_any (way : Int) (hw : 0 ≤ way ∧ way ≤ 3) (ng odd : Bool) (left : Int) (w : World) : Calls Tryz.prog (wayF way) #[.bool ng, .bool odd, .int .i64 left] w fun e w' => e = .returned (.bool (rUp way ng odd left)) ∧ w' = w := by
  have hc : way = 0 ∨ way = 1 ∨ way = 2 ∨ way = 3 := by omega
  rcases hc with rfl | rfl | rfl | rfl
  · exact raise1 ng odd left w
  · exact raise2 ng odd left w
  · exact raise3 ng odd left w
  · exact raise4 ng odd left w
theorem wraise_enter (way : Int) (cap : Array Value) (w : World) : (callFunc (wayF way) cap).run Tryz.prog w = .ok (.enter (wayF way) cap) w := by
  unfold wayF
  by_cases h0 : way = 0
  · rw [if_pos h0]; simp [go_sem]
  · rw [if_neg h0]
    by_cases h1 : way = 1
    · rw [if_pos h1]; simp [go_sem]
    · rw [if_neg h1]
      by_cases h2 : way = 2
      · rw [if_pos h2]; simp [go_sem]
      · rw [if_neg h2]; simp [go_sem]
set_option maxRecDepth 100000 in
set_option maxHeartbeats 1000000 in
theorem units_F (F : Nat) (R : Bool → Bool → Int → Bool) (ng : Bool) (mag : Nat) (exp unit : Int) (cut sd : Bool) (u : Nat) (left : Int) (w : World) (hE : ∀ (cap : Array Value) (w : World), (callFunc F cap).run Tryz.prog w = .ok (.enter F cap) w)
    (hF : ∀ ng odd left W, Calls Tryz.prog F #[.bool ng, .bool odd, .int .i64 left] W fun e w' => e = .returned (.bool (R ng odd left)) ∧ w' = W) (hu : u < 18446744073709551615)
    (hS : ∀ W, Calls Tryz.prog 170 #[valV ng mag exp cut sd, .int .i64 unit] W fun e w' => e = .returned (.tuple #[.int .u64 (u : Nat), .int .i64 left]) ∧ Below W.heap.size W w') :
    Calls Tryz.prog 167 #[valV ng mag exp cut sd, .int .i64 unit, .agg #[.func (.func F) #[] #[]]] w fun e w' => e = .returned (.tuple #[.int .u64 (u + (if R ng (decide (u % 2 = 1)) left then 1 else 0) : Nat), .bool (decide (left ≠ 0))]) ∧ Below w.heap.size w w' := by
  unfold valV at *
  have hb2 := bel_alloc2 w (.cells #[.bool ng, .int .u64 mag, .int .i64 exp, .bool cut, .bool sd] 170) (.cells #[.func (.func F) #[] #[]] 174)
  have q0 := heap_a2 w (.cells #[.bool ng, .int .u64 mag, .int .i64 exp, .bool cut, .bool sd] 170) (.cells #[.func (.func F) #[] #[]] 174)
  have q1 := heap_b2 w (.cells #[.bool ng, .int .u64 mag, .int .i64 exp, .bool cut, .bool sd] 170) (.cells #[.func (.func F) #[] #[]] 174)
  obtain ⟨odd, ho⟩ : ∃ odd, decide (u % 2 = 1) = odd := ⟨_, rfl⟩
  have hodd : (bits BinOp.and IntKind.u64 (u : Int) 1 == 1) = odd := by
    rw [and_one_u64 _ (by omega) (by omega), ← ho]
    by_cases h : u % 2 = 1
    · rw [decide_eq_true h]; simp; omega
    · rw [decide_eq_false h]; simp; omega
  rw [ho]
  clear ho
  have hw1 : IntKind.u64.wrap ((u : Int) + 1) = ((u + 1 : Nat) : Int) := by rw [IntKind.wrap_u64]; omega
  go_enter Tryz.func167, Tryz.ntmps167
  go_wp2_with fail
  refine (hS _).mono ?_
  rintro _ w1 ⟨rfl, hb1⟩
  have hbw := bel_trans hb2 hb1
  have p0 := (hb1.block _ (Array.getElem?_eq_some_iff.1 q0).1).trans q0
  have p1 := (hb1.block _ (Array.getElem?_eq_some_iff.1 q1).1).trans q1
  have k0 := blkC p0 0 rfl
  have k1 := blkC p1 0 rfl
  clear hS q0 q1 hb1 hb2
  go_wp2_with fail
  refine (hF ng odd left _).mono ?_
  rintro _ _ ⟨rfl, rfl⟩
  cases hR : R ng odd left
  · have HR : Hid (R ng odd left = false) := hR
    by_cases hl : left = 0
    · go_wp2
      all_goals go_ret2
      all_goals exact ⟨by simp_all, hbw⟩
    · go_wp2
      all_goals go_ret2
      all_goals exact ⟨by simp_all, hbw⟩
  · have HR : Hid (R ng odd left = true) := hR
    by_cases hl : left = 0
    · go_wp2
      all_goals go_ret2
      all_goals exact ⟨by simp_all, hbw⟩
    · go_wp2
      all_goals go_ret2
      all_goals exact ⟨by simp_all, hbw⟩
theorem units_any (way : Int) (hw : 0 ≤ way ∧ way ≤ 3) (ng : Bool) (mag : Nat) (exp unit : Int) (cut sd : Bool) (w : World) (hm : mag < 18446744073709551616) (hu : -5000000 ≤ unit ∧ unit ≤ 5000000) (he : -5000000 ≤ exp ∧ exp ≤ 5000000) (hs : rU mag (unit - exp) < 18446744073709551615) :
    Calls Tryz.prog 167 #[valV ng mag exp cut sd, .int .i64 unit, wayV way] w fun e w' => e = .returned (.tuple #[.int .u64 (rU mag (unit - exp) + (if rUp way ng (decide (rU mag (unit - exp) % 2 = 1)) (rL mag cut (unit - exp)) then 1 else 0) : Nat), .bool (decide (rL mag cut (unit - exp) ≠ 0))]) ∧ Below w.heap.size w w' :=
  units_F (wayF way) (rUp way) ng mag exp unit cut sd _ _ w (wraise_enter way) (wraise_any way hw) hs (fun W => split_any ng mag exp unit cut sd W hm hu he (fun _ => by omega))
end Go.Proofs.YtcpjdgfnblkfpaaGreatDoor
