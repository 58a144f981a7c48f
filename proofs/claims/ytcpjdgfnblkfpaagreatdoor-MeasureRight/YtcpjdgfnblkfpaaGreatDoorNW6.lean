/-
  Package nat: slices.Clone at ints, digits, shorten, guess, by contracts.
-/
import Derived.Test.YtcpjdgfnblkfpaaGreatDoorNW1
import Derived.Test.YtcpjdgfnblkfpaaGreatDoorNWr
import Derived.Lib.SliceRun
namespace Go.Proofs.YtcpjdgfnblkfpaaGreatDoor
open Go Go.RowKit Go.Proofs.YtcpjdgfnblkfpaaGreatDoor.M
set_option linter.unusedSimpArgs false
set_option linter.unusedVariables false

/-- A copy in new memory. -/
def Cpy (w w' : World) (v : Value) (n : Nat) (d : Nat → Int) : Prop := Out w.heap.size w' v n d ∧ Below w.heap.size w w'
theorem out_empty (w : World) (d : Nat → Int) {g : Nat} (hg : g = w.heap.size) : Out w.heap.size (w.alloc (.cells #[] 3)) (.slice (some ⟨g, 0, none⟩) 0 0) 0 d := by
  subst hg
  exact ⟨by simp [vals], .inr ⟨w.heap.size, 0, #[], rfl, Nat.le_refl _, heap_alloc_new w _, Nat.le_refl _, by decide, rfl, rfl⟩⟩
set_option maxHeartbeats 400000 in
theorem digits_nat (V : Int) (w : World) (h0 : 0 ≤ V) (h1 : V < 9223372036854775808) :
    Calls Tryz.prog 145 #[.int .i64 V] w fun e w' => ∃ v, e = .returned v ∧ Ans w w' V v := by
  have HM : Hid (V < 9223372036854775808) := h1
  clear h1
  go_enter Tryz.func145, Tryz.ntmps145
  go_wp2
  go_loopw [0, 3] (fun i v wr => ∃ (x : Int) (k : Nat) (r : Nat → Int), i = .int .i64 x ∧ 0 ≤ x ∧ k ≤ 3 ∧ Out w.heap.size wr v k r ∧ Dig r k ∧ Hid (x * P k ≤ V) ∧ Hid (x = 0 → Top r k) ∧ Hid (val r k + x * P k = V) ∧ Below w.heap.size w wr) (fun i _ _ => (intOf i).toNat)
  case atStart => exact ⟨V, 0, fun _ => 0, rfl, h0, by omega, Out.nil _ _ _, fun i hi => by omega, by show _ ≤ _; show V * 1 ≤ V; omega, fun _ => .inl rfl, by show _ = _; show 0 + V * 1 = V; omega, bel_refl _⟩
  case round =>
    obtain ⟨x, k, r, rfl, hx, hk3, hO, hD, HB, HT, HV, hbw⟩ := hrel
    by_cases hp : 0 < x
    · have h30 := and_30 x
      have hk2 : k ≤ 2 := by
        by_cases e : k = 3
        · subst e
          have a := HB.out
          have b := HM.out
          have c : P 3 = 1073741824 * 1073741824 * 1073741824 := by decide
          have d : 1 * P 3 ≤ x * P 3 := Int.mul_le_mul_of_nonneg_right (by omega) (Int.le_of_lt (P_pos 3))
          omega
        · omega
      go_wp2_with (at_builtin; refine wpList_app rfl _ _ rfl w.heap.size _ k r rfl (hO.stays (bel_alloc _ _)) _ 1 1 (fun _ => x % 1073741824) rfl (row1 _ _ rfl) (by omega) (by have := hbw.size; simp; omega) ?_; intro v' w1 hO1 hg1)
      have hb1 : Below w.heap.size w w1 := (hbw.alloc hbw.size _).grown hg1 (by have := hbw.size; simp; omega) (own_ge hO)
      have e1 : ∀ i, i < k + 1 → cat r k (fun _ => x % 1073741824) i = upd r k (x % 1073741824) i := fun i hi => by
        by_cases e : i < k
        · simp [cat, e, upd_other r _ (show i ≠ k by omega)]
        · obtain rfl : i = k := by omega
          simp [cat, upd_same]
      have hs := sum_step (c := 0) (x := x) (show val r k + 0 * P k = val r k by omega)
      rw [Int.zero_add] at hs
      go_roundw
      case rel => exact ⟨x / 1073741824, k + 1, upd r k (x % 1073741824), rfl, by omega, by omega, hO1.congr e1, dig_snoc ((hD.congr (fun i hi => (upd_other r _ (by omega)).symm))) (by rw [upd_same]; omega) (by rw [upd_same]; omega), by
          show _ ≤ _
          have a := HB.out
          rw [P_succ, show x / 1073741824 * (P k * 1073741824) = (x / 1073741824 * 1073741824) * P k by grind]
          have b : (x / 1073741824 * 1073741824) * P k ≤ x * P k := Int.mul_le_mul_of_nonneg_right (by omega) (Int.le_of_lt (P_pos k))
          omega, fun e => .inr (by rw [Nat.add_sub_cancel, upd_same]; omega), by show _ = _; rw [hs]; exact HV.out, hb1⟩
      case measure => simp [intOf]; omega
    · obtain rfl : x = 0 := by omega
      go_wp2
      go_ret
      exact ⟨_, rfl, k, r, hO, ⟨hD, HT.out (by first | rfl | trivial)⟩, by have := HV.out; omega, hbw⟩

/-- What shorten leaves of a list that lies in the caller's own memory. -/
def Sht (B : Nat) (w w' : World) (v : Value) (n : Nat) (d : Nat → Int) (D left : Int) : Prop :=
  ∃ r, Out B w' v n r ∧ Dig r n ∧ val d n = D * val r n + left ∧ 0 ≤ left ∧ left < D ∧ Below B w w'
end Go.Proofs.YtcpjdgfnblkfpaaGreatDoor
