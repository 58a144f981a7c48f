/-
  Package nat: slices.Clone at ints, digits, shorten, guess, by contracts.
-/
import Derived.Test.YtmbajngbiefilabDoorNW1
import Derived.Test.YtmbajngbiefilabDoorNWr
import Derived.Lib.SliceRun
namespace Go.Proofs.YtmbajngbiefilabDoor
open Go Go.RowKit Go.Proofs.YtmbajngbiefilabDoor.M
set_option linter.unusedSimpArgs false
set_option linter.unusedVariables false

/-- A copy in new memory. -/
def Cpy (w w' : World) (v : Value) (n : Nat) (d : Nat → Int) : Prop := Out w.heap.size w' v n d ∧ Below w.heap.size w w'
theorem out_empty (w : World) (d : Nat → Int) {g : Nat} (hg : g = w.heap.size) : Out w.heap.size (w.alloc (.cells #[] 3)) (.slice (some ⟨g, 0, none⟩) 0 0) 0 d := by
  subst hg
  exact ⟨by simp [vals], .inr ⟨w.heap.size, 0, #[], rfl, Nat.le_refl _, heap_alloc_new w _, Nat.le_refl _, by decide, rfl, rfl⟩⟩
set_option maxHeartbeats 400000 in
theorem clone_any (ao : Option Addr) (n cap : Nat) (d : Nat → Int) (w : World) (h : Row w ao n cap d) (hn : n ≤ 500000) :
    Calls Tryd.prog 17 #[.slice ao n cap] w fun e w' => ∃ v, e = .returned v ∧ Cpy w w' v n d := by
  cases ao with
  | none =>
    have hc := h.nl rfl
    have hl := h.le
    subst hc
    obtain rfl : n = 0 := by omega
    have hnil := fun w' : World => Lib.run_eql_slice_nil (P := Tryd.prog) w' 22 3 none 0 0 0 0 Tryd.underlying22
    go_enter Tryd.func17, Tryd.ntmps17
    go_wp2
    go_ret
    exact ⟨_, rfl, Out.nil _ _ _, bel_refl _⟩
  | some ad =>
    have hnil := fun w' : World => Lib.run_eql_slice_nil (P := Tryd.prog) w' 22 3 (some ad) n cap 0 0 Tryd.underlying22
    go_enter Tryd.func17, Tryd.ntmps17
    go_wp2_with (at_builtin; refine wpList_app rfl _ _ rfl w.heap.size _ 0 d rfl (out_empty w d rfl) _ n cap d rfl (h.alloc _) (by omega) (by simp) ?_; intro v' w1 hO1 hg1)
    go_ret
    refine ⟨_, rfl, ?_, ?_⟩
    · rw [Nat.zero_add] at hO1
      exact hO1.congr fun i hi => by simp [cat]
    · exact (bel_alloc w _).grown hg1 (by simp) (own_ge (out_empty w d rfl))

set_option maxHeartbeats 400000 in
theorem digits_nat (V : Int) (w : World) (h0 : 0 ≤ V) (h1 : V < 9223372036854775808) :
    Calls Tryd.prog 32 #[.int .i64 V] w fun e w' => ∃ v, e = .returned v ∧ Ans w w' V v := by
  have HM : Hid (V < 9223372036854775808) := h1
  clear h1
  go_enter Tryd.func32, Tryd.ntmps32
  go_wp2
  go_loopw [0, 3] (fun i v wr => ∃ (x : Int) (k : Nat) (r : Nat → Int), i = .int .i64 x ∧ 0 ≤ x ∧ k ≤ 3 ∧ Out w.heap.size wr v k r ∧ Dig r k ∧ Hid (x * P k ≤ V) ∧ Hid (x = 0 → Top r k) ∧ Hid (val r k + x * P k = V) ∧ Below w.heap.size w wr) (fun i _ _ => (intOf i).toNat)
  case atStart => exact ⟨V, 0, fun _ => 0, rfl, h0, by omega, Out.nil _ _ _, fun i hi => by omega, by show _ ≤ _; show V * 1 ≤ V; omega, fun _ => .inl rfl, by show _ = _; show 0 + V * 1 = V; omega, bel_refl _⟩
  case round =>
    obtain ⟨x, k, r, rfl, hx, hk3, hO, hD, HB, HT, HV, hbw⟩ := hrel
    by_cases hp : 0 < x
    · have h30 := and_30 x
      have hk2 : k ≤ 2 := by
        by_cases e : k = 3
        · subst e
          have a := HB.out
          have b := HM.out
          have c : P 3 = 1073741824 * 1073741824 * 1073741824 := by decide
          have d : 1 * P 3 ≤ x * P 3 := Int.mul_le_mul_of_nonneg_right (by omega) (Int.le_of_lt (P_pos 3))
          omega
        · omega
      go_wp2_with (at_builtin; refine wpList_app rfl _ _ rfl w.heap.size _ k r rfl (hO.stays (bel_alloc _ _)) _ 1 1 (fun _ => x % 1073741824) rfl (row1 _ _ rfl) (by omega) (by have := hbw.size; simp; omega) ?_; intro v' w1 hO1 hg1)
      have hb1 : Below w.heap.size w w1 := (hbw.alloc hbw.size _).grown hg1 (by have := hbw.size; simp; omega) (own_ge hO)
      have e1 : ∀ i, i < k + 1 → cat r k (fun _ => x % 1073741824) i = upd r k (x % 1073741824) i := fun i hi => by
        by_cases e : i < k
        · simp [cat, e, upd_other r _ (show i ≠ k by omega)]
        · obtain rfl : i = k := by omega
          simp [cat, upd_same]
      have hs := sum_step (c := 0) (x := x) (show val r k + 0 * P k = val r k by omega)
      rw [Int.zero_add] at hs
      go_roundw
      case rel => exact ⟨x / 1073741824, k + 1, upd r k (x % 1073741824), rfl, by omega, by omega, hO1.congr e1, dig_snoc ((hD.congr (fun i hi => (upd_other r _ (by omega)).symm))) (by rw [upd_same]; omega) (by rw [upd_same]; omega), by
          show _ ≤ _
          have a := HB.out
          rw [P_succ, show x / 1073741824 * (P k * 1073741824) = (x / 1073741824 * 1073741824) * P k by grind]
          have b : (x / 1073741824 * 1073741824) * P k ≤ x * P k := Int.mul_le_mul_of_nonneg_right (by omega) (Int.le_of_lt (P_pos k))
          omega, fun e => .inr (by rw [Nat.add_sub_cancel, upd_same]; omega), by show _ = _; rw [hs]; exact HV.out, hb1⟩
      case measure => simp [intOf]; omega
    · obtain rfl : x = 0 := by omega
      go_wp2
      go_ret
      exact ⟨_, rfl, k, r, hO, ⟨hD, HT.out (by first | rfl | trivial)⟩, by have := HV.out; omega, hbw⟩

/-- What shorten leaves of a list that lies in the caller's own memory. -/
def Sht (B : Nat) (w w' : World) (v : Value) (n : Nat) (d : Nat → Int) (D left : Int) : Prop :=
  ∃ r, Out B w' v n r ∧ Dig r n ∧ val d n = D * val r n + left ∧ 0 ≤ left ∧ left < D ∧ Below B w w'
set_option maxHeartbeats 1000000 in
theorem shorten_any (B : Nat) (ao : Option Addr) (n cap : Nat) (d : Nat → Int) (D : Int) (w : World) (h : Out B w (.slice ao n cap) n d) (hd : Dig d n) (hD0 : 0 < D) (hD1 : D < 1073741824) (hn : n ≤ 100000) (hB : B ≤ w.heap.size) :
    Calls Tryd.prog 31 #[.slice ao n cap, .int .i64 D] w fun e w' => ∃ left, e = .returned (.int .i64 left) ∧ Sht B w w' (.slice ao n cap) n d D left := by
  obtain ⟨ao', cap', hv, hR⟩ := h.row
  simp only [Value.slice.injEq, true_and] at hv
  obtain ⟨rfl, rfl⟩ := hv
  have hla := hR.le
  have hma := hR.max
  go_enter Tryd.func31, Tryd.ntmps31
  go_wp2
  go_loopw [5, 10] (fun c i wr => ∃ (k : Nat) (left : Int) (r : Nat → Int), k ≤ n ∧ i = .int .i64 k ∧ c = .int .i64 left ∧ 0 ≤ left ∧ left < D ∧ Out B wr (.slice ao n cap) n r ∧ Dig r n ∧ Hid (∀ i, i < n - k → r i = d i) ∧ Hid (val (fun i => d (n - k + i)) k = D * val (fun i => r (n - k + i)) k + left) ∧ Below B w wr) (fun _ i _ => n - (intOf i).toNat)
  case atStart => exact ⟨0, 0, d, Nat.zero_le _, rfl, rfl, by omega, by omega, h, hd, fun _ _ => rfl, by show _ = _; show (0 : Int) = D * 0 + 0; omega, Below.refl _ _⟩
  case round =>
    obtain ⟨k, left, r, hk, rfl, rfl, hl0, hl1, hO, hD, HS, HV, hbw⟩ := hrel
    by_cases hlt : k < n
    · obtain ⟨m, hm⟩ : ∃ m, n = m + 1 + k := ⟨n - 1 - k, by omega⟩
      have HM : Hid (n = m + 1 + k) := hm
      have hm1 : n ≤ m + 1 + k := by omega
      have hm2 : m + 1 + k ≤ n := by omega
      have hz : ((n : Int) - 1 - k).toNat = m := by omega
      have hz2 : n - 1 - k = m := by omega
      clear hm
      obtain ⟨g, rfl, hg, hgl⟩ := hO.spot (by omega)
      have c1 := hO.cell (show m < n by omega)
      have f1 := hO.frozen m
      have dm := hD m (by omega)
      have hor := or_30 dm hl0 (by omega)
      have HR : Hid (r m = d m) := HS.out m (by omega)
      have hq0 : 0 ≤ left * 1073741824 + r m := by omega
      have hmod0 := Int.emod_nonneg (left * 1073741824 + r m) (show D ≠ 0 by omega)
      have hmod1 := Int.emod_lt_of_pos (left * 1073741824 + r m) hD0
      have hdiv0 : 0 ≤ (left * 1073741824 + r m) / D := Int.ediv_nonneg hq0 (by omega)
      have hdiv1 : (left * 1073741824 + r m) / D < 1073741824 := (Int.ediv_lt_iff_lt_mul hD0).2 (by
        have : (left + 1) * 1073741824 ≤ D * 1073741824 := Int.mul_le_mul_of_nonneg_right (by omega) (by omega)
        rw [Int.mul_comm 1073741824 D]; omega)
      have HVV := HV.out
      rw [show n - k = m + 1 by omega] at HVV
      have hs := short_step HVV
      rw [← HR.out] at hs
      have HST := (show Hid (_ = _) from hs)
      clear hs HVV
      go_wp2
      go_roundw
      case rel => exact ⟨k + 1, (left * 1073741824 + r m) % D, upd r m ((left * 1073741824 + r m) / D), by omega, by go_num, rfl, hmod0, hmod1, hO.store (by omega) _, hD.upd _ ⟨hdiv0, hdiv1⟩, fun i hi => by rw [upd_other r _ (by omega)]; exact HS.out i (by omega), by show _ = _; rw [show n - (k + 1) = m by omega]; exact HST.out, hbw.setCell hg _⟩
      case measure => simp [intOf]; omega
    · obtain rfl : k = n := by omega
      go_wp2
      go_ret
      have hv := HV.out
      rw [Nat.sub_self] at hv
      simp only [Nat.zero_add] at hv
      exact ⟨left, rfl, r, hO, hD, hv, hl0, hl1, hbw⟩
end Go.Proofs.YtmbajngbiefilabDoor
