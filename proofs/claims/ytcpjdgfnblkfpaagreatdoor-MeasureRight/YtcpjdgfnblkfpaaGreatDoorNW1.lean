/-
  Package nat: Valid, trim, compare, sum, difference, by contracts: for every list in memory.
-/
import Derived.Test.YtcpjdgfnblkfpaaGreatDoorNRow
import Derived.Test.YtcpjdgfnblkfpaaGreatDoorNMulM
namespace Go.Proofs.YtcpjdgfnblkfpaaGreatDoor
open Go Go.RowKit Go.Proofs.YtcpjdgfnblkfpaaGreatDoor.M
set_option linter.unusedSimpArgs false
set_option linter.unusedVariables false

instance (d : Nat → Int) (n : Nat) : Decidable (Dig d n) := by unfold Dig; infer_instance
instance (d : Nat → Int) (n : Nat) : Decidable (Top d n) := by unfold Top; infer_instance
instance (d : Nat → Int) (n : Nat) : Decidable (Nrm d n) := by unfold Nrm; infer_instance
/-- Is it a valid list? -/
def okB (d : Nat → Int) (n : Nat) : Bool := decide (n ≤ 2000 ∧ Nrm d n)
theorem okB_yes {d : Nat → Int} {n : Nat} (h : n ≤ 2000) (k : Nrm d n) : okB d n = true := by simp [okB, h, k]
theorem okB_no {d : Nat → Int} {n : Nat} (h : ¬ (n ≤ 2000 ∧ Nrm d n)) : okB d n = false := by simp only [okB, h, decide_false]
theorem okB_out {d : Nat → Int} {n : Nat} (h : okB d n = true) : n ≤ 2000 ∧ Nrm d n := of_decide_eq_true h
theorem ret_bool {a b : Bool} (h : a = b) : Ending.returned (.bool a) = .returned (.bool b) := by rw [h]
theorem ret_int {k : IntKind} {a b : Int} (h : a = b) : Ending.returned (.int k a) = .returned (.int k b) := by rw [h]
theorem dig_snoc {d : Nat → Int} {k : Nat} (h : Dig d k) (h0 : 0 ≤ d k) (h1 : d k < 1073741824) : Dig d (k + 1) := fun i hi => by
  by_cases e : i = k
  · rw [e]; exact ⟨h0, h1⟩
  · exact h i (by omega)

set_option maxHeartbeats 400000 in
theorem valid_any (ao : Option Addr) (n cap : Nat) (d : Nat → Int) (w : World) (h : Row w ao n cap d) :
    Calls Tryz.prog 126 #[.slice ao n cap] w fun e w' => e = .returned (.bool (okB d n)) ∧ w' = w := by
  have hl := h.le
  have hm := h.max
  by_cases h2k : n ≤ 2000
  · go_enter Tryz.func126, Tryz.ntmps126
    go_wp2
    go_loop [9] (fun i => ∃ k : Nat, k ≤ n ∧ i = .int .i64 k ∧ Dig d k) (fun i => n - (intOf i).toNat)
    case atStart => exact ⟨0, Nat.zero_le _, rfl, fun i hi => absurd hi (by omega)⟩
    case round =>
      obtain ⟨k, hk, rfl, hd⟩ := hrel
      by_cases hlt : k < n
      · obtain ⟨b, off, rfl, hb, hc⟩ := h.spot (by omega)
        have c := hc k hlt
        by_cases h0 : d k < 0
        · go_wp2
          go_ret
          exact ⟨ret_bool (okB_no (fun ⟨_, q⟩ => by have := (q.1 k hlt).1; omega)).symm, rfl⟩
        · by_cases h1 : 1073741823 < d k
          · go_wp2
            go_ret
            exact ⟨ret_bool (okB_no (fun ⟨_, q⟩ => by have := (q.1 k hlt).2; omega)).symm, rfl⟩
          · go_wp2
            go_round
            case rel => exact ⟨k + 1, by omega, by go_num, dig_snoc hd (by omega) (by omega)⟩
            case measure => simp [intOf]; omega
      · obtain rfl : k = n := by omega
        by_cases h0 : k = 0
        · subst h0
          go_wp2
          go_ret
          exact ⟨ret_bool (okB_yes h2k ⟨hd, .inl rfl⟩).symm, rfl⟩
        · obtain ⟨b, off, rfl, hb, hc⟩ := h.spot (by omega)
          have c := hc (k - 1) (by omega)
          by_cases h1 : d (k - 1) = 0
          · go_wp2
            go_ret
            exact ⟨ret_bool ((show _ = false by simp; omega).trans (okB_no (fun ⟨_, q⟩ => by rcases q.2 with e | e <;> omega)).symm), rfl⟩
          · go_wp2
            go_ret
            exact ⟨ret_bool ((show _ = true by simp; omega).trans (okB_yes h2k ⟨hd, .inr h1⟩).symm), rfl⟩
  · go_enter Tryz.func126, Tryz.ntmps126
    go_wp2
    go_ret
    exact ⟨ret_bool (okB_no (fun ⟨q, _⟩ => h2k q)).symm, rfl⟩

set_option maxHeartbeats 400000 in
theorem trim_any (ao : Option Addr) (n cap : Nat) (d : Nat → Int) (w : World) (h : Row w ao n cap d) :
    Calls Tryz.prog 101 #[.slice ao n cap] w fun e w' => ∃ t : Nat, t ≤ n ∧ Top d t ∧ (∀ i, t ≤ i → i < n → d i = 0) ∧ e = .returned (cutV ao t cap) ∧ w' = w := by
  have hl := h.le
  have hm := h.max
  go_enter Tryz.func101, Tryz.ntmps101
  go_wp2
  go_loop [3] (fun i => ∃ k : Nat, k ≤ n ∧ i = .int .i64 k ∧ ∀ i, k ≤ i → i < n → d i = 0) (fun i => (intOf i).toNat)
  case atStart => exact ⟨n, Nat.le_refl _, rfl, fun i a b => by omega⟩
  case round =>
    obtain ⟨k, hk, rfl, hz⟩ := hrel
    have HZ : Hid (∀ i, k ≤ i → i < n → d i = 0) := hz
    clear hz
    by_cases h0 : k = 0
    · subst h0
      go_wp2
      go_ret
      exact ⟨0, by omega, .inl rfl, HZ.out, rfl, rfl⟩
    · obtain ⟨b, off, rfl, hb, hc⟩ := h.spot (by omega)
      have c := hc (k - 1) (by omega)
      by_cases h1 : d (k - 1) = 0
      · go_wp2
        go_round
        case rel => exact ⟨k - 1, by omega, by go_num, fun i a b => by by_cases e : i = k - 1; (· rw [e]; exact h1); (· exact HZ.out i (by omega) b)⟩
        case measure => simp [intOf]; omega
      · go_wp2
        go_ret
        exact ⟨k, hk, .inr h1, HZ.out, by unfold cutV; rw [if_neg h0]; simp, rfl⟩
end Go.Proofs.YtcpjdgfnblkfpaaGreatDoor
