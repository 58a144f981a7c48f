/-
  Package round: value.split, by its contract.
-/
import Derived.Test.YtcpjdgfnblkfpaaGreatDoorRWay
import Derived.Deep.RegionHeld3
namespace Go.Proofs.YtcpjdgfnblkfpaaGreatDoor
open Go Go.RowKit Go.Proofs.YtcpjdgfnblkfpaaGreatDoor.M
set_option linter.unusedSimpArgs false
set_option linter.unusedVariables false

/-- A value that is to be rounded. -/
def valV (ng : Bool) (mag : Nat) (exp : Int) (cut sd : Bool) : Value := .agg #[.bool ng, .int .u64 mag, .int .i64 exp, .bool cut, .bool sd]
set_option maxRecDepth 100000 in
set_option maxHeartbeats 1000000 in
theorem split_low (ng : Bool) (mag : Nat) (exp unit : Int) (cut sd : Bool) (w : World) (k : Nat) (hk : unit - exp = -(k : Int)) (hk2 : k < 20000000) (hm : mag * 2 ^ k < 18446744073709551616) :
    Calls Tryz.prog 170 #[valV ng mag exp cut sd, .int .i64 unit] w fun e w' => e = .returned (.tuple #[.int .u64 (mag * 2 ^ k : Nat), .int .i64 0]) ∧ Below w.heap.size w w' := by
  have h0 : IntKind.i64.wrap (unit - exp) = -(k : Int) := by rw [wrap_i64_eq]; omega
  unfold valV
  go_enter Tryz.func170, Tryz.ntmps170
  have hw : IntKind.u64.wrap ((mag : Int) * 2 ^ min k 64) = ((mag * 2 ^ k : Nat) : Int) := by
    rw [IntKind.wrap_u64]
    by_cases h : k ≤ 64
    · rw [show min k 64 = k by omega]
      have e : (mag : Int) * 2 ^ k = ((mag * 2 ^ k : Nat) : Int) := by push_cast; rfl
      rw [e]
      omega
    · have hz : mag = 0 := by
        rcases Nat.eq_zero_or_pos mag with h0 | h0
        · exact h0
        · have h1 : 2 ^ 64 ≤ 2 ^ k := Nat.pow_le_pow_right (by decide) (by omega)
          have h2 : 1 * 2 ^ k ≤ mag * 2 ^ k := Nat.mul_le_mul_right _ h0
          have h3 : (2 : Nat) ^ 64 = 18446744073709551616 := by decide
          omega
      subst hz
      simp
  generalize ((mag * 2 ^ k : Nat) : Int) = R at hw ⊢
  go_wp2
  refine bodyPost_ret (v := .tuple #[.int .u64 R, .int .i64 0]) (by simp [results, Tryz.results170, go_sem]) rfl ⟨rfl, bel_alloc _ _⟩
theorem ret_ui {a b c d : Int} (h1 : a = c) (h2 : b = d) : Ending.returned (.tuple #[.int .u64 a, .int .i64 b]) = Ending.returned (.tuple #[.int .u64 c, .int .i64 d]) := by rw [h1, h2]
theorem rL_eq {mag k t m : Nat} {cut : Bool} (hk0 : 0 < k) (hm : mag < 18446744073709551616) (ht : mag % 2 ^ k = t) (hmid : (if k ≤ 64 then 2 ^ (k - 1) else 0) = m) : rL mag cut (k : Int) = if t = 0 ∧ cut = false then 0 else if t < m ∨ 64 < k then 1 else if t = m ∧ cut = false then 2 else 3 := by
  unfold rL
  rw [if_neg (by omega), Int.toNat_natCast, ht]
  obtain ⟨p, hp, hp0⟩ := two_half k hk0
  have hp2 : 2 ^ (k - 1) = p := by
    have : 2 ^ k = 2 * 2 ^ (k - 1) := by rw [← Nat.pow_succ', Nat.succ_eq_add_one, Nat.sub_add_cancel hk0]
    omega
  rw [hp]
  by_cases hk : k ≤ 64
  · rw [if_pos hk, hp2] at hmid
    subst hmid
    have e1 : (2 * t < 2 * p) = (t < p ∨ 64 < k) := propext ⟨fun h => .inl (by omega), fun h => by omega⟩
    have e2 : (2 * t = 2 * p ∧ cut = false) = (t = p ∧ cut = false) := propext ⟨fun h => ⟨by omega, h.2⟩, fun h => ⟨by omega, h.2⟩⟩
    simp only [e1, e2]
  · have hlt : 2 * t < 2 * p := by
      have h1 : 2 ^ 65 ≤ 2 ^ k := Nat.pow_le_pow_right (by decide) (by omega)
      have h2 : (2 : Nat) ^ 65 = 36893488147419103232 := by decide
      have h3 := Nat.mod_le mag (2 ^ k)
      omega
    rw [if_pos hlt, if_pos (show t < m ∨ 64 < k from .inr (by omega))]
set_option maxRecDepth 100000 in
set_option maxHeartbeats 1000000 in
theorem split_high (ng : Bool) (mag : Nat) (exp unit : Int) (cut sd : Bool) (w : World) (k : Nat) (hk : unit - exp = (k : Int)) (hk0 : 0 < k) (hk2 : k < 20000000) (hm : mag < 18446744073709551616) :
    Calls Tryz.prog 170 #[valV ng mag exp cut sd, .int .i64 unit] w fun e w' => e = .returned (.tuple #[.int .u64 (mag / 2 ^ k : Nat), .int .i64 (rL mag cut (k : Int))]) ∧ Below w.heap.size w w' := by
  have h0 : IntKind.i64.wrap (unit - exp) = (k : Int) := by rw [wrap_i64_eq]; omega
  unfold valV
  obtain ⟨u, hu⟩ : ∃ u, mag / 2 ^ k = u := ⟨_, rfl⟩
  obtain ⟨t, ht⟩ : ∃ t, mag % 2 ^ k = t := ⟨_, rfl⟩
  obtain ⟨m, hmid⟩ : ∃ m : Nat, (if k ≤ 64 then 2 ^ (k - 1) else 0) = m := ⟨_, rfl⟩
  have hd := Nat.div_add_mod mag (2 ^ k)
  rw [hu, ht] at hd
  have hpc : ∀ n : Nat, (2 : Int) ^ n = ((2 ^ n : Nat) : Int) := fun n => by simp
  have hbig : 64 < k → u = 0 ∧ mag / 2 ^ 64 = 0 := fun h => by
    have h1 : 2 ^ 64 ≤ 2 ^ k := Nat.pow_le_pow_right (by decide) (by omega)
    have h2 : (2 : Nat) ^ 64 = 18446744073709551616 := by decide
    exact ⟨by rw [← hu]; exact Nat.div_eq_of_lt (by omega), Nat.div_eq_of_lt (by omega)⟩
  have r1 : (mag : Int) / 2 ^ min k 64 = (u : Int) := by
    rw [hpc, ← Int.natCast_ediv]
    by_cases h : k ≤ 64
    · rw [show min k 64 = k by omega, hu]
    · obtain ⟨h1, h2⟩ := hbig (by omega)
      rw [show min k 64 = 64 by omega, h1, h2]
  have r2 : IntKind.u64.wrap ((u : Int) * 2 ^ min k 64) = (u : Int) * 2 ^ k := by
    rw [IntKind.wrap_u64]
    by_cases h : k ≤ 64
    · rw [show min k 64 = k by omega, hpc, ← Int.natCast_mul]
      have : u * 2 ^ k ≤ mag := by rw [Nat.mul_comm]; omega
      omega
    · obtain ⟨h1, _⟩ := hbig (by omega)
      rw [h1]
      simp
  have r3 : IntKind.u64.wrap ((mag : Int) - (u : Int) * 2 ^ k) = (t : Int) := by
    rw [IntKind.wrap_u64, hpc, ← Int.natCast_mul, Nat.mul_comm]
    have : t ≤ mag := by omega
    omega
  have r4 : IntKind.i64.wrap ((k : Int) - 1) = ((k - 1 : Nat) : Int) := by rw [wrap_i64_eq]; omega
  have r5 : IntKind.u64.wrap ((2 : Int) ^ min (k - 1) 64) = (m : Int) := by
    rw [IntKind.wrap_u64, ← hmid]
    by_cases h : k ≤ 64
    · rw [if_pos h, show min (k - 1) 64 = k - 1 by omega, hpc]
      have h1 : 2 ^ (k - 1) ≤ 2 ^ 63 := Nat.pow_le_pow_right (by decide) (by omega)
      have h2 : (2 : Nat) ^ 63 = 9223372036854775808 := by decide
      rw [h2] at h1
      generalize 2 ^ (k - 1) = p at h1 ⊢
      omega
    · rw [if_neg h, show min (k - 1) 64 = 64 by omega]
      decide
  have HRL : Hid (rL mag cut (k : Int) = if t = 0 ∧ cut = false then 0 else if t < m ∨ 64 < k then 1 else if t = m ∧ cut = false then 2 else 3) := rL_eq hk0 hm ht hmid
  rw [hu]
  clear hd hpc hbig hmid ht hu
  have HW : Hid (IntKind.i64.wrap (unit - exp) = (k : Int)) := h0
  have g0 := heap_alloc_new w (.cells #[.bool ng, .int .u64 mag, .int .i64 exp, .bool cut, .bool sd] 170)
  have k1 := blkC g0 1 rfl
  go_enter Tryz.func170, Tryz.ntmps170
  go_wp2
  go_region_held3 (fun W => W.cell? ⟨w.heap.size, 1, none⟩ = some (.int .u64 mag))
    (first | assumption | exact k1)
    (fail)
  all_goals go_wp2
  all_goals go_ret2
  all_goals exact ⟨ret_ui rfl (by rw [HRL.out]; clear HRL; cases cut <;> simp at * <;> (repeat' split) <;> omega), by first | exact (bel_alloc _ _).drew | exact bel_alloc _ _⟩
theorem split_any (ng : Bool) (mag : Nat) (exp unit : Int) (cut sd : Bool) (w : World) (hm : mag < 18446744073709551616) (hu : -5000000 ≤ unit ∧ unit ≤ 5000000) (he : -5000000 ≤ exp ∧ exp ≤ 5000000) (hs : unit - exp ≤ 0 → rU mag (unit - exp) < 18446744073709551616) :
    Calls Tryz.prog 170 #[valV ng mag exp cut sd, .int .i64 unit] w fun e w' => e = .returned (.tuple #[.int .u64 (rU mag (unit - exp) : Nat), .int .i64 (rL mag cut (unit - exp))]) ∧ Below w.heap.size w w' := by
  by_cases h : unit - exp ≤ 0
  · have := hs h
    unfold rU rL at *
    rw [if_pos h] at *
    rw [if_pos h]
    exact split_low ng mag exp unit cut sd w (-(unit - exp)).toNat (by omega) (by omega) this
  · have e : unit - exp = ((unit - exp).toNat : Int) := by omega
    have e1 : rU mag (unit - exp) = mag / 2 ^ (unit - exp).toNat := by unfold rU; rw [if_neg h]
    rw [e1, e]
    exact split_high ng mag exp unit cut sd w (unit - exp).toNat e (by omega) (by omega) hm
end Go.Proofs.YtcpjdgfnblkfpaaGreatDoor
