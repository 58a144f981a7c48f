/-
  Parts of the proof, one behind another.
-/
import Derived.Test.YtkieaijmjpckdabDoorPart6
import Derived.Lib.Strings
import Derived.Lib.Slices
import Derived.Lib.Small
import Derived.Lib.Walk
import Derived.Lib.BitFns
import Derived.Lib.TrailingZeros
import Derived.Laws.Bits64b
import Derived.Test.YtkieaijmjpckdabDoorPart1
import Derived.Test.YtkieaijmjpckdabDoorPart3
import Derived.Test.YtkieaijmjpckdabDoorPart4
import Derived.Test.YtkieaijmjpckdabDoorPart2
import Derived.Test.YtkieaijmjpckdabDoorPart5
/-
  The library's math/bits.TrailingZeros64 and Len64, each by a contract: the number of b_trailing zero bits, the number of bits, of every uint64.
-/
namespace Go.Proofs.YtkieaijmjpckdabDoor
open Go Go.RowKit Go.Proofs.YtkieaijmjpckdabDoor.M
set_option linter.unusedSimpArgs false
set_option linter.unusedVariables false

theorem ret_ib {a a' : Int} {c c' : Bool} (h : a = a') (l : c = c') : Ending.returned (.tuple #[.int .i64 a, .bool c]) = .returned (.tuple #[.int .i64 a', .bool c']) := by rw [h, l]

/-- The library's table of b_trailing zeros. -/
def b_Tab (w : World) : Prop := ∀ j, j < 64 → w.cell? ⟨2, j, none⟩ = some (.int .u8 ((Lib.deBruijn64tab.getD j 0 : Nat) : Int))
theorem b_Tab.grown {w w' : World} (h : b_Tab w) (g : Gr w w') : b_Tab w' := fun j hj => gCell g (h j hj)

theorem b_tz_key (x a : Nat) (hx : x < 18446744073709551616) (hx0 : x ≠ 0) (hlow : x &&& (18446744073709551616 - x) = a) :
    IntKind.u64.wrap (bits .and .u64 (x : Int) (IntKind.u64.wrap (-(x : Int))) * 285870213051353865) / 288230376151711744 = ((a * 285870213051353865 % 18446744073709551616 / 288230376151711744 : Nat) : Int) := by
  have e1 : IntKind.u64.wrap (-(x : Int)) = ((18446744073709551616 - x : Nat) : Int) := by rw [IntKind.wrap_u64]; omega
  rw [e1, bits_and_u64_nat x _ hx (by omega), hlow, IntKind.wrap_u64]
  omega
set_option maxHeartbeats 1000000 in
theorem b_tz_core (x k idx : Nat) (w : World) (hx0 : ((x : Int) == 0) = false)
    (key : IntKind.u64.wrap (bits .and .u64 (x : Int) (IntKind.u64.wrap (-(x : Int))) * 285870213051353865) / 288230376151711744 = (idx : Int))
    (hi : idx < 64) (hk : k < 64) (hcell : w.cell? ⟨2, idx, none⟩ = some (.int .u8 k)) :
    Calls Tryd.prog 57 #[.int .u64 x] w fun e w' => e = .returned (.int .i64 k) ∧ w' = w := by
  go_enter Tryd.func57, Tryd.ntmps57
  go_wp2_with (simp only [key])
  go_ret
  exact ⟨rfl, rfl⟩
theorem b_trailing (x : Nat) (hx : x < 18446744073709551616) (h0 : x ≠ 0) (w : World) (hT : b_Tab w) :
    Calls Tryd.prog 57 #[.int .u64 x] w fun e w' => e = .returned (.int .i64 (Lib.ctz 64 x)) ∧ w' = w := by
  obtain ⟨hlow, hk⟩ := Lib.lowest_bit 64 x h0 hx
  obtain ⟨hi, htab⟩ := Lib.deBruijn64_at _ hk
  have hcell := hT _ hi
  rw [htab] at hcell
  exact b_tz_core x _ _ w (by simp; omega) (b_tz_key x _ hx h0 hlow) hi hk hcell
theorem b_len_close (x q : Int) (s : Nat) (h : q.toNat < Lib.len8tab.size) (hq0 : 0 ≤ q) (hq : q ≤ 255) (hs : s ≤ 56) (hb : Lib.bitLen x.toNat = s + Lib.bitLen q.toNat) :
    wrap64 ((s : Int) + wrap64 ((Lib.len8tab[q.toNat]'h).toNat : Int)) = (Lib.bitLen x.toNat : Int) := by
  have e := Lib.len8_of q hq0 hq
  have l := Lib.bitLen_le8' q hq0 hq
  unfold Lib.len8 at e
  rw [getElem?_pos Lib.len8tab q.toNat h] at e
  simp only [Option.getD_some] at e
  rw [e, hb]
  unfold wrap64
  omega
theorem b_len_close0 (x : Int) (h : x.toNat < Lib.len8tab.size) (hq0 : 0 ≤ x) (hq : x ≤ 255) :
    wrap64 (wrap64 ((Lib.len8tab[x.toNat]'h).toNat : Int)) = (Lib.bitLen x.toNat : Int) := by
  have := b_len_close x x 0 h hq0 hq (by omega) (by omega)
  simpa using this
theorem b_len_q (x q : Int) (s : Nat) (h0 : 0 ≤ x) (h1 : x ≤ 18446744073709551615) (hx : ((2 ^ s : Nat) : Int) ≤ x) (e : q = x / ((2 ^ s : Nat) : Int)) : Lib.bitLen x.toNat = s + Lib.bitLen q.toNat := by
  rw [Lib.bitLen_shift s x.toNat (by omega) (by omega), e]
  congr 2
  obtain ⟨n, rfl⟩ := Int.eq_ofNat_of_zero_le h0
  rw [← Int.natCast_ediv, Int.toNat_natCast, Int.toNat_natCast]
set_option maxHeartbeats 4000000 in
set_option maxRecDepth 100000 in
theorem b_len64 (x : Int) (w : World) (h0 : 0 ≤ x) (h1 : x ≤ 18446744073709551615) :
    Calls Tryd.prog 62 #[.int .u64 x] w fun e w' => e = .returned (.int .i64 (Lib.bitLen x.toNat)) ∧ w' = w := by
  have hs : Lib.len8tab.size = 256 := by decide +kernel
  go_enter Tryd.func62, Tryd.ntmps62
  go_wp2
  all_goals go_ret
  · exact ⟨b_ret_int (b_len_close x _ 56 _ (by omega) (by omega) (by omega) (b_len_q x _ 56 h0 h1 (by omega) (by omega))), rfl⟩
  · exact ⟨b_ret_int (b_len_close x _ 48 _ (by omega) (by omega) (by omega) (b_len_q x _ 48 h0 h1 (by omega) (by omega))), rfl⟩
  · exact ⟨b_ret_int (b_len_close x _ 40 _ (by omega) (by omega) (by omega) (b_len_q x _ 40 h0 h1 (by omega) (by omega))), rfl⟩
  · exact ⟨b_ret_int (b_len_close x _ 32 _ (by omega) (by omega) (by omega) (b_len_q x _ 32 h0 h1 (by omega) (by omega))), rfl⟩
  · exact ⟨b_ret_int (b_len_close x _ 24 _ (by omega) (by omega) (by omega) (b_len_q x _ 24 h0 h1 (by omega) (by omega))), rfl⟩
  · exact ⟨b_ret_int (b_len_close x _ 16 _ (by omega) (by omega) (by omega) (b_len_q x _ 16 h0 h1 (by omega) (by omega))), rfl⟩
  · exact ⟨b_ret_int (b_len_close x _ 8 _ (by omega) (by omega) (by omega) (b_len_q x _ 8 h0 h1 (by omega) (by omega))), rfl⟩
  · exact ⟨b_ret_int (b_len_close0 x _ (by omega) (by omega)), rfl⟩
end Go.Proofs.YtkieaijmjpckdabDoor

/-
  Plain mathematics of Join: the odd part of a whole number, its length, how far it is shifted; the document's two loops come to the same. No Go text in sight.
-/
namespace Go.Proofs.YtkieaijmjpckdabDoor.M
open Go
set_option linter.unusedSimpArgs false
set_option linter.unusedVariables false

/-- how often 2 divides; the odd part -/
def jz (mag : Int) : Nat := Lib.ctz 64 mag.toNat
def jo (mag : Int) : Int := mag / 2 ^ jz mag
def jl (mag : Int) : Int := Lib.bitLen (jo mag).toNat
/-- room above the odd part; the shift; the exponent above the least one -/
def jsp (fr mag : Int) : Int := fr + 1 - jl mag
def jsh (fr least mag exp : Int) : Int := min (jsp fr mag) (exp + jz mag - least)
def jab (fr least mag exp : Int) : Int := exp + jz mag - jsh fr least mag exp - least
def jgood (fr top least mag exp : Int) : Bool := decide (0 ≤ jsp fr mag) && (decide (least ≤ exp + jz mag) && decide (jab fr least mag exp ≤ top - 2))
def jk (fr top least mag exp : Int) : Bool := if mag < 0 then false else if mag = 0 then true else jgood fr top least mag exp
def jv (fr top least mag exp : Int) : Int := if mag ≤ 0 then 0 else if jgood fr top least mag exp then jab fr least mag exp * 2 ^ fr.toNat + jo mag * 2 ^ (jsh fr least mag exp).toNat else 0

theorem bitLen_spec (n : Nat) (h : n < 2 ^ 64) (h0 : n ≠ 0) : 2 ^ (Lib.bitLen n - 1) ≤ n ∧ n < 2 ^ Lib.bitLen n ∧ 1 ≤ Lib.bitLen n ∧ Lib.bitLen n ≤ 64 := by
  have hl : Lib.bitLen n ≤ 64 := Lib.bitLen_le n 64 (by omega) h
  -- by halving
  have main : ∀ f n : Nat, n < 2 ^ f → f ≤ 64 → n ≠ 0 → 2 ^ (Lib.bitLen n - 1) ≤ n ∧ n < 2 ^ Lib.bitLen n ∧ 1 ≤ Lib.bitLen n := by
    intro f
    induction f with
    | zero => intro n h _ h0; simp at h; omega
    | succ f ih =>
      intro n h hf h0
      have h64 : n < 2 ^ 64 := Nat.lt_of_lt_of_le h (Nat.pow_le_pow_right (by decide) hf)
      have e := Lib.bitLen_half n h0 h64
      by_cases h2 : n / 2 = 0
      · have h1 : n = 1 := by omega
        subst h1
        have : Lib.bitLen 1 = 1 := by decide +kernel
        rw [this]; decide
      · obtain ⟨a, b, c⟩ := ih (n / 2) (by rw [Nat.pow_succ] at h; omega) (by omega) h2
        obtain ⟨m, hm⟩ : ∃ m, Lib.bitLen (n / 2) = m + 1 := ⟨Lib.bitLen (n / 2) - 1, by omega⟩
        rw [e, hm]
        rw [hm] at a b
        simp only [Nat.add_sub_cancel] at a
        refine ⟨?_, ?_, by omega⟩
        · rw [show 1 + (m + 1) - 1 = m + 1 by omega, Nat.pow_succ]; omega
        · rw [show 1 + (m + 1) = m + 1 + 1 by omega, Nat.pow_succ]; omega
  obtain ⟨a, b, c⟩ := main 64 n h (by omega) h0
  exact ⟨a, b, c, hl⟩
/-- a length is known by the two powers around it -/
theorem bitLen_lt (n k : Nat) (h : n < 2 ^ 64) (h0 : n ≠ 0) : n < 2 ^ k ↔ Lib.bitLen n ≤ k := by
  obtain ⟨a, b, c, d⟩ := bitLen_spec n h h0
  constructor
  · intro hk
    apply Nat.le_of_not_lt
    intro hlt
    have : 2 ^ k ≤ 2 ^ (Lib.bitLen n - 1) := Nat.pow_le_pow_right (by decide) (by omega)
    omega
  · intro hk
    exact Nat.lt_of_lt_of_le b (Nat.pow_le_pow_right (by decide) hk)
theorem jz_spec {mag : Int} (h0 : 0 < mag) (h : mag < 9223372036854775808) : ∃ m : Nat, mag = 2 ^ jz mag * (2 * m + 1) ∧ jz mag < 63 ∧ jo mag = 2 * m + 1 := by
  unfold jo jz
  obtain ⟨n, rfl⟩ := Int.eq_ofNat_of_zero_le (Int.le_of_lt h0)
  have hn : n ≠ 0 := by omega
  simp only [Int.toNat_natCast]
  obtain ⟨m, hm, hk⟩ := Lib.ctzFrom_spec 64 n (by omega) (by omega)
  have e : Lib.ctz 64 n = Lib.ctzFrom 64 n := by simp [Lib.ctz, hn]
  rw [e]
  have hp : 0 < 2 ^ Lib.ctzFrom 64 n := Nat.two_pow_pos _
  have hz : Lib.ctzFrom 64 n < 63 := by
    apply Nat.lt_of_not_le
    intro hle
    have : 2 ^ 63 ≤ 2 ^ Lib.ctzFrom 64 n := Nat.pow_le_pow_right (by decide) hle
    have : 2 ^ Lib.ctzFrom 64 n ≤ n := by
      rw (occs := .pos [2]) [hm]
      exact Nat.le_mul_of_pos_right _ (by omega)
    omega
  have hm' : (n : Int) = 2 ^ Lib.ctzFrom 64 n * (2 * (m : Int) + 1) := by
    have : ((2 ^ Lib.ctzFrom 64 n * (2 * m + 1) : Nat) : Int) = 2 ^ Lib.ctzFrom 64 n * (2 * (m : Int) + 1) := by
      rw [Int.natCast_mul]; simp
    rw [← this, ← hm]
  refine ⟨m, hm', hz, ?_⟩
  have hpi : (0 : Int) < 2 ^ Lib.ctzFrom 64 n := Int.pow_pos (by decide)
  rw (occs := .pos [1]) [hm']
  exact Int.mul_ediv_cancel_left _ (by omega)
theorem jo_le {mag : Int} (h0 : 0 < mag) (h : mag < 9223372036854775808) : 1 ≤ jo mag ∧ jo mag ≤ mag := by
  obtain ⟨m, a, b, c⟩ := jz_spec h0 h
  have hp : (0 : Int) < 2 ^ jz mag := Int.pow_pos (by decide)
  have : (2 * (m : Int) + 1) * 1 ≤ (2 * (m : Int) + 1) * 2 ^ jz mag := Int.mul_le_mul_of_nonneg_left (by omega) (by omega)
  rw [Int.mul_comm _ (2 ^ jz mag), ← a] at this
  omega
theorem jl_le {mag : Int} (h0 : 0 < mag) (h : mag < 9223372036854775808) : 1 ≤ jl mag ∧ jl mag ≤ 63 := by
  obtain ⟨a, b⟩ := jo_le h0 h
  have s := bitLen_spec (jo mag).toNat (by omega) (by omega)
  unfold jl
  have := (bitLen_lt (jo mag).toNat 63 (by omega) (by omega)).1 (by omega)
  omega
/-- what the odd part comes to, shifted -/
theorem jshift_lt {fr mag : Int} (h0 : 0 < mag) (h : mag < 9223372036854775808) (hf : 0 ≤ fr) (s : Nat) (hs : (s : Int) ≤ jsp fr mag) : 1 ≤ jo mag * 2 ^ s ∧ jo mag * 2 ^ s < 2 ^ (fr.toNat + 1) := by
  obtain ⟨a, b⟩ := jo_le h0 h
  have sp := bitLen_spec (jo mag).toNat (by omega) (by omega)
  unfold jsp jl at hs
  have hp : (0 : Int) < 2 ^ s := Int.pow_pos (by decide)
  constructor
  · have : (1 : Int) * 1 ≤ jo mag * 2 ^ s := Int.mul_le_mul a (by omega) (by omega) (by omega)
    omega
  · have h1 : (jo mag).toNat * 2 ^ s < 2 ^ (Lib.bitLen (jo mag).toNat) * 2 ^ s := Nat.mul_lt_mul_of_pos_right sp.2.1 (Nat.two_pow_pos _)
    rw [← Nat.pow_add] at h1
    have h2 : 2 ^ (Lib.bitLen (jo mag).toNat + s) ≤ 2 ^ (fr.toNat + 1) := Nat.pow_le_pow_right (by decide) (by omega)
    have h3 : (jo mag).toNat * 2 ^ s < 2 ^ (fr.toNat + 1) := Nat.lt_of_lt_of_le h1 h2
    have h4 : (((jo mag).toNat * 2 ^ s : Nat) : Int) < ((2 ^ (fr.toNat + 1) : Nat) : Int) := Int.ofNat_lt.2 h3
    rw [Int.natCast_mul, Int.toNat_of_nonneg (by omega)] at h4
    simpa using h4
theorem jgood_far {mag exp : Int} (h0 : 0 < mag) (h : mag < 9223372036854775808) (hf : 1025 < exp) : jgood 52 2047 (-1074) mag exp = false := by
  have := jl_le h0 h
  unfold jgood jab jsh jsp
  simp; intro _ _; omega
theorem jgood_far32 {mag exp : Int} (h0 : 0 < mag) (h : mag < 9223372036854775808) (hf : 129 < exp) : jgood 23 255 (-149) mag exp = false := by
  have := jl_le h0 h
  unfold jgood jab jsh jsp
  simp; intro _ _; omega
theorem jv_le {mag exp : Int} (hm : rng mag) : 0 ≤ jv 52 2047 (-1074) mag exp ∧ jv 52 2047 (-1074) mag exp < 9218868437227405312 := by
  unfold rng at hm
  unfold jv
  by_cases h0 : mag ≤ 0
  · rw [if_pos h0]; omega
  · rw [if_neg h0]
    by_cases hk : jgood 52 2047 (-1074) mag exp = true
    · rw [if_pos hk]
      unfold jgood at hk
      simp only [Bool.and_eq_true, decide_eq_true_eq] at hk
      have hl := jl_le (mag := mag) (by omega) hm.2
      have hs : 0 ≤ jsh 52 (-1074) mag exp ∧ jsh 52 (-1074) mag exp ≤ jsp 52 mag := by unfold jsh; omega
      have hb := jshift_lt (fr := 52) (mag := mag) (by omega) hm.2 (by omega) (jsh 52 (-1074) mag exp).toNat (by omega)
      have hb2 : jo mag * 2 ^ (jsh 52 (-1074) mag exp).toNat < 9007199254740992 := hb.2
      have ha : 0 ≤ jab 52 (-1074) mag exp := by unfold jab jsh; omega
      -- a normal number's highest bit is counted into the field
      have e : (2 : Int) ^ (52 : Int).toNat = 4503599627370496 := by decide
      rw [e]
      omega
    · rw [if_neg hk]; omega
theorem jv_le32 {mag exp : Int} (hm : rng mag) : 0 ≤ jv 23 255 (-149) mag exp ∧ jv 23 255 (-149) mag exp < 2139095040 := by
  unfold rng at hm
  unfold jv
  by_cases h0 : mag ≤ 0
  · rw [if_pos h0]; omega
  · rw [if_neg h0]
    by_cases hk : jgood 23 255 (-149) mag exp = true
    · rw [if_pos hk]
      unfold jgood at hk
      simp only [Bool.and_eq_true, decide_eq_true_eq] at hk
      have hl := jl_le (mag := mag) (by omega) hm.2
      have hs : 0 ≤ jsh 23 (-149) mag exp ∧ jsh 23 (-149) mag exp ≤ jsp 23 mag := by unfold jsh; omega
      have hb := jshift_lt (fr := 23) (mag := mag) (by omega) hm.2 (by omega) (jsh 23 (-149) mag exp).toNat (by omega)
      have hb2 : jo mag * 2 ^ (jsh 23 (-149) mag exp).toNat < 16777216 := hb.2
      have ha : 0 ≤ jab 23 (-149) mag exp := by unfold jab jsh; omega
      have e : (2 : Int) ^ (23 : Int).toNat = 8388608 := by decide
      rw [e]
      omega
    · rw [if_neg hk]; omega
/-- halving: how the document's first loop goes -/
theorem halved {mag : Int} (h0 : 0 < mag) (h : mag < 9223372036854775808) (k : Nat) (hk : k < jz mag) : mag / 2 ^ k % 2 = 0 ∧ mag / 2 ^ k / 2 = mag / 2 ^ (k + 1) ∧ 0 < mag / 2 ^ k ∧ mag / 2 ^ k < 9223372036854775808 := by
  obtain ⟨m, a, b, c⟩ := jz_spec h0 h
  have hp : (0 : Int) < 2 ^ k := Int.pow_pos (by decide)
  have e1 : mag / 2 ^ k = 2 ^ (jz mag - k) * (2 * m + 1) := by
    rw (occs := .pos [1]) [a]
    rw [show jz mag = k + (jz mag - k) by omega, Int.pow_add, Int.mul_assoc]
    rw [show k + (jz mag - k) - k = jz mag - k by omega]
    exact Int.mul_ediv_cancel_left _ (by omega)
  have e2 : (2 : Int) ^ (jz mag - k) = 2 * 2 ^ (jz mag - k - 1) := by
    rw [show jz mag - k = (jz mag - k - 1) + 1 by omega, Int.pow_succ, Int.mul_comm]
    simp
  have hq : (0 : Int) < 2 ^ (jz mag - k) := Int.pow_pos (by decide)
  refine ⟨?_, ?_, ?_, ?_⟩
  · rw [e1, e2, Int.mul_assoc]; exact Int.mul_emod_right _ _
  · rw [Int.pow_succ, Int.ediv_ediv_of_nonneg (by omega)]
  · rw [e1]; exact Int.mul_pos hq (by omega)
  · have : mag / 2 ^ k ≤ mag := Int.ediv_le_self _ (by omega)
    omega
theorem halved_end {mag : Int} (h0 : 0 < mag) (h : mag < 9223372036854775808) : jo mag % 2 = 1 := by
  obtain ⟨m, a, b, c⟩ := jz_spec h0 h
  omega
/-- doubling: how the document's second loop goes -/
theorem doubled {fr mag : Int} (h0 : 0 < mag) (h : mag < 9223372036854775808) (hf : 0 ≤ fr) (j : Nat) : jo mag * 2 ^ j < 2 ^ fr.toNat ↔ (j : Int) < jsp fr mag := by
  obtain ⟨a, b⟩ := jo_le h0 h
  have sp := bitLen_spec (jo mag).toNat (by omega) (by omega)
  unfold jsp jl
  have hc : ((((jo mag).toNat * 2 ^ j : Nat)) : Int) = jo mag * 2 ^ j := by
    rw [Int.natCast_mul, Int.toNat_of_nonneg (by omega)]; simp
  have hd : ((2 ^ fr.toNat : Nat) : Int) = 2 ^ fr.toNat := by simp
  rw [← hc, ← hd, Int.ofNat_lt]
  constructor
  · intro hlt
    have h1 : 2 ^ (Lib.bitLen (jo mag).toNat - 1) * 2 ^ j ≤ (jo mag).toNat * 2 ^ j := Nat.mul_le_mul_right _ sp.1
    rw [← Nat.pow_add] at h1
    have h2 : 2 ^ (Lib.bitLen (jo mag).toNat - 1 + j) < 2 ^ fr.toNat := by omega
    have := (Nat.pow_lt_pow_iff_right (by decide : 1 < 2)).1 h2
    omega
  · intro hlt
    have h1 : (jo mag).toNat * 2 ^ j < 2 ^ (Lib.bitLen (jo mag).toNat) * 2 ^ j := Nat.mul_lt_mul_of_pos_right sp.2.1 (Nat.two_pow_pos _)
    rw [← Nat.pow_add] at h1
    exact Nat.lt_of_lt_of_le h1 (Nat.pow_le_pow_right (by decide) (by omega))
/-- what the document's shifted answers -/
def sk (fr low mag exp : Int) : Bool := decide (0 ≤ jsp fr mag) && decide (low ≤ exp + jz mag)
def sm (fr low mag exp : Int) : Int := if sk fr low mag exp then jo mag * 2 ^ (jsh fr low mag exp).toNat else 0
def se (fr low mag exp : Int) : Int := if sk fr low mag exp then exp + jz mag - jsh fr low mag exp else 0
/-- Join's pattern, with its sign -/
def jp (neg : Bool) (mag exp : Int) : Int := if jk 52 2047 (-1074) mag exp && neg then jv 52 2047 (-1074) mag exp - 9223372036854775808 else jv 52 2047 (-1074) mag exp
def jp32 (neg : Bool) (mag exp : Int) : Int := if jk 23 255 (-149) mag exp && neg then jv 23 255 (-149) mag exp + 2147483648 else jv 23 255 (-149) mag exp
theorem jgood_near {mag exp : Int} (h0 : 0 < mag) (h : mag < 9223372036854775808) (hf : exp < -2000) : jgood 52 2047 (-1074) mag exp = false := by
  obtain ⟨_, _, a, _⟩ := jz_spec h0 h
  unfold jgood; simp; intro _ _; omega
theorem jgood_near32 {mag exp : Int} (h0 : 0 < mag) (h : mag < 9223372036854775808) (hf : exp < -2000) : jgood 23 255 (-149) mag exp = false := by
  obtain ⟨_, _, a, _⟩ := jz_spec h0 h
  unfold jgood; simp; intro _ _; omega
theorem jgood_sk (mag exp : Int) : jgood 52 2047 (-1074) mag exp = (sk 52 (-1074) mag exp && decide (se 52 (-1074) mag exp ≤ 971)) := by
  unfold jgood se jab
  by_cases h : sk 52 (-1074) mag exp = true
  · rw [if_pos h, h]
    unfold sk at h
    simp only [Bool.and_eq_true, decide_eq_true_eq] at h
    simp only [h.1, h.2, decide_true, Bool.true_and]
    congr 1; apply propext; omega
  · have h' : sk 52 (-1074) mag exp = false := by simpa using h
    rw [h']
    unfold sk at h'
    simp only [Bool.false_and]
    simp only [Bool.and_eq_false_iff, decide_eq_false_iff_not] at h' ⊢
    omega
/-- the pattern, off what shifted answers -/
theorem jv_sm {mag exp : Int} (h0 : 0 < mag) (h : mag < 9223372036854775808) (hk : sk 52 (-1074) mag exp = true) (he : se 52 (-1074) mag exp ≤ 971) :
    1 ≤ sm 52 (-1074) mag exp ∧ sm 52 (-1074) mag exp < 9007199254740992 ∧ -1074 ≤ se 52 (-1074) mag exp ∧
    jv 52 2047 (-1074) mag exp = (if sm 52 (-1074) mag exp < 4503599627370496 then sm 52 (-1074) mag exp else (se 52 (-1074) mag exp + 1075) * 4503599627370496 + sm 52 (-1074) mag exp - 4503599627370496) := by
  have hg : jgood 52 2047 (-1074) mag exp = true := by rw [jgood_sk, hk]; simpa using he
  have hk' := hk
  unfold sk at hk'
  simp only [Bool.and_eq_true, decide_eq_true_eq] at hk'
  have hs : 0 ≤ jsh 52 (-1074) mag exp ∧ jsh 52 (-1074) mag exp ≤ jsp 52 mag ∧ jsh 52 (-1074) mag exp ≤ exp + jz mag + 1074 := by unfold jsh; omega
  have hb := jshift_lt (fr := 52) h0 h (by omega) (jsh 52 (-1074) mag exp).toNat (by omega)
  have hb2 : jo mag * 2 ^ (jsh 52 (-1074) mag exp).toNat < 9007199254740992 := hb.2
  have hd := doubled (fr := 52) h0 h (by omega) (jsh 52 (-1074) mag exp).toNat
  rw [show (2 : Int) ^ (52 : Int).toNat = 4503599627370496 by decide] at hd
  have es : sm 52 (-1074) mag exp = jo mag * 2 ^ (jsh 52 (-1074) mag exp).toNat := by unfold sm; rw [if_pos hk]
  have ee : se 52 (-1074) mag exp = exp + jz mag - jsh 52 (-1074) mag exp := by unfold se; rw [if_pos hk]
  rw [es, ee]
  refine ⟨hb.1, hb2, by omega, ?_⟩
  unfold jv jab
  rw [if_neg (by omega), if_pos hg, show (2 : Int) ^ (52 : Int).toNat = 4503599627370496 by decide]
  split
  · rename_i hlt
    have := hd.1 hlt
    have : jsh 52 (-1074) mag exp = exp + jz mag + 1074 := by unfold jsh at *; omega
    omega
  · omega
theorem jgood_sk32 (mag exp : Int) : jgood 23 255 (-149) mag exp = (sk 23 (-149) mag exp && decide (se 23 (-149) mag exp ≤ 104)) := by
  unfold jgood se jab
  by_cases h : sk 23 (-149) mag exp = true
  · rw [if_pos h, h]
    unfold sk at h
    simp only [Bool.and_eq_true, decide_eq_true_eq] at h
    simp only [h.1, h.2, decide_true, Bool.true_and]
    congr 1; apply propext; omega
  · have h' : sk 23 (-149) mag exp = false := by simpa using h
    rw [h']
    unfold sk at h'
    simp only [Bool.false_and]
    simp only [Bool.and_eq_false_iff, decide_eq_false_iff_not] at h' ⊢
    omega
/-- the pattern, off what shifted answers -/
theorem jv_sm32 {mag exp : Int} (h0 : 0 < mag) (h : mag < 9223372036854775808) (hk : sk 23 (-149) mag exp = true) (he : se 23 (-149) mag exp ≤ 104) :
    1 ≤ sm 23 (-149) mag exp ∧ sm 23 (-149) mag exp < 16777216 ∧ -149 ≤ se 23 (-149) mag exp ∧
    jv 23 255 (-149) mag exp = (if sm 23 (-149) mag exp < 8388608 then sm 23 (-149) mag exp else (se 23 (-149) mag exp + 150) * 8388608 + sm 23 (-149) mag exp - 8388608) := by
  have hg : jgood 23 255 (-149) mag exp = true := by rw [jgood_sk32, hk]; simpa using he
  have hk' := hk
  unfold sk at hk'
  simp only [Bool.and_eq_true, decide_eq_true_eq] at hk'
  have hs : 0 ≤ jsh 23 (-149) mag exp ∧ jsh 23 (-149) mag exp ≤ jsp 23 mag ∧ jsh 23 (-149) mag exp ≤ exp + jz mag + 149 := by unfold jsh; omega
  have hb := jshift_lt (fr := 23) h0 h (by omega) (jsh 23 (-149) mag exp).toNat (by omega)
  have hb2 : jo mag * 2 ^ (jsh 23 (-149) mag exp).toNat < 16777216 := hb.2
  have hd := doubled (fr := 23) h0 h (by omega) (jsh 23 (-149) mag exp).toNat
  rw [show (2 : Int) ^ (23 : Int).toNat = 8388608 by decide] at hd
  have es : sm 23 (-149) mag exp = jo mag * 2 ^ (jsh 23 (-149) mag exp).toNat := by unfold sm; rw [if_pos hk]
  have ee : se 23 (-149) mag exp = exp + jz mag - jsh 23 (-149) mag exp := by unfold se; rw [if_pos hk]
  rw [es, ee]
  refine ⟨hb.1, hb2, by omega, ?_⟩
  unfold jv jab
  rw [if_neg (by omega), if_pos hg, show (2 : Int) ^ (23 : Int).toNat = 8388608 by decide]
  split
  · rename_i hlt
    have := hd.1 hlt
    have : jsh 23 (-149) mag exp = exp + jz mag + 149 := by unfold jsh at *; omega
    omega
  · omega
end Go.Proofs.YtkieaijmjpckdabDoor.M

/-
  Package bits' Join: the method join of both layouts, by contracts.
-/
namespace Go.Proofs.YtkieaijmjpckdabDoor
open Go Go.RowKit Go.Proofs.YtkieaijmjpckdabDoor.M
set_option linter.unusedSimpArgs false
set_option linter.unusedVariables false

theorem keepIt {p : Prop} (h : p) : Hid p := h
theorem trailingI (mag : Int) (h0 : 0 < mag) (h : mag < 9223372036854775808) (w : World) (hT : b_Tab w) :
    Calls Tryd.prog 57 #[.int .u64 mag] w fun e w' => e = .returned (.int .i64 (jz mag)) ∧ w' = w := by
  obtain ⟨n, rfl⟩ := Int.eq_ofNat_of_zero_le (Int.le_of_lt h0)
  exact b_trailing n (by omega) (by omega) w hT
theorem len64J (mag : Int) (w : World) (h0 : 1 ≤ jo mag) (h1 : jo mag ≤ mag) (h : mag < 9223372036854775808) :
    Calls Tryd.prog 62 #[.int .u64 (jo mag)] w fun e w' => e = .returned (.int .i64 (jl mag)) ∧ w' = w :=
  b_len64 (jo mag) w (by omega) (by omega)
end Go.Proofs.YtkieaijmjpckdabDoor

/-
  The document's own answers (plumbref2): Valid, trim, Two, Answer, Cmp, Add, Sub, by contracts over the same values.
-/
namespace Go.Proofs.YtkieaijmjpckdabDoor
open Go Go.RowKit Go.Proofs.YtkieaijmjpckdabDoor.M
set_option linter.unusedSimpArgs false
set_option linter.unusedVariables false

theorem top_of {d : Nat → Int} {t : Nat} (hd : Dig d t) (h : 0 < t → P (t - 1) ≤ val d t) : Top d t := by
  by_cases h0 : t = 0
  · exact .inl h0
  · refine .inr fun e => ?_
    obtain ⟨k, rfl⟩ : ∃ k, t = k + 1 := ⟨t - 1, by omega⟩
    rw [Nat.add_sub_cancel] at e h
    have h1 := h (by omega)
    rw [val_succ, e] at h1
    have h2 := val_lt (hd.le (Nat.le_succ k))
    omega
theorem cat_upd (r : Nat → Int) (k : Nat) (x : Int) : ∀ i, i < k + 1 → cat r k (fun _ => x) i = upd r k x i := fun i hi => by
  by_cases e : i < k
  · simp [cat, e, upd_other r _ (show i ≠ k by omega)]
  · obtain rfl : i = k := by omega
    simp [cat, upd_same]
theorem dig_upd2 {r : Nat → Int} {k : Nat} {x : Int} (h : Dig r k) (hx : 0 ≤ x ∧ x < 1073741824) : Dig (upd r k x) (k + 1) := fun i hi => by
  by_cases e : i = k
  · rw [e, upd_same]; exact hx
  · rw [upd_other r x e]; exact h i (by omega)
end Go.Proofs.YtkieaijmjpckdabDoor

/-
  The document's own answers (plumbref2): fits, Answer, From, Cmp, Sub, Mul, by contracts over the same values.
-/
namespace Go.Proofs.YtkieaijmjpckdabDoor
open Go Go.RowKit Go.Proofs.YtkieaijmjpckdabDoor.M
set_option linter.unusedSimpArgs false
set_option linter.unusedVariables false

end Go.Proofs.YtkieaijmjpckdabDoor

/-
  The document's own answers (plumbref2): From, Bits, Bit, Shl, Shr, by contracts over the same values.
-/
namespace Go.Proofs.YtkieaijmjpckdabDoor
open Go Go.RowKit Go.Proofs.YtkieaijmjpckdabDoor.M
set_option linter.unusedSimpArgs false
set_option linter.unusedVariables false

theorem blen_half {x : Int} (h : 0 < x) : blen x = blen (x / 2) + 1 := by
  obtain ⟨h1, h2⟩ := blen_pos h
  have h3 := blen_lt x
  obtain ⟨k, hk⟩ : ∃ k, blen x = k + 1 := ⟨blen x - 1, by omega⟩
  rw [hk] at h2 h3 ⊢
  rw [Nat.add_sub_cancel] at h2
  rw [Int.pow_succ] at h3
  cases k with
  | zero =>
    have : x = 1 := by simp at h3 h2; omega
    subst this; decide
  | succ j =>
    rw [Int.pow_succ] at h2
    have e1 : (2 : Int) ^ j ≤ x / 2 := by omega
    have e2 : x / 2 < 2 ^ (j + 1) := by omega
    rw [blen_of e1 e2]
end Go.Proofs.YtkieaijmjpckdabDoor

/-
  Package nat: small, combine, heads (what Lehmer's way is made of), by contracts.
-/
namespace Go.Proofs.YtkieaijmjpckdabDoor
open Go Go.RowKit Go.Proofs.YtkieaijmjpckdabDoor.M
set_option linter.unusedSimpArgs false
set_option linter.unusedVariables false

theorem val_mono {d : Nat → Int} {n m : Nat} (h : Dig d n) (hm : m ≤ n) : val d m ≤ val d n := by
  have e := val_split d m (n - m)
  rw [show m + (n - m) = n by omega] at e
  have a := val_nonneg (show Dig (fun i => d (m + i)) (n - m) from fun i hi => h (m + i) (by omega))
  have := Int.mul_nonneg (Int.le_of_lt (P_pos m)) a
  omega
theorem mul_bnd {x y : Int} (hx : -1073741824 < x ∧ x < 1073741824) (hy : 0 ≤ y ∧ y < 1073741824) : -1152921504606846976 ≤ x * y ∧ x * y ≤ 1152921504606846976 := by
  have h1 : x * y ≤ 1073741824 * y := Int.mul_le_mul_of_nonneg_right (by omega) hy.1
  have h2 : -1073741824 * y ≤ x * y := Int.mul_le_mul_of_nonneg_right (by omega) hy.1
  constructor <;> omega
end Go.Proofs.YtkieaijmjpckdabDoor

/-
  Package nat's calls that take one list and a number: Int, Bit at every number; what they answer on no number and on a negative one.
-/
namespace Go.Proofs.YtkieaijmjpckdabDoor
open Go Go.RowKit Go.Proofs.YtkieaijmjpckdabDoor.M
set_option linter.unusedSimpArgs false
set_option linter.unusedVariables false

/-- A bit, at every int. -/
def bitI (A n : Int) : Bool := if n < 0 then false else bitB A n.toNat
theorem bitI_neg {A n : Int} (h : n < 0) : bitI A n = false := by simp [bitI, h]
theorem bitI_nat (A : Int) (i : Nat) : bitI A i = bitB A i := by simp [bitI]
theorem bitI_big {A n : Int} (h0 : 0 ≤ A) (h : (blen A : Int) ≤ n) : bitI A n = false := by
  unfold bitI
  split
  · rfl
  · exact bit_high h0 (by omega)
theorem blen60 {A : Int} (hA : A < P 2000) : blen A ≤ 60000 := blen_le (by rw [← P2000_two]; exact hA)
/-- The int of a number, and whether it is one. -/
def intV (A : Int) : Int := if blen A ≤ 63 then A else 0
end Go.Proofs.YtkieaijmjpckdabDoor

/-
  Package dyadic: Of, Of32, Float, by contracts.
-/
namespace Go.Proofs.YtkieaijmjpckdabDoor
open Go Go.RowKit Go.Proofs.YtkieaijmjpckdabDoor.M
set_option linter.unusedSimpArgs false
set_option linter.unusedVariables false

/-- The cells of binary64's layout. -/
structure Lay64 (w : World) : Prop where
  a0 : w.cell? ⟨0, 0, none⟩ = some (.int .i64 52)
  a1 : w.cell? ⟨0, 1, none⟩ = some (.int .i64 2047)
  a2 : w.cell? ⟨0, 2, none⟩ = some (.int .i64 (-1074))
theorem Lay64.keeps {w w' : World} (h : Lay64 w) (hb : Below w.heap.size w w') : Lay64 w' := ⟨cell_keeps h.a0 hb, cell_keeps h.a1 hb, cell_keeps h.a2 hb⟩
theorem bitsPartsA (b : Int) (w : World) (L : Lay64 w) :
    Calls Tryd.prog 46 #[.int .i64 b] w fun e w' => e = .returned (.tuple #[.bool (pneg b), .int .i64 (pmag b), .int .i64 (pexp b), .bool (pok b)]) ∧ Below w.heap.size w w' := by
  obtain ⟨a0, a1, a2⟩ := L
  by_cases h : pok b = true
  all_goals
    go_enter Tryd.func46, Tryd.ntmps46
    go_wp2_with (go_at_call 55; refine (parts64 _ _).mono ?_; rintro e w1 ⟨rfl, hg⟩)
    refine bodyPost_ret (v := .tuple #[.bool (pneg b), .int .i64 (pmag b), .int .i64 (pexp b), .bool (pok b)]) (by simp [results, Tryd.results46, go_sem, pneg, h]) rfl ⟨rfl, hg.be⟩
theorem pmag_in {b : Int} (hp : pok b = true) : 0 ≤ pmag b ∧ pmag b < 9007199254740992 ∧ -1074 ≤ pexp b ∧ pexp b ≤ 971 := by
  have hf := fld_le b
  have hr := frc_le b
  have h1 : fld b ≠ 2047 := by simpa [pok] using hp
  unfold pmag pexp
  rw [if_neg h1, if_neg h1]
  split <;> omega
theorem pmag32_in {b : Int} (hp : pok32 b = true) : 0 ≤ pmag32 b ∧ pmag32 b < 16777216 ∧ -149 ≤ pexp32 b ∧ pexp32 b ≤ 104 := by
  have hf := fld32_le b
  have hr := frc32_le b
  have h1 : fld32 b ≠ 255 := by
    intro h
    simp [pok32, h] at hp
  unfold pmag32 pexp32
  rw [if_pos hp, if_pos hp]
  split <;> omega
theorem ofNat_any (x : Int) (w : World) (h0 : 0 ≤ x) (h1 : x < 9223372036854775808) :
    Calls Tryd.prog 54 #[.int .i64 x] w fun e w' => ∃ v, e = .returned (.tuple #[v, .int .i64 0]) ∧ Ans w w' x v := by
  have HX := digits_nat x w h0 h1
  have HX' : Hid (Calls Tryd.prog 59 #[.int .i64 x] w fun e w' => ∃ v, e = .returned v ∧ Ans w w' x v) := HX
  clear HX h1
  go_enter Tryd.func54, Tryd.ntmps54
  go_wp2_with fail
  refine HX'.out.mono ?_
  rintro e w2 ⟨v, rfl, hA⟩
  go_wp2
  go_ret2
  exact ⟨_, rfl, hA⟩
theorem P2000_big2 : 9223372036854775808 < P 2000 := by
  have := P_le (show 3 ≤ 2000 by omega)
  have e : P 3 = 1237940039285380274899124224 := rfl
  omega
/-- A finite float's worth has a valid form. -/
theorem dok_small {ng : Bool} {M e : Int} (h0 : 0 ≤ M) (h1 : M < 9223372036854775808) (e0 : -1074 ≤ e) (e1 : e ≤ 971) : Dok (sg ng M * pw e) := by
  by_cases hz : M = 0
  · rw [hz, sg_zero, Int.zero_mul]; exact dok_zero
  · obtain ⟨l, hl⟩ := isLow_ex (show 0 < M by omega)
    have hy := Dy.of ng hl (show 0 < M by omega) (show -4194304 ≤ e by omega)
    obtain ⟨c1, c2, c3⟩ := isLow_odd hl (show 0 < M by omega)
    have hp := two_pos l
    have hl63 : l < 63 := by
      have h3 : (1 : Int) * 2 ^ l ≤ M / 2 ^ l * 2 ^ l := Int.mul_le_mul_of_nonneg_right (by omega) (by omega)
      rw [c3] at h3
      refine two_lt_iff ?_
      rw [show (2 : Int) ^ 63 = 9223372036854775808 by decide]
      omega
    refine hy.ok.2 ⟨?_, by omega, by omega⟩
    have : M / 2 ^ l ≤ M := Int.ediv_le_self _ h0
    have := P2000_big2
    omega
set_option maxRecDepth 100000 in
set_option maxHeartbeats 1000000 in
theorem value_yes (ng : Bool) (M e : Int) (w : World) (hT : Tab w) (h0 : 0 ≤ M) (h1 : M < 9223372036854775808) (e0 : -1074 ≤ e) (e1 : e ≤ 971) :
    Calls Tryd.prog 45 #[.bool ng, .int .i64 M, .int .i64 e, .bool true] w fun r w' => ∃ v, r = .returned (.tuple #[v, .int .i64 0]) ∧ DAns w w' (sg ng M * pw e) v := by
  have hok := dok_small (ng := ng) h0 h1 e0 e1
  go_enter Tryd.func45, Tryd.ntmps45
  go_wp2_with fail
  refine (ofNat_any M _ h0 h1).mono ?_
  rintro r w1 ⟨v, rfl, hA⟩
  obtain ⟨so, sn, sc, d, rfl, hR, hN, hv⟩ := hA.num
  have hsn : sn ≤ 100 := hA.num.len (k := 100) (by have := P_le (show 3 ≤ 100 by omega); have : P 3 = 1237940039285380274899124224 := rfl; omega)
  have hbw := bel_trans (bel_alloc w _) hA.below
  go_wp2_with fail
  refine (settle_any (V := sg ng M * pw e) hR hN.1 (by omega) (hT.keeps hbw) (by omega) (by rw [hv])).mono ?_
  rintro r w7 (⟨_, v, rfl, hD⟩ | ⟨hno, _⟩)
  · have hb7 := hD.below
    obtain ⟨ng', s', m', e', rfl, hyy, hA2⟩ := id hD
    obtain ⟨so', sn', sc', rfl⟩ := hA2.num.shape
    have q0 := ((bel_trans hA.below hb7).block w.heap.size (by rw [size1]; omega)).trans (heap_a1 _ _)
    have x0 := blkC q0 0 rfl
    have x1 := blkC q0 1 rfl
    have x2 := blkC q0 2 rfl
    have z0 := blkF q0 0
    have z1 := blkF q0 1
    have z2 := blkF q0 2
    go_wp2
    refine bodyPost_ret (v := .tuple #[.agg #[.bool ng', .slice so' sn' sc', .int .i64 e'], .int .i64 0]) (by simp [results, Tryd.results45, go_sem, x0, x1, x2]) rfl ⟨_, rfl, ?_⟩
    exact dans_res3 (g := w.heap.size) hD hbw (Nat.le_refl _) (Nat.lt_of_lt_of_le (by rw [size1]; omega) hA.below.size) _ _ _
  · exact absurd hok hno
set_option maxRecDepth 100000 in
theorem value_no (ng : Bool) (M e : Int) (w : World) :
    Calls Tryd.prog 45 #[.bool ng, .int .i64 M, .int .i64 e, .bool false] w fun r w' => r = .returned (.tuple #[zeroV, .int .i64 10]) ∧ Below w.heap.size w w' := by
  go_enter Tryd.func45, Tryd.ntmps45
  go_wp2
  refine bodyPost_ret (v := .tuple #[zeroV, .int .i64 10]) (by simp [results, Tryd.results45, go_sem, zeroV]) rfl ⟨rfl, ?_⟩
  exact bel_alloc _ _
set_option maxRecDepth 100000 in
set_option maxHeartbeats 1000000 in
theorem dof_any (b : Int) (w : World) (L : Lay64 w) (hT : Tab w) :
    Calls Tryd.prog 29 #[.int .i64 b] w fun r w' => ∃ v er, r = .returned (.tuple #[v, .int .i64 er]) ∧ Below w.heap.size w w' ∧ ((pok b = true ∧ er = 0 ∧ DAns w w' (sg (pneg b) (pmag b) * pw (pexp b)) v) ∨ (pok b = false ∧ er = 10 ∧ v = zeroV)) := by
  have hVy : pok b = true → ∀ W, Below w.heap.size w W → Calls Tryd.prog 45 #[.bool (pneg b), .int .i64 (pmag b), .int .i64 (pexp b), .bool true] W fun r w' => ∃ v, r = .returned (.tuple #[v, .int .i64 0]) ∧ DAns W w' (sg (pneg b) (pmag b) * pw (pexp b)) v := fun hp W hb => by
    have hi := pmag_in hp
    exact value_yes _ _ _ W (hT.keeps hb) (by omega) (by omega) (by omega) (by omega)
  have hP := fun W hb => bitsPartsA b W (L.keeps hb)
  generalize sg (pneg b) (pmag b) * pw (pexp b) = V at hVy ⊢
  generalize pneg b = ng at *
  generalize pmag b = mg at *
  generalize pexp b = ex at *
  clear L hT
  cases hp : pok b
  · rw [hp] at hP hVy
    go_enter Tryd.func29, Tryd.ntmps29
    go_wp2_with fail
    refine (hP _ (bel_alloc _ _)).mono ?_
    rintro r w1 ⟨rfl, hb1⟩
    go_wp2_with fail
    refine (value_no _ _ _ _).mono ?_
    unfold zeroV
    rintro r w2 ⟨rfl, hb2⟩
    have hbw := bel_trans (bel_alloc w (.cells #[.bool false, .slice none 0 0, .int .i64 0] 24)) (bel_trans hb1 hb2)
    have q0 := ((bel_trans hb1 hb2).block w.heap.size (by rw [size1]; omega)).trans (heap_a1 _ _)
    have x0 := blkC q0 0 rfl
    have x1 := blkC q0 1 rfl
    have x2 := blkC q0 2 rfl
    have z0 := blkF q0 0
    have z1 := blkF q0 1
    have z2 := blkF q0 2
    go_wp2
    refine bodyPost_ret (v := .tuple #[zeroV, .int .i64 10]) (by simp [results, Tryd.results29, go_sem, x0, x1, x2, zeroV]) rfl ⟨_, _, rfl, ?_, .inr ⟨by trivial, rfl, rfl⟩⟩
    exact bel_set3 hbw (Nat.le_refl _) _ _ _
  · rw [hp] at hP hVy
    go_enter Tryd.func29, Tryd.ntmps29
    go_wp2_with fail
    refine (hP _ (bel_alloc _ _)).mono ?_
    rintro r w1 ⟨rfl, hb1⟩
    have hbw := bel_trans (bel_alloc w (.cells #[.bool false, .slice none 0 0, .int .i64 0] 24)) hb1
    go_wp2_with fail
    refine (hVy (by trivial) _ hbw).mono ?_
    rintro r w2 ⟨v, rfl, hD⟩
    obtain ⟨ng', s', m', e', rfl, hyy, hA2⟩ := id hD
    obtain ⟨so', sn', sc', rfl⟩ := hA2.num.shape
    have q0 := ((bel_trans hb1 hD.below).block w.heap.size (by rw [size1]; omega)).trans (heap_a1 _ _)
    have x0 := blkC q0 0 rfl
    have x1 := blkC q0 1 rfl
    have x2 := blkC q0 2 rfl
    have z0 := blkF q0 0
    have z1 := blkF q0 1
    have z2 := blkF q0 2
    go_wp2
    refine bodyPost_ret (v := .tuple #[.agg #[.bool ng', .slice so' sn' sc', .int .i64 e'], .int .i64 0]) (by simp [results, Tryd.results29, go_sem, x0, x1, x2]) rfl ⟨_, _, rfl, ?_, .inl ⟨by trivial, rfl, ?_⟩⟩
    · exact bel_set3 (bel_trans hbw hD.below) (Nat.le_refl _) _ _ _
    · exact dans_res3 (g := w.heap.size) hD hbw (Nat.le_refl _) (Nat.lt_of_lt_of_le (by rw [size1]; omega) hb1.size) _ _ _
end Go.Proofs.YtkieaijmjpckdabDoor

/-
  Package dyadic's calls on numbers that are told by their worth.
-/
namespace Go.Proofs.YtkieaijmjpckdabDoor
open Go Go.RowKit Go.Proofs.YtkieaijmjpckdabDoor.M
set_option linter.unusedSimpArgs false
set_option linter.unusedVariables false

/-- A number by its worth, laid open. -/
theorem DNum.open {w : World} {v : Value} {V : Int} (h : DNum w v V) (ok : Dok V) : ∃ x : NumR, v = x.v ∧ Row w x.ao x.n x.cap x.d ∧ okR x = true ∧ x.V = V := by
  obtain ⟨ng, s, m, e, rfl, hy, ao, n, cap, d, rfl, hR, hN, rfl⟩ := h
  refine ⟨⟨ng, ao, n, cap, d, e⟩, rfl, hR, ?_, hy.val.symm⟩
  obtain ⟨o1, o2, o3⟩ := hy.ok.1 ok
  refine decide_eq_true ?_
  by_cases h0 : n = 0
  · left
    have hz : val d n = 0 := by rw [h0]; rfl
    rcases hy.form with ⟨_, f2, f3⟩ | ⟨f1, _⟩
    · exact ⟨h0, f2, f3⟩
    · omega
  · right
    have hp := val_pos hN (show 0 < n by omega)
    rcases hy.form with ⟨f1, _⟩ | ⟨_, f2⟩
    · omega
    · refine ⟨by show 0 < n; omega, ⟨?_, hN⟩, ?_, o2, o3⟩
      · exact Num.len (w := w) (ao := ao) (cap := cap) ⟨_, _, _, _, rfl, hR, hN, rfl⟩ o1
      · obtain ⟨k, hk⟩ : ∃ k, n = 1 + k := ⟨n - 1, by omega⟩
        have := val_split d 1 k
        rw [← hk] at this
        rw [this, show val d 1 = d 0 by show 0 + d 0 * 1 = _; omega, show P 1 = 1073741824 from rfl] at f2
        show d 0 % 2 = 1
        omega
theorem DFit.yes {w w' : World} {V er : Int} {v : Value} (h : DFit w w' V v er) (ok : Dok V) : er = 0 ∧ DAns w w' V v := by
  rcases h.2 with ⟨_, h1, h2⟩ | ⟨hn, _⟩
  · exact ⟨h1, h2⟩
  · exact absurd ok hn
theorem add_D {w : World} {x y : Value} {A B : Int} (hx : DNum w x A) (hy : DNum w y B) (oA : Dok A) (oB : Dok B) (hT : Tab w) :
    Calls Tryd.prog 8 #[x, y] w fun r w' => ∃ v er, r = .returned (.tuple #[v, .int .i64 er]) ∧ DFit w w' (A + B) v er := by
  obtain ⟨x, rfl, hR, ok, rfl⟩ := hx.open oA
  obtain ⟨y, rfl, hR', ok', rfl⟩ := hy.open oB
  exact dadd_ok x y w hR hR' ok ok' hT
theorem sub_D {w : World} {x y : Value} {A B : Int} (hx : DNum w x A) (hy : DNum w y B) (oA : Dok A) (oB : Dok B) (hT : Tab w) :
    Calls Tryd.prog 28 #[x, y] w fun r w' => ∃ v er, r = .returned (.tuple #[v, .int .i64 er]) ∧ DFit w w' (A - B) v er := by
  obtain ⟨x, rfl, hR, ok, rfl⟩ := hx.open oA
  obtain ⟨y, rfl, hR', ok', rfl⟩ := hy.open oB
  exact dsub_ok x y w hR hR' ok ok' hT
theorem mul_D {w : World} {x y : Value} {A B : Int} (hx : DNum w x A) (hy : DNum w y B) (oA : Dok A) (oB : Dok B) (hT : Tab w) :
    Calls Tryd.prog 6 #[x, y] w fun r w' => ∃ v er C, r = .returned (.tuple #[v, .int .i64 er]) ∧ C * 2 ^ 4194304 = A * B ∧ DFit w w' C v er := by
  obtain ⟨x, rfl, hR, ok, rfl⟩ := hx.open oA
  obtain ⟨y, rfl, hR', ok', rfl⟩ := hy.open oB
  refine (dmul_ok x y w hR hR' ok ok' hT).mono ?_
  rintro r w' ⟨v, er, rfl, hF⟩
  exact ⟨v, er, _, rfl, mulV_eq (by have := (okR_sane ok).2.2.1; omega) (by have := (okR_sane ok').2.2.1; omega), hF⟩
theorem cmp_D {w : World} {x y : Value} {A B : Int} (hx : DNum w x A) (hy : DNum w y B) (oA : Dok A) (oB : Dok B) :
    Calls Tryd.prog 10 #[x, y] w fun r w' => r = .returned (.tuple #[.int .i64 (ord A B), .int .i64 0]) ∧ Below w.heap.size w w' := by
  obtain ⟨x, rfl, hR, ok, rfl⟩ := hx.open oA
  obtain ⟨y, rfl, hR', ok', rfl⟩ := hy.open oB
  have := dcmp_any x y w hR hR'
  rwa [ok, ok'] at this
theorem neg_D {w : World} {x : Value} {A : Int} (hx : DNum w x A) (oA : Dok A) :
    Calls Tryd.prog 7 #[x] w fun r w' => ∃ v, r = .returned (.tuple #[v, .int .i64 0]) ∧ DAns w w' (-A) v := by
  obtain ⟨x, rfl, hR, ok, rfl⟩ := hx.open oA
  exact dneg_ok x w hR ok
theorem valid_D {w : World} {x : Value} {A : Int} (hx : DNum w x A) (oA : Dok A) :
    Calls Tryd.prog 18 #[x] w fun r w' => r = .returned (.bool true) ∧ Below w.heap.size w w' := by
  obtain ⟨x, rfl, hR, ok, rfl⟩ := hx.open oA
  have := dvalid_any x.ng x.ao x.n x.cap x.d x.e w hR
  rwa [show okN x.ng x.d x.n x.e = true from ok] at this
/-- To scale is to multiply. -/
theorem scale_D {w : World} {x : Value} {A : Int} (hx : DNum w x A) (oA : Dok A) (k : Int) (hk : -1000000 ≤ k ∧ k ≤ 1000000) (hT : Tab w) :
    Calls Tryd.prog 5 #[x, .int .i64 k] w fun r w' => ∃ v er C, r = .returned (.tuple #[v, .int .i64 er]) ∧ C * 2 ^ 4194304 = A * pw k ∧ DFit w w' C v er := by
  obtain ⟨x, rfl, hR, ok, rfl⟩ := hx.open oA
  refine (dscale_ok x w hR k (by unfold rng; omega) ok hT).mono ?_
  rintro r w' ⟨v, er, rfl, hF⟩
  refine ⟨v, er, _, rfl, ?_, hF⟩
  have hb := (okR_dy ok).1.ok.1 oA
  unfold mkV
  by_cases h0 : val x.d x.n = 0
  · rw [if_pos h0]
    show 0 * _ = sg x.ng (val x.d x.n) * pw x.e * pw k
    rw [h0, sg_zero, Int.zero_mul, Int.zero_mul, Int.zero_mul]
  · rw [if_neg h0, if_neg (by omega)]
    show _ = sg x.ng (val x.d x.n) * pw x.e * pw k
    rw [Int.mul_assoc, Int.mul_assoc, pw_mul (by omega) (by omega)]
theorem make_D {w : World} {s : Value} {m : Int} (ng : Bool) (e : Int) (hs : Num w s m) (hm : m < P 2000) (hT : Tab w) :
    Calls Tryd.prog 4 #[.bool ng, s, .int .i64 e] w fun r w' => ∃ v er, r = .returned (.tuple #[v, .int .i64 er]) ∧ DFit w w' (mkV ng m e) v er := by
  obtain ⟨ao, n, cap, d, rfl, hR, hN, rfl⟩ := hs
  exact dmake_all ng ao n cap d e w hR (Num.ok hN hm) hT
set_option maxRecDepth 100000 in
set_option maxHeartbeats 1000000 in
theorem same_R (an bn : Bool) (ao bo : Option Addr) (n m ca cb : Nat) (a b : Nat → Int) (e f : Int) (w : World) (ha : Row w ao n ca a) (hb : Row w bo m cb b) :
    Calls Tryd.prog 13 #[.agg #[.bool an, .slice ao n ca, .int .i64 e], .agg #[.bool bn, .slice bo m cb, .int .i64 f]] w fun r w' => r = .returned (.bool ((an == bn) && (e == f) && sameB a b n m)) ∧ Below w.heap.size w w' := by
  have hb2 := bel_alloc2 w (.cells #[.bool an, .slice ao n ca, .int .i64 e] 24) (.cells #[.bool bn, .slice bo m cb, .int .i64 f] 24)
  have hC := same_any ao bo n m ca cb a b _ (ha.keeps hb2) (hb.keeps hb2)
  by_cases h1 : an = bn
  · by_cases h2 : e = f
    · subst h1 h2
      have e0 : ((an == an) && (e == e) && sameB a b n m) = sameB a b n m := by simp
      rw [e0]
      go_enter Tryd.func13, Tryd.ntmps13
      go_wp2_with fail
      refine hC.mono ?_
      rintro r w1 ⟨rfl, h1⟩
      go_wp2
      go_ret
      exact ⟨rfl, bel_trans hb2 h1⟩
    · have h2' : (e == f) = false := by simp [h2]
      subst h1
      have e0 : ((an == an) && (e == f) && sameB a b n m) = false := by simp [h2]
      rw [e0]
      go_enter Tryd.func13, Tryd.ntmps13
      go_wp2
      go_ret
      exact ⟨rfl, hb2⟩
  · have h1' : (an == bn) = false := by simp [h1]
    have e0 : ((an == bn) && (e == f) && sameB a b n m) = false := by simp [h1]
    rw [e0]
    go_enter Tryd.func13, Tryd.ntmps13
    go_wp2
    go_ret
    exact ⟨rfl, hb2⟩
theorem sameB_iff {a b : Nat → Int} {n m : Nat} (ha : Nrm a n) (hb : Nrm b m) : sameB a b n m = decide (val a n = val b m) := by
  by_cases h : val a n = val b m
  · rw [sameB_of ha hb h, decide_eq_true h]
  · rw [decide_eq_false h]
    refine decide_eq_false fun ⟨h1, h2⟩ => h ?_
    subst h1
    exact val_congr h2
theorem same_D {w : World} {x y : Value} {A B : Int} (hx : DNum w x A) (hy : DNum w y B) :
    Calls Tryd.prog 13 #[x, y] w fun r w' => r = .returned (.bool (decide (A = B))) ∧ Below w.heap.size w w' := by
  obtain ⟨ng, s, m, e, rfl, hA, ao, n, ca, a, rfl, hR, hN, rfl⟩ := hx
  obtain ⟨ng', s', m', e', rfl, hB, ao', n', ca', a', rfl, hR', hN', rfl⟩ := hy
  have := same_R ng ng' ao ao' n n' ca ca' a a' e e' w hR hR'
  rw [sameB_iff hN hN'] at this
  have e0 : ((ng == ng') && (e == e') && decide (val a n = val a' n')) = decide (A = B) := by
    by_cases h : A = B
    · subst h
      obtain ⟨h1, h2, h3⟩ := hA.unique hB
      subst h1 h3
      simp [h2]
    · rw [decide_eq_false h]
      cases hx : ((ng == ng') && (e == e') && decide (val a n = val a' n'))
      · rfl
      · simp only [Bool.and_eq_true, beq_iff_eq, decide_eq_true_eq] at hx
        obtain ⟨⟨h1, h2⟩, h3⟩ := hx
        exfalso
        apply h
        rw [hA.val, hB.val, h1, h2, h3]
  rwa [e0] at this
end Go.Proofs.YtkieaijmjpckdabDoor

/-
  Package plumblaw3: alive.
-/
namespace Go.Proofs.YtkieaijmjpckdabDoor
open Go Go.RowKit Go.Proofs.YtkieaijmjpckdabDoor.M
set_option linter.unusedSimpArgs false
set_option linter.unusedVariables false

/-- A small number's form. -/
theorem dy_lit (ng : Bool) {m e : Int} (h0 : 0 < m) (h1 : m % 2 = 1) (he : -4194304 ≤ e) : Dy (sg ng m * pw e) ng m e := ⟨rfl, he, .inr ⟨h0, h1⟩⟩
theorem dok_lit {ng : Bool} {m e : Int} (h0 : 0 < m) (h1 : m % 2 = 1) (h2 : m < 1073741824) (he : -1048576 ≤ e) (he1 : e ≤ 1048576) : Dok (sg ng m * pw e) :=
  (dy_lit ng h0 h1 (by omega)).ok.2 ⟨by have := P2000_big2; omega, he, he1⟩
theorem dnum_lit {w : World} {g : Nat} (ng : Bool) {m e : Int} (h0 : 0 < m) (h1 : m % 2 = 1) (h2 : m < 1073741824) (he : -4194304 ≤ e) (hg : w.heap[g]? = some (.cells #[.int .i64 m] 3 (0, 0))) :
    DNum w (.agg #[.bool ng, .slice (some ⟨g, 0, none⟩) 1 1, .int .i64 e]) (sg ng m * pw e) := by
  refine ⟨ng, _, m, e, rfl, dy_lit ng h0 h1 he, _, 1, 1, fun _ => m, rfl, ?_, ⟨fun i _ => by show 0 ≤ m ∧ m < 1073741824; omega, .inr (by show m ≠ 0; omega)⟩, by show 0 + m * 1 = m; omega⟩
  exact ⟨Nat.le_refl _, by omega, fun h => by simp at h, fun _ => ⟨g, 0, rfl, (Array.getElem?_eq_some_iff.1 hg).1, fun i hi => by
    obtain rfl : i = 0 := by omega
    exact blkC hg 0 rfl⟩⟩
theorem pw_step {e k : Int} {l : Nat} (h : -4194304 ≤ e) (hk : k = e + l) : pw k = pw e * 2 ^ l := by rw [hk, pw_add h]
theorem pw_0 : pw 0 = pw (-1) * 2 := (pw_step (e := -1) (l := 1) (by omega) (by omega)).trans (by rw [Int.pow_succ, Int.pow_zero, Int.one_mul])
theorem live_x : mkV true 6 (-1) = sg true 3 * pw 0 := by
  unfold mkV
  rw [if_neg (by decide), if_neg (by decide), pw_0]
  generalize pw (-1) = p
  show -6 * p = -3 * (p * 2)
  omega
theorem live_y : pok 4609434218613702656 = true ∧ sg (pneg 4609434218613702656) (pmag 4609434218613702656) * pw (pexp 4609434218613702656) = sg false 3 * pw (-1) := by
  refine ⟨by decide, ?_⟩
  rw [show pneg 4609434218613702656 = false by decide, show pmag 4609434218613702656 = 6755399441055744 by decide, show pexp 4609434218613702656 = -52 by decide, pw_step (e := -52) (k := -1) (l := 51) (by omega) (by omega)]
  generalize pw (-52) = p
  show 6755399441055744 * p = 3 * (p * 2 ^ 51)
  rw [show (2 : Int) ^ 51 = 2251799813685248 by decide]
  omega
theorem live_s : sg true 3 * pw 0 + sg false 3 * pw (-1) = sg true 3 * pw (-1) := by
  rw [pw_0]
  generalize pw (-1) = p
  show -3 * (p * 2) + 3 * p = -3 * p
  omega
theorem sameD_yes {w : World} {x y : Value} {A : Int} (hx : DNum w x A) (hy : DNum w y A) :
    Calls Tryd.prog 13 #[x, y] w fun r w' => r = .returned (.bool true) ∧ Below w.heap.size w w' := by
  have := same_D hx hy
  rwa [decide_eq_true (rfl : A = A)] at this
set_option maxRecDepth 100000 in
set_option maxHeartbeats 2000000 in
theorem dalive_any (w : World) (L : Lay64 w) (hT : Tab w) : Calls Tryd.prog 12 #[] w fun r w' => r = .returned (.bool true) ∧ Below w.heap.size w w' := by
  have lx : ∀ {w : World} {g : Nat}, w.heap[g]? = some (.cells #[.int .i64 3] 3 (0, 0)) → DNum w (.agg #[.bool true, .slice (some ⟨g, 0, none⟩) 1 1, .int .i64 0]) (sg true 3 * pw 0) := fun h => dnum_lit true (by decide) (by decide) (by decide) (by decide) h
  have ly : ∀ {w : World} {g : Nat}, w.heap[g]? = some (.cells #[.int .i64 3] 3 (0, 0)) → DNum w (.agg #[.bool false, .slice (some ⟨g, 0, none⟩) 1 1, .int .i64 (-1)]) (sg false 3 * pw (-1)) := fun h => dnum_lit false (by decide) (by decide) (by decide) (by decide) h
  have ls : ∀ {w : World} {g : Nat}, w.heap[g]? = some (.cells #[.int .i64 3] 3 (0, 0)) → DNum w (.agg #[.bool true, .slice (some ⟨g, 0, none⟩) 1 1, .int .i64 (-1)]) (sg true 3 * pw (-1)) := fun h => dnum_lit true (by decide) (by decide) (by decide) (by decide) h
  have vx := live_x
  have vy := live_y
  have vs := live_s
  have ox : Dok (sg true 3 * pw 0) := dok_lit (by decide) (by decide) (by decide) (by decide) (by decide)
  have oy : Dok (sg false 3 * pw (-1)) := dok_lit (by decide) (by decide) (by decide) (by decide) (by decide)
  have os : Dok (sg true 3 * pw (-1)) := dok_lit (by decide) (by decide) (by decide) (by decide) (by decide)
  generalize sg true 3 * pw 0 = A at *
  generalize sg false 3 * pw (-1) = B at *
  generalize sg true 3 * pw (-1) = C at *
  go_enter Tryd.func12, Tryd.ntmps12
  go_wp2_with fail
  refine (make_D true (-1) (num1 w 6 (by decide) (by decide) rfl) (by have := P2000_big2; omega) (hT.keeps (bel_alloc _ _))).mono ?_
  rw [vx]
  rintro r w1 ⟨v, er, rfl, hF⟩
  obtain ⟨rfl, hDx⟩ := hF.yes ox
  obtain ⟨ng, so, sn, sc, e, rfl⟩ := hF.shape
  have hb1 := bel_trans (bel_alloc w _) hDx.below
  have hX := hDx.num
  clear hF hDx
  go_wp2_with fail
  generalize hwx : w1.alloc (.cells #[.bool ng, .slice so sn sc, .int .i64 e] 24) = wx
  have g0 : wx.heap[w1.heap.size]? = some (.cells #[.bool ng, .slice so sn sc, .int .i64 e] 24 (0, 0)) := by rw [← hwx]; exact heap_a1 _ _
  have hbx : Below w.heap.size w wx := by rw [← hwx]; exact bel_trans hb1 (bel_alloc _ _)
  have hXx : DNum wx (.agg #[.bool ng, .slice so sn sc, .int .i64 e]) A := by rw [← hwx]; exact hX.keeps (bel_alloc _ _)
  clear hwx hX hb1
  refine (dof_any _ _ (L.keeps hbx) (hT.keeps hbx)).mono ?_
  rw [vy.1, vy.2]
  rintro r w2 ⟨v, er, rfl, hb2, (⟨_, rfl, hDy⟩ | ⟨h, _⟩)⟩
  · obtain ⟨ng2, s2, m2, e2, rfl, hy2, hA2⟩ := id hDy
    obtain ⟨so2, sn2, sc2, rfl⟩ := hA2.num.shape
    have hY := hDy.num
    have hX2 := hXx.keeps hb2
    have g0' := (hb2.block w1.heap.size (Array.getElem?_eq_some_iff.1 g0).1).trans g0
    have hb2' := bel_trans hbx hb2
    clear hDy hA2 hy2 hXx hbx hb2 g0
    have k0 := blkC (heap_past (.cells #[.bool ng2, .slice so2 sn2 sc2, .int .i64 e2] 24) g0') 0 rfl
    have k1 := blkC (heap_past (.cells #[.bool ng2, .slice so2 sn2 sc2, .int .i64 e2] 24) g0') 1 rfl
    have k2 := blkC (heap_past (.cells #[.bool ng2, .slice so2 sn2 sc2, .int .i64 e2] 24) g0') 2 rfl
    go_wp2_with fail
    have g1 := heap_a1 w2 (.cells #[.bool ng2, .slice so2 sn2 sc2, .int .i64 e2] 24)
    have g0 := heap_past (.cells #[.bool ng2, .slice so2 sn2 sc2, .int .i64 e2] 24) g0'
    have hb3 := bel_trans hb2' (bel_alloc w2 (.cells #[.bool ng2, .slice so2 sn2 sc2, .int .i64 e2] 24))
    have hX3 := hX2.keeps (bel_alloc w2 (.cells #[.bool ng2, .slice so2 sn2 sc2, .int .i64 e2] 24))
    have hY3 := hY.keeps (bel_alloc w2 (.cells #[.bool ng2, .slice so2 sn2 sc2, .int .i64 e2] 24))
    generalize w2.alloc (.cells #[.bool ng2, .slice so2 sn2 sc2, .int .i64 e2] 24) = w3 at g0 g1 hb3 hX3 hY3 ⊢
    clear k0 k1 k2 hX2 hY g0' hb2'
    refine (add_D hX3 hY3 ox oy (hT.keeps hb3)).mono ?_
    rw [vs]
    rintro r w4 ⟨v, er, rfl, hF⟩
    obtain ⟨rfl, hDs⟩ := hF.yes os
    obtain ⟨ng4, so4, sn4, sc4, e4, rfl⟩ := hF.shape
    have hS4 := hDs.num
    have hX4 := hX3.keeps hDs.below
    have hY4 := hY3.keeps hDs.below
    have p0 := (hDs.below.block _ (Array.getElem?_eq_some_iff.1 g0).1).trans g0
    have p1 := (hDs.below.block _ (Array.getElem?_eq_some_iff.1 g1).1).trans g1
    have hb4 := bel_trans hb3 hDs.below
    clear hF hDs hX3 hY3 g0 g1 hb3
    have hX5 := hX4.keeps (bel_alloc w4 (.cells #[.bool ng4, .slice so4 sn4 sc4, .int .i64 e4] 24))
    have hY5 := hY4.keeps (bel_alloc w4 (.cells #[.bool ng4, .slice so4 sn4 sc4, .int .i64 e4] 24))
    have hS5 := hS4.keeps (bel_alloc w4 (.cells #[.bool ng4, .slice so4 sn4 sc4, .int .i64 e4] 24))
    have hb5 := bel_trans hb4 (bel_alloc w4 (.cells #[.bool ng4, .slice so4 sn4 sc4, .int .i64 e4] 24))
    have a0 := heap_past (.cells #[.bool ng4, .slice so4 sn4 sc4, .int .i64 e4] 24) p0
    have a1 := heap_past (.cells #[.bool ng4, .slice so4 sn4 sc4, .int .i64 e4] 24) p1
    have a2 := heap_a1 w4 (.cells #[.bool ng4, .slice so4 sn4 sc4, .int .i64 e4] 24)
    have hs5 := size1 w4 (.cells #[.bool ng4, .slice so4 sn4 sc4, .int .i64 e4] 24)
    have x0 := blkC a0 0 rfl
    have x1 := blkC a0 1 rfl
    have x2 := blkC a0 2 rfl
    go_wp2_with fail
    generalize w4.alloc (.cells #[.bool ng4, .slice so4 sn4 sc4, .int .i64 e4] 24) = w5 at hX5 hY5 hS5 hb5 a0 a1 a2 hs5 x0 x1 x2 ⊢
    clear hX4 hY4 hS4 hb4 p0 p1 x0 x1 x2
    have l6 := lx (heap_new (w := w5) (k := w4.heap.size + 1) (.cells #[.int .i64 3] 3) hs5.symm)
    refine (sameD_yes (hX5.keeps (bel_alloc w5 (.cells #[.int .i64 3] 3))) l6).mono ?_
    rintro r w6 ⟨rfl, hc6⟩
    have hd6 := bel_trans (bel_alloc w5 (.cells #[.int .i64 3] 3)) hc6
    have hY6 := hY5.keeps hd6
    have hS6 := hS5.keeps hd6
    have hb6 := bel_trans hb5 hd6
    have b1 := (hd6.block _ (Array.getElem?_eq_some_iff.1 a1).1).trans a1
    have b2 := (hd6.block _ (Array.getElem?_eq_some_iff.1 a2).1).trans a2
    have y0 := blkC b1 0 rfl
    have y1 := blkC b1 1 rfl
    have y2 := blkC b1 2 rfl
    clear hX5 hY5 hS5 hb5 a0 a1 a2 l6 hc6
    go_wp2_with fail
    have l7 := ly (heap_a1 w6 (.cells #[.int .i64 3] 3))
    refine (sameD_yes (hY6.keeps (bel_alloc w6 (.cells #[.int .i64 3] 3))) l7).mono ?_
    rintro r w7 ⟨rfl, hc7⟩
    have hd7 := bel_trans (bel_alloc w6 (.cells #[.int .i64 3] 3)) hc7
    have hS7 := hS6.keeps hd7
    have hb7 := bel_trans hb6 hd7
    have c2 := (hd7.block _ (Array.getElem?_eq_some_iff.1 b2).1).trans b2
    have z0 := blkC c2 0 rfl
    have z1 := blkC c2 1 rfl
    have z2 := blkC c2 2 rfl
    clear hY6 hS6 hb6 b1 b2 l7 hc7 y0 y1 y2
    go_wp2_with fail
    have l8 := ls (heap_a1 w7 (.cells #[.int .i64 3] 3))
    refine (sameD_yes (hS7.keeps (bel_alloc w7 (.cells #[.int .i64 3] 3))) l8).mono ?_
    rintro r w8 ⟨rfl, hc8⟩
    have hd8 := bel_trans (bel_alloc w7 (.cells #[.int .i64 3] 3)) hc8
    have hS8 := hS7.keeps hd8
    have hb8 := bel_trans hb7 hd8
    have d2 := (hd8.block _ (Array.getElem?_eq_some_iff.1 c2).1).trans c2
    have u0 := blkC d2 0 rfl
    have u1 := blkC d2 1 rfl
    have u2 := blkC d2 2 rfl
    clear hS7 hb7 c2 l8 hc8 z0 z1 z2
    go_wp2_with fail
    refine (valid_D hS8 os).mono ?_
    rintro r w9 ⟨rfl, hb9⟩
    go_wp2
    go_ret
    exact ⟨rfl, bel_trans hb8 hb9⟩
  · cases h
end Go.Proofs.YtkieaijmjpckdabDoor

/-
  The document's own answers (plumbref2): Shl, Shr, by contracts over the same values.
-/
namespace Go.Proofs.YtkieaijmjpckdabDoor
open Go Go.RowKit Go.Proofs.YtkieaijmjpckdabDoor.M
set_option linter.unusedSimpArgs false
set_option linter.unusedVariables false

end Go.Proofs.YtkieaijmjpckdabDoor
