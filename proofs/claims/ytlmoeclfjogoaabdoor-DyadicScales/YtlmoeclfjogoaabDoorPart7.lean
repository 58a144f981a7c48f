/-
  Parts of the proof, one behind another.
-/
import Derived.Test.YtlmoeclfjogoaabDoorPart6
import Derived.Lib.Strings
import Derived.Lib.Slices
import Derived.Lib.Small
import Derived.Lib.Walk
import Derived.Lib.BitFns
import Derived.Lib.TrailingZeros
import Derived.Laws.Bits64b
import Derived.Test.YtlmoeclfjogoaabDoorPart1
import Derived.Test.YtlmoeclfjogoaabDoorPart3
import Derived.Test.YtlmoeclfjogoaabDoorPart4
import Derived.Test.YtlmoeclfjogoaabDoorPart2
import Derived.Test.YtlmoeclfjogoaabDoorPart5
/-
  The library's math/bits.TrailingZeros64 and Len64, each by a contract: the number of b_trailing zero bits, the number of bits, of every uint64.
-/
namespace Go.Proofs.YtlmoeclfjogoaabDoor
open Go Go.RowKit Go.Proofs.YtlmoeclfjogoaabDoor.M
set_option linter.unusedSimpArgs false
set_option linter.unusedVariables false

theorem ret_ib {a a' : Int} {c c' : Bool} (h : a = a') (l : c = c') : Ending.returned (.tuple #[.int .i64 a, .bool c]) = .returned (.tuple #[.int .i64 a', .bool c']) := by rw [h, l]

/-- The library's table of b_trailing zeros. -/
def b_Tab (w : World) : Prop := ∀ j, j < 64 → w.cell? ⟨1, j, none⟩ = some (.int .u8 ((Lib.deBruijn64tab.getD j 0 : Nat) : Int))
theorem b_Tab.grown {w w' : World} (h : b_Tab w) (g : Gr w w') : b_Tab w' := fun j hj => gCell g (h j hj)

theorem b_tz_key (x a : Nat) (hx : x < 18446744073709551616) (hx0 : x ≠ 0) (hlow : x &&& (18446744073709551616 - x) = a) :
    IntKind.u64.wrap (bits .and .u64 (x : Int) (IntKind.u64.wrap (-(x : Int))) * 285870213051353865) / 288230376151711744 = ((a * 285870213051353865 % 18446744073709551616 / 288230376151711744 : Nat) : Int) := by
  have e1 : IntKind.u64.wrap (-(x : Int)) = ((18446744073709551616 - x : Nat) : Int) := by rw [IntKind.wrap_u64]; omega
  rw [e1, bits_and_u64_nat x _ hx (by omega), hlow, IntKind.wrap_u64]
  omega
set_option maxHeartbeats 1000000 in
theorem b_tz_core (x k idx : Nat) (w : World) (hx0 : ((x : Int) == 0) = false)
    (key : IntKind.u64.wrap (bits .and .u64 (x : Int) (IntKind.u64.wrap (-(x : Int))) * 285870213051353865) / 288230376151711744 = (idx : Int))
    (hi : idx < 64) (hk : k < 64) (hcell : w.cell? ⟨1, idx, none⟩ = some (.int .u8 k)) :
    Calls Tryd.prog 77 #[.int .u64 x] w fun e w' => e = .returned (.int .i64 k) ∧ w' = w := by
  go_enter Tryd.func77, Tryd.ntmps77
  go_wp2_with (simp only [key])
  go_ret
  exact ⟨rfl, rfl⟩
theorem b_trailing (x : Nat) (hx : x < 18446744073709551616) (h0 : x ≠ 0) (w : World) (hT : b_Tab w) :
    Calls Tryd.prog 77 #[.int .u64 x] w fun e w' => e = .returned (.int .i64 (Lib.ctz 64 x)) ∧ w' = w := by
  obtain ⟨hlow, hk⟩ := Lib.lowest_bit 64 x h0 hx
  obtain ⟨hi, htab⟩ := Lib.deBruijn64_at _ hk
  have hcell := hT _ hi
  rw [htab] at hcell
  exact b_tz_core x _ _ w (by simp; omega) (b_tz_key x _ hx h0 hlow) hi hk hcell
theorem b_len_close (x q : Int) (s : Nat) (h : q.toNat < Lib.len8tab.size) (hq0 : 0 ≤ q) (hq : q ≤ 255) (hs : s ≤ 56) (hb : Lib.bitLen x.toNat = s + Lib.bitLen q.toNat) :
    wrap64 ((s : Int) + wrap64 ((Lib.len8tab[q.toNat]'h).toNat : Int)) = (Lib.bitLen x.toNat : Int) := by
  have e := Lib.len8_of q hq0 hq
  have l := Lib.bitLen_le8' q hq0 hq
  unfold Lib.len8 at e
  rw [getElem?_pos Lib.len8tab q.toNat h] at e
  simp only [Option.getD_some] at e
  rw [e, hb]
  unfold wrap64
  omega
theorem b_len_close0 (x : Int) (h : x.toNat < Lib.len8tab.size) (hq0 : 0 ≤ x) (hq : x ≤ 255) :
    wrap64 (wrap64 ((Lib.len8tab[x.toNat]'h).toNat : Int)) = (Lib.bitLen x.toNat : Int) := by
  have := b_len_close x x 0 h hq0 hq (by omega) (by omega)
  simpa using this
theorem b_len_q (x q : Int) (s : Nat) (h0 : 0 ≤ x) (h1 : x ≤ 18446744073709551615) (hx : ((2 ^ s : Nat) : Int) ≤ x) (e : q = x / ((2 ^ s : Nat) : Int)) : Lib.bitLen x.toNat = s + Lib.bitLen q.toNat := by
  rw [Lib.bitLen_shift s x.toNat (by omega) (by omega), e]
  congr 2
  obtain ⟨n, rfl⟩ := Int.eq_ofNat_of_zero_le h0
  rw [← Int.natCast_ediv, Int.toNat_natCast, Int.toNat_natCast]
set_option maxHeartbeats 4000000 in
set_option maxRecDepth 100000 in
theorem b_len64 (x : Int) (w : World) (h0 : 0 ≤ x) (h1 : x ≤ 18446744073709551615) :
    Calls Tryd.prog 78 #[.int .u64 x] w fun e w' => e = .returned (.int .i64 (Lib.bitLen x.toNat)) ∧ w' = w := by
  have hs : Lib.len8tab.size = 256 := by decide +kernel
  go_enter Tryd.func78, Tryd.ntmps78
  go_wp2
  all_goals go_ret
  · exact ⟨b_ret_int (b_len_close x _ 56 _ (by omega) (by omega) (by omega) (b_len_q x _ 56 h0 h1 (by omega) (by omega))), rfl⟩
  · exact ⟨b_ret_int (b_len_close x _ 48 _ (by omega) (by omega) (by omega) (b_len_q x _ 48 h0 h1 (by omega) (by omega))), rfl⟩
  · exact ⟨b_ret_int (b_len_close x _ 40 _ (by omega) (by omega) (by omega) (b_len_q x _ 40 h0 h1 (by omega) (by omega))), rfl⟩
  · exact ⟨b_ret_int (b_len_close x _ 32 _ (by omega) (by omega) (by omega) (b_len_q x _ 32 h0 h1 (by omega) (by omega))), rfl⟩
  · exact ⟨b_ret_int (b_len_close x _ 24 _ (by omega) (by omega) (by omega) (b_len_q x _ 24 h0 h1 (by omega) (by omega))), rfl⟩
  · exact ⟨b_ret_int (b_len_close x _ 16 _ (by omega) (by omega) (by omega) (b_len_q x _ 16 h0 h1 (by omega) (by omega))), rfl⟩
  · exact ⟨b_ret_int (b_len_close x _ 8 _ (by omega) (by omega) (by omega) (b_len_q x _ 8 h0 h1 (by omega) (by omega))), rfl⟩
  · exact ⟨b_ret_int (b_len_close0 x _ (by omega) (by omega)), rfl⟩
end Go.Proofs.YtlmoeclfjogoaabDoor

/-
  Plain mathematics of Join: the odd part of a whole number, its length, how far it is shifted; the document's two loops come to the same. No Go text in sight.
-/
namespace Go.Proofs.YtlmoeclfjogoaabDoor.M
open Go
set_option linter.unusedSimpArgs false
set_option linter.unusedVariables false

/-- how often 2 divides; the odd part -/
def jz (mag : Int) : Nat := Lib.ctz 64 mag.toNat
def jo (mag : Int) : Int := mag / 2 ^ jz mag
def jl (mag : Int) : Int := Lib.bitLen (jo mag).toNat
/-- room above the odd part; the shift; the exponent above the least one -/
def jsp (fr mag : Int) : Int := fr + 1 - jl mag
def jsh (fr least mag exp : Int) : Int := min (jsp fr mag) (exp + jz mag - least)
def jab (fr least mag exp : Int) : Int := exp + jz mag - jsh fr least mag exp - least
def jgood (fr top least mag exp : Int) : Bool := decide (0 ≤ jsp fr mag) && (decide (least ≤ exp + jz mag) && decide (jab fr least mag exp ≤ top - 2))
def jk (fr top least mag exp : Int) : Bool := if mag < 0 then false else if mag = 0 then true else jgood fr top least mag exp
def jv (fr top least mag exp : Int) : Int := if mag ≤ 0 then 0 else if jgood fr top least mag exp then jab fr least mag exp * 2 ^ fr.toNat + jo mag * 2 ^ (jsh fr least mag exp).toNat else 0

theorem bitLen_spec (n : Nat) (h : n < 2 ^ 64) (h0 : n ≠ 0) : 2 ^ (Lib.bitLen n - 1) ≤ n ∧ n < 2 ^ Lib.bitLen n ∧ 1 ≤ Lib.bitLen n ∧ Lib.bitLen n ≤ 64 := by
  have hl : Lib.bitLen n ≤ 64 := Lib.bitLen_le n 64 (by omega) h
  -- by halving
  have main : ∀ f n : Nat, n < 2 ^ f → f ≤ 64 → n ≠ 0 → 2 ^ (Lib.bitLen n - 1) ≤ n ∧ n < 2 ^ Lib.bitLen n ∧ 1 ≤ Lib.bitLen n := by
    intro f
    induction f with
    | zero => intro n h _ h0; simp at h; omega
    | succ f ih =>
      intro n h hf h0
      have h64 : n < 2 ^ 64 := Nat.lt_of_lt_of_le h (Nat.pow_le_pow_right (by decide) hf)
      have e := Lib.bitLen_half n h0 h64
      by_cases h2 : n / 2 = 0
      · have h1 : n = 1 := by omega
        subst h1
        have : Lib.bitLen 1 = 1 := by decide +kernel
        rw [this]; decide
      · obtain ⟨a, b, c⟩ := ih (n / 2) (by rw [Nat.pow_succ] at h; omega) (by omega) h2
        obtain ⟨m, hm⟩ : ∃ m, Lib.bitLen (n / 2) = m + 1 := ⟨Lib.bitLen (n / 2) - 1, by omega⟩
        rw [e, hm]
        rw [hm] at a b
        simp only [Nat.add_sub_cancel] at a
        refine ⟨?_, ?_, by omega⟩
        · rw [show 1 + (m + 1) - 1 = m + 1 by omega, Nat.pow_succ]; omega
        · rw [show 1 + (m + 1) = m + 1 + 1 by omega, Nat.pow_succ]; omega
  obtain ⟨a, b, c⟩ := main 64 n h (by omega) h0
  exact ⟨a, b, c, hl⟩
/-- a length is known by the two powers around it -/
theorem bitLen_lt (n k : Nat) (h : n < 2 ^ 64) (h0 : n ≠ 0) : n < 2 ^ k ↔ Lib.bitLen n ≤ k := by
  obtain ⟨a, b, c, d⟩ := bitLen_spec n h h0
  constructor
  · intro hk
    apply Nat.le_of_not_lt
    intro hlt
    have : 2 ^ k ≤ 2 ^ (Lib.bitLen n - 1) := Nat.pow_le_pow_right (by decide) (by omega)
    omega
  · intro hk
    exact Nat.lt_of_lt_of_le b (Nat.pow_le_pow_right (by decide) hk)
theorem jz_spec {mag : Int} (h0 : 0 < mag) (h : mag < 9223372036854775808) : ∃ m : Nat, mag = 2 ^ jz mag * (2 * m + 1) ∧ jz mag < 63 ∧ jo mag = 2 * m + 1 := by
  unfold jo jz
  obtain ⟨n, rfl⟩ := Int.eq_ofNat_of_zero_le (Int.le_of_lt h0)
  have hn : n ≠ 0 := by omega
  simp only [Int.toNat_natCast]
  obtain ⟨m, hm, hk⟩ := Lib.ctzFrom_spec 64 n (by omega) (by omega)
  have e : Lib.ctz 64 n = Lib.ctzFrom 64 n := by simp [Lib.ctz, hn]
  rw [e]
  have hp : 0 < 2 ^ Lib.ctzFrom 64 n := Nat.two_pow_pos _
  have hz : Lib.ctzFrom 64 n < 63 := by
    apply Nat.lt_of_not_le
    intro hle
    have : 2 ^ 63 ≤ 2 ^ Lib.ctzFrom 64 n := Nat.pow_le_pow_right (by decide) hle
    have : 2 ^ Lib.ctzFrom 64 n ≤ n := by
      rw (occs := .pos [2]) [hm]
      exact Nat.le_mul_of_pos_right _ (by omega)
    omega
  have hm' : (n : Int) = 2 ^ Lib.ctzFrom 64 n * (2 * (m : Int) + 1) := by
    have : ((2 ^ Lib.ctzFrom 64 n * (2 * m + 1) : Nat) : Int) = 2 ^ Lib.ctzFrom 64 n * (2 * (m : Int) + 1) := by
      rw [Int.natCast_mul]; simp
    rw [← this, ← hm]
  refine ⟨m, hm', hz, ?_⟩
  have hpi : (0 : Int) < 2 ^ Lib.ctzFrom 64 n := Int.pow_pos (by decide)
  rw (occs := .pos [1]) [hm']
  exact Int.mul_ediv_cancel_left _ (by omega)
theorem jo_le {mag : Int} (h0 : 0 < mag) (h : mag < 9223372036854775808) : 1 ≤ jo mag ∧ jo mag ≤ mag := by
  obtain ⟨m, a, b, c⟩ := jz_spec h0 h
  have hp : (0 : Int) < 2 ^ jz mag := Int.pow_pos (by decide)
  have : (2 * (m : Int) + 1) * 1 ≤ (2 * (m : Int) + 1) * 2 ^ jz mag := Int.mul_le_mul_of_nonneg_left (by omega) (by omega)
  rw [Int.mul_comm _ (2 ^ jz mag), ← a] at this
  omega
theorem jl_le {mag : Int} (h0 : 0 < mag) (h : mag < 9223372036854775808) : 1 ≤ jl mag ∧ jl mag ≤ 63 := by
  obtain ⟨a, b⟩ := jo_le h0 h
  have s := bitLen_spec (jo mag).toNat (by omega) (by omega)
  unfold jl
  have := (bitLen_lt (jo mag).toNat 63 (by omega) (by omega)).1 (by omega)
  omega
/-- what the odd part comes to, shifted -/
theorem jshift_lt {fr mag : Int} (h0 : 0 < mag) (h : mag < 9223372036854775808) (hf : 0 ≤ fr) (s : Nat) (hs : (s : Int) ≤ jsp fr mag) : 1 ≤ jo mag * 2 ^ s ∧ jo mag * 2 ^ s < 2 ^ (fr.toNat + 1) := by
  obtain ⟨a, b⟩ := jo_le h0 h
  have sp := bitLen_spec (jo mag).toNat (by omega) (by omega)
  unfold jsp jl at hs
  have hp : (0 : Int) < 2 ^ s := Int.pow_pos (by decide)
  constructor
  · have : (1 : Int) * 1 ≤ jo mag * 2 ^ s := Int.mul_le_mul a (by omega) (by omega) (by omega)
    omega
  · have h1 : (jo mag).toNat * 2 ^ s < 2 ^ (Lib.bitLen (jo mag).toNat) * 2 ^ s := Nat.mul_lt_mul_of_pos_right sp.2.1 (Nat.two_pow_pos _)
    rw [← Nat.pow_add] at h1
    have h2 : 2 ^ (Lib.bitLen (jo mag).toNat + s) ≤ 2 ^ (fr.toNat + 1) := Nat.pow_le_pow_right (by decide) (by omega)
    have h3 : (jo mag).toNat * 2 ^ s < 2 ^ (fr.toNat + 1) := Nat.lt_of_lt_of_le h1 h2
    have h4 : (((jo mag).toNat * 2 ^ s : Nat) : Int) < ((2 ^ (fr.toNat + 1) : Nat) : Int) := Int.ofNat_lt.2 h3
    rw [Int.natCast_mul, Int.toNat_of_nonneg (by omega)] at h4
    simpa using h4
theorem jgood_far {mag exp : Int} (h0 : 0 < mag) (h : mag < 9223372036854775808) (hf : 1025 < exp) : jgood 52 2047 (-1074) mag exp = false := by
  have := jl_le h0 h
  unfold jgood jab jsh jsp
  simp; intro _ _; omega
theorem jgood_far32 {mag exp : Int} (h0 : 0 < mag) (h : mag < 9223372036854775808) (hf : 129 < exp) : jgood 23 255 (-149) mag exp = false := by
  have := jl_le h0 h
  unfold jgood jab jsh jsp
  simp; intro _ _; omega
theorem jv_le {mag exp : Int} (hm : rng mag) : 0 ≤ jv 52 2047 (-1074) mag exp ∧ jv 52 2047 (-1074) mag exp < 9218868437227405312 := by
  unfold rng at hm
  unfold jv
  by_cases h0 : mag ≤ 0
  · rw [if_pos h0]; omega
  · rw [if_neg h0]
    by_cases hk : jgood 52 2047 (-1074) mag exp = true
    · rw [if_pos hk]
      unfold jgood at hk
      simp only [Bool.and_eq_true, decide_eq_true_eq] at hk
      have hl := jl_le (mag := mag) (by omega) hm.2
      have hs : 0 ≤ jsh 52 (-1074) mag exp ∧ jsh 52 (-1074) mag exp ≤ jsp 52 mag := by unfold jsh; omega
      have hb := jshift_lt (fr := 52) (mag := mag) (by omega) hm.2 (by omega) (jsh 52 (-1074) mag exp).toNat (by omega)
      have hb2 : jo mag * 2 ^ (jsh 52 (-1074) mag exp).toNat < 9007199254740992 := hb.2
      have ha : 0 ≤ jab 52 (-1074) mag exp := by unfold jab jsh; omega
      -- a normal number's highest bit is counted into the field
      have e : (2 : Int) ^ (52 : Int).toNat = 4503599627370496 := by decide
      rw [e]
      omega
    · rw [if_neg hk]; omega
theorem jv_le32 {mag exp : Int} (hm : rng mag) : 0 ≤ jv 23 255 (-149) mag exp ∧ jv 23 255 (-149) mag exp < 2139095040 := by
  unfold rng at hm
  unfold jv
  by_cases h0 : mag ≤ 0
  · rw [if_pos h0]; omega
  · rw [if_neg h0]
    by_cases hk : jgood 23 255 (-149) mag exp = true
    · rw [if_pos hk]
      unfold jgood at hk
      simp only [Bool.and_eq_true, decide_eq_true_eq] at hk
      have hl := jl_le (mag := mag) (by omega) hm.2
      have hs : 0 ≤ jsh 23 (-149) mag exp ∧ jsh 23 (-149) mag exp ≤ jsp 23 mag := by unfold jsh; omega
      have hb := jshift_lt (fr := 23) (mag := mag) (by omega) hm.2 (by omega) (jsh 23 (-149) mag exp).toNat (by omega)
      have hb2 : jo mag * 2 ^ (jsh 23 (-149) mag exp).toNat < 16777216 := hb.2
      have ha : 0 ≤ jab 23 (-149) mag exp := by unfold jab jsh; omega
      have e : (2 : Int) ^ (23 : Int).toNat = 8388608 := by decide
      rw [e]
      omega
    · rw [if_neg hk]; omega
/-- halving: how the document's first loop goes -/
theorem halved {mag : Int} (h0 : 0 < mag) (h : mag < 9223372036854775808) (k : Nat) (hk : k < jz mag) : mag / 2 ^ k % 2 = 0 ∧ mag / 2 ^ k / 2 = mag / 2 ^ (k + 1) ∧ 0 < mag / 2 ^ k ∧ mag / 2 ^ k < 9223372036854775808 := by
  obtain ⟨m, a, b, c⟩ := jz_spec h0 h
  have hp : (0 : Int) < 2 ^ k := Int.pow_pos (by decide)
  have e1 : mag / 2 ^ k = 2 ^ (jz mag - k) * (2 * m + 1) := by
    rw (occs := .pos [1]) [a]
    rw [show jz mag = k + (jz mag - k) by omega, Int.pow_add, Int.mul_assoc]
    rw [show k + (jz mag - k) - k = jz mag - k by omega]
    exact Int.mul_ediv_cancel_left _ (by omega)
  have e2 : (2 : Int) ^ (jz mag - k) = 2 * 2 ^ (jz mag - k - 1) := by
    rw [show jz mag - k = (jz mag - k - 1) + 1 by omega, Int.pow_succ, Int.mul_comm]
    simp
  have hq : (0 : Int) < 2 ^ (jz mag - k) := Int.pow_pos (by decide)
  refine ⟨?_, ?_, ?_, ?_⟩
  · rw [e1, e2, Int.mul_assoc]; exact Int.mul_emod_right _ _
  · rw [Int.pow_succ, Int.ediv_ediv_of_nonneg (by omega)]
  · rw [e1]; exact Int.mul_pos hq (by omega)
  · have : mag / 2 ^ k ≤ mag := Int.ediv_le_self _ (by omega)
    omega
theorem halved_end {mag : Int} (h0 : 0 < mag) (h : mag < 9223372036854775808) : jo mag % 2 = 1 := by
  obtain ⟨m, a, b, c⟩ := jz_spec h0 h
  omega
/-- doubling: how the document's second loop goes -/
theorem doubled {fr mag : Int} (h0 : 0 < mag) (h : mag < 9223372036854775808) (hf : 0 ≤ fr) (j : Nat) : jo mag * 2 ^ j < 2 ^ fr.toNat ↔ (j : Int) < jsp fr mag := by
  obtain ⟨a, b⟩ := jo_le h0 h
  have sp := bitLen_spec (jo mag).toNat (by omega) (by omega)
  unfold jsp jl
  have hc : ((((jo mag).toNat * 2 ^ j : Nat)) : Int) = jo mag * 2 ^ j := by
    rw [Int.natCast_mul, Int.toNat_of_nonneg (by omega)]; simp
  have hd : ((2 ^ fr.toNat : Nat) : Int) = 2 ^ fr.toNat := by simp
  rw [← hc, ← hd, Int.ofNat_lt]
  constructor
  · intro hlt
    have h1 : 2 ^ (Lib.bitLen (jo mag).toNat - 1) * 2 ^ j ≤ (jo mag).toNat * 2 ^ j := Nat.mul_le_mul_right _ sp.1
    rw [← Nat.pow_add] at h1
    have h2 : 2 ^ (Lib.bitLen (jo mag).toNat - 1 + j) < 2 ^ fr.toNat := by omega
    have := (Nat.pow_lt_pow_iff_right (by decide : 1 < 2)).1 h2
    omega
  · intro hlt
    have h1 : (jo mag).toNat * 2 ^ j < 2 ^ (Lib.bitLen (jo mag).toNat) * 2 ^ j := Nat.mul_lt_mul_of_pos_right sp.2.1 (Nat.two_pow_pos _)
    rw [← Nat.pow_add] at h1
    exact Nat.lt_of_lt_of_le h1 (Nat.pow_le_pow_right (by decide) (by omega))
/-- what the document's shifted answers -/
def sk (fr low mag exp : Int) : Bool := decide (0 ≤ jsp fr mag) && decide (low ≤ exp + jz mag)
def sm (fr low mag exp : Int) : Int := if sk fr low mag exp then jo mag * 2 ^ (jsh fr low mag exp).toNat else 0
def se (fr low mag exp : Int) : Int := if sk fr low mag exp then exp + jz mag - jsh fr low mag exp else 0
/-- Join's pattern, with its sign -/
def jp (neg : Bool) (mag exp : Int) : Int := if jk 52 2047 (-1074) mag exp && neg then jv 52 2047 (-1074) mag exp - 9223372036854775808 else jv 52 2047 (-1074) mag exp
def jp32 (neg : Bool) (mag exp : Int) : Int := if jk 23 255 (-149) mag exp && neg then jv 23 255 (-149) mag exp + 2147483648 else jv 23 255 (-149) mag exp
theorem jgood_near {mag exp : Int} (h0 : 0 < mag) (h : mag < 9223372036854775808) (hf : exp < -2000) : jgood 52 2047 (-1074) mag exp = false := by
  obtain ⟨_, _, a, _⟩ := jz_spec h0 h
  unfold jgood; simp; intro _ _; omega
theorem jgood_near32 {mag exp : Int} (h0 : 0 < mag) (h : mag < 9223372036854775808) (hf : exp < -2000) : jgood 23 255 (-149) mag exp = false := by
  obtain ⟨_, _, a, _⟩ := jz_spec h0 h
  unfold jgood; simp; intro _ _; omega
theorem jgood_sk (mag exp : Int) : jgood 52 2047 (-1074) mag exp = (sk 52 (-1074) mag exp && decide (se 52 (-1074) mag exp ≤ 971)) := by
  unfold jgood se jab
  by_cases h : sk 52 (-1074) mag exp = true
  · rw [if_pos h, h]
    unfold sk at h
    simp only [Bool.and_eq_true, decide_eq_true_eq] at h
    simp only [h.1, h.2, decide_true, Bool.true_and]
    congr 1; apply propext; omega
  · have h' : sk 52 (-1074) mag exp = false := by simpa using h
    rw [h']
    unfold sk at h'
    simp only [Bool.false_and]
    simp only [Bool.and_eq_false_iff, decide_eq_false_iff_not] at h' ⊢
    omega
/-- the pattern, off what shifted answers -/
theorem jv_sm {mag exp : Int} (h0 : 0 < mag) (h : mag < 9223372036854775808) (hk : sk 52 (-1074) mag exp = true) (he : se 52 (-1074) mag exp ≤ 971) :
    1 ≤ sm 52 (-1074) mag exp ∧ sm 52 (-1074) mag exp < 9007199254740992 ∧ -1074 ≤ se 52 (-1074) mag exp ∧
    jv 52 2047 (-1074) mag exp = (if sm 52 (-1074) mag exp < 4503599627370496 then sm 52 (-1074) mag exp else (se 52 (-1074) mag exp + 1075) * 4503599627370496 + sm 52 (-1074) mag exp - 4503599627370496) := by
  have hg : jgood 52 2047 (-1074) mag exp = true := by rw [jgood_sk, hk]; simpa using he
  have hk' := hk
  unfold sk at hk'
  simp only [Bool.and_eq_true, decide_eq_true_eq] at hk'
  have hs : 0 ≤ jsh 52 (-1074) mag exp ∧ jsh 52 (-1074) mag exp ≤ jsp 52 mag ∧ jsh 52 (-1074) mag exp ≤ exp + jz mag + 1074 := by unfold jsh; omega
  have hb := jshift_lt (fr := 52) h0 h (by omega) (jsh 52 (-1074) mag exp).toNat (by omega)
  have hb2 : jo mag * 2 ^ (jsh 52 (-1074) mag exp).toNat < 9007199254740992 := hb.2
  have hd := doubled (fr := 52) h0 h (by omega) (jsh 52 (-1074) mag exp).toNat
  rw [show (2 : Int) ^ (52 : Int).toNat = 4503599627370496 by decide] at hd
  have es : sm 52 (-1074) mag exp = jo mag * 2 ^ (jsh 52 (-1074) mag exp).toNat := by unfold sm; rw [if_pos hk]
  have ee : se 52 (-1074) mag exp = exp + jz mag - jsh 52 (-1074) mag exp := by unfold se; rw [if_pos hk]
  rw [es, ee]
  refine ⟨hb.1, hb2, by omega, ?_⟩
  unfold jv jab
  rw [if_neg (by omega), if_pos hg, show (2 : Int) ^ (52 : Int).toNat = 4503599627370496 by decide]
  split
  · rename_i hlt
    have := hd.1 hlt
    have : jsh 52 (-1074) mag exp = exp + jz mag + 1074 := by unfold jsh at *; omega
    omega
  · omega
theorem jgood_sk32 (mag exp : Int) : jgood 23 255 (-149) mag exp = (sk 23 (-149) mag exp && decide (se 23 (-149) mag exp ≤ 104)) := by
  unfold jgood se jab
  by_cases h : sk 23 (-149) mag exp = true
  · rw [if_pos h, h]
    unfold sk at h
    simp only [Bool.and_eq_true, decide_eq_true_eq] at h
    simp only [h.1, h.2, decide_true, Bool.true_and]
    congr 1; apply propext; omega
  · have h' : sk 23 (-149) mag exp = false := by simpa using h
    rw [h']
    unfold sk at h'
    simp only [Bool.false_and]
    simp only [Bool.and_eq_false_iff, decide_eq_false_iff_not] at h' ⊢
    omega
/-- the pattern, off what shifted answers -/
theorem jv_sm32 {mag exp : Int} (h0 : 0 < mag) (h : mag < 9223372036854775808) (hk : sk 23 (-149) mag exp = true) (he : se 23 (-149) mag exp ≤ 104) :
    1 ≤ sm 23 (-149) mag exp ∧ sm 23 (-149) mag exp < 16777216 ∧ -149 ≤ se 23 (-149) mag exp ∧
    jv 23 255 (-149) mag exp = (if sm 23 (-149) mag exp < 8388608 then sm 23 (-149) mag exp else (se 23 (-149) mag exp + 150) * 8388608 + sm 23 (-149) mag exp - 8388608) := by
  have hg : jgood 23 255 (-149) mag exp = true := by rw [jgood_sk32, hk]; simpa using he
  have hk' := hk
  unfold sk at hk'
  simp only [Bool.and_eq_true, decide_eq_true_eq] at hk'
  have hs : 0 ≤ jsh 23 (-149) mag exp ∧ jsh 23 (-149) mag exp ≤ jsp 23 mag ∧ jsh 23 (-149) mag exp ≤ exp + jz mag + 149 := by unfold jsh; omega
  have hb := jshift_lt (fr := 23) h0 h (by omega) (jsh 23 (-149) mag exp).toNat (by omega)
  have hb2 : jo mag * 2 ^ (jsh 23 (-149) mag exp).toNat < 16777216 := hb.2
  have hd := doubled (fr := 23) h0 h (by omega) (jsh 23 (-149) mag exp).toNat
  rw [show (2 : Int) ^ (23 : Int).toNat = 8388608 by decide] at hd
  have es : sm 23 (-149) mag exp = jo mag * 2 ^ (jsh 23 (-149) mag exp).toNat := by unfold sm; rw [if_pos hk]
  have ee : se 23 (-149) mag exp = exp + jz mag - jsh 23 (-149) mag exp := by unfold se; rw [if_pos hk]
  rw [es, ee]
  refine ⟨hb.1, hb2, by omega, ?_⟩
  unfold jv jab
  rw [if_neg (by omega), if_pos hg, show (2 : Int) ^ (23 : Int).toNat = 8388608 by decide]
  split
  · rename_i hlt
    have := hd.1 hlt
    have : jsh 23 (-149) mag exp = exp + jz mag + 149 := by unfold jsh at *; omega
    omega
  · omega
end Go.Proofs.YtlmoeclfjogoaabDoor.M

/-
  Package bits' Join: the method join of both layouts, by contracts.
-/
namespace Go.Proofs.YtlmoeclfjogoaabDoor
open Go Go.RowKit Go.Proofs.YtlmoeclfjogoaabDoor.M
set_option linter.unusedSimpArgs false
set_option linter.unusedVariables false

theorem keepIt {p : Prop} (h : p) : Hid p := h
theorem trailingI (mag : Int) (h0 : 0 < mag) (h : mag < 9223372036854775808) (w : World) (hT : b_Tab w) :
    Calls Tryd.prog 77 #[.int .u64 mag] w fun e w' => e = .returned (.int .i64 (jz mag)) ∧ w' = w := by
  obtain ⟨n, rfl⟩ := Int.eq_ofNat_of_zero_le (Int.le_of_lt h0)
  exact b_trailing n (by omega) (by omega) w hT
theorem len64J (mag : Int) (w : World) (h0 : 1 ≤ jo mag) (h1 : jo mag ≤ mag) (h : mag < 9223372036854775808) :
    Calls Tryd.prog 78 #[.int .u64 (jo mag)] w fun e w' => e = .returned (.int .i64 (jl mag)) ∧ w' = w :=
  b_len64 (jo mag) w (by omega) (by omega)
theorem far64 (exp : Int) (w : World) (h : rng exp) :
    Calls Tryd.prog 76 #[.agg #[.int .i64 52, .int .i64 2047, .int .i64 (-1074)], .int .i64 exp] w fun e w' => e = .returned (.bool (decide (1025 < exp))) ∧ w' = w.alloc (.cells #[.int .i64 52, .int .i64 2047, .int .i64 (-1074)] 78) := by
  unfold rng at h
  go_enter Tryd.func76, Tryd.ntmps76
  go_wp2
  go_ret
  exact ⟨rfl, rfl⟩
set_option maxHeartbeats 1000000 in
theorem join64 (mag exp : Int) (w : World) (hT : b_Tab w) (hm : rng mag) (he : rng exp) :
    Calls Tryd.prog 64 #[.agg #[.int .i64 52, .int .i64 2047, .int .i64 (-1074)], .int .i64 mag, .int .i64 exp] w fun e w' => e = .returned (.tuple #[.int .i64 (jv 52 2047 (-1074) mag exp), .bool (jk 52 2047 (-1074) mag exp)]) ∧ Gr w w' := by
  have he0 := he
  unfold rng at hm he
  rcases Int.lt_trichotomy mag 0 with h | h | h
  · have hn : (mag == 0) = false := by simp; omega
    go_enter Tryd.func64, Tryd.ntmps64
    go_wp2
    go_ret2
    exact ⟨ret_ib (by simp [jv]; omega) (by simp [jk]; omega), (Gr.refl _).alloc _ _⟩
  · subst h
    go_enter Tryd.func64, Tryd.ntmps64
    go_wp2
    go_ret2
    exact ⟨ret_ib (by simp [jv]) (by simp [jk]), (Gr.refl _).alloc _ _⟩
  · have hn : (mag == 0) = false := by simp; omega
    have hz := jz_spec h hm.2
    by_cases hf : 1025 < exp
    · have hk := keepIt (jgood_far h hm.2 hf)
      go_enter Tryd.func64, Tryd.ntmps64
      go_wp2_with (go_at_call 76; refine (far64 _ _ he0).mono ?_; rintro e w1 ⟨rfl, rfl⟩)
      go_ret2
      exact ⟨ret_ib (by simp [jv, hk.out]) (by simp [jk, hk.out]; omega), ((Gr.refl _).alloc _ _).alloc _ _⟩
    · obtain ⟨m, -, hz63, -⟩ := hz
      have hj := jo_le h hm.2
      have hL := jl_le h hm.2
      have eo : mag / 2 ^ jz mag = jo mag := rfl
      by_cases s1 : 53 - jl mag < 0
      · have hk : Hid (jgood 52 2047 (-1074) mag exp = false) := by unfold Hid jgood jsp; simp; omega
        go_enter Tryd.func64, Tryd.ntmps64
        go_wp2_with (go_at_call 76; refine (far64 _ _ he0).mono ?_; rintro e w1 ⟨rfl, rfl⟩)
        refine (trailingI mag h hm.2 _ (hT.grown (((Gr.refl _).alloc _ _).alloc _ _))).mono ?_
        rintro e w1 ⟨rfl, rfl⟩
        go_wp2
        go_quiet ((go_at_call 78; exact Calls.quiet_of_same (len64J _ _ hj.1 hj.2 hm.2)))
        go_wp2
        go_ret2
        exact ⟨ret_ib (by simp [jv, hk.out]) (by simp [jk, hk.out]; omega), gDrewN (((Gr.refl _).alloc _ _).alloc _ _) _⟩
      · by_cases s2 : exp + jz mag < -1074
        · have hk : Hid (jgood 52 2047 (-1074) mag exp = false) := by unfold Hid jgood jsp; simp; omega
          go_enter Tryd.func64, Tryd.ntmps64
          go_wp2_with (go_at_call 76; refine (far64 _ _ he0).mono ?_; rintro e w1 ⟨rfl, rfl⟩)
          refine (trailingI mag h hm.2 _ (hT.grown (((Gr.refl _).alloc _ _).alloc _ _))).mono ?_
          rintro e w1 ⟨rfl, rfl⟩
          go_wp2
          go_quiet ((go_at_call 78; exact Calls.quiet_of_same (len64J _ _ hj.1 hj.2 hm.2)))
          go_wp2
          go_ret2
          exact ⟨ret_ib (by simp [jv, hk.out]) (by simp [jk, hk.out]; omega), gDrewN (((Gr.refl _).alloc _ _).alloc _ _) _⟩
        · obtain ⟨s, hs⟩ : ∃ s : Nat, min (53 - jl mag) (exp + ↑(jz mag) + 1074) = (s : Int) := ⟨(min (53 - jl mag) (exp + ↑(jz mag) + 1074)).toNat, by omega⟩
          have hsl : (s : Int) ≤ 52 := by omega
          have hsj : Hid (jsh 52 (-1074) mag exp = s) := by unfold Hid jsh jsp; omega
          by_cases s3 : 2045 < exp + ↑(jz mag) - ↑s + 1074
          · have hk : Hid (jgood 52 2047 (-1074) mag exp = false) := by unfold Hid jgood jab; rw [hsj.out]; simp; omega
            go_enter Tryd.func64, Tryd.ntmps64
            go_wp2_with (go_at_call 76; refine (far64 _ _ he0).mono ?_; rintro e w1 ⟨rfl, rfl⟩)
            refine (trailingI mag h hm.2 _ (hT.grown (((Gr.refl _).alloc _ _).alloc _ _))).mono ?_
            rintro e w1 ⟨rfl, rfl⟩
            go_wp2
            go_quiet ((go_at_call 78; exact Calls.quiet_of_same (len64J _ _ hj.1 hj.2 hm.2)))
            go_wp2
            go_ret2
            exact ⟨ret_ib (by simp [jv, hk.out]) (by simp [jk, hk.out]; omega), gDrewN (((Gr.refl _).alloc _ _).alloc _ _) _⟩
          · have hk : Hid (jgood 52 2047 (-1074) mag exp = true) := by unfold Hid jgood jab jsp; rw [hsj.out]; simp; omega
            have hb := jshift_lt (fr := 52) h hm.2 (by omega) s (by unfold jsp; omega)
            have hb2 : jo mag * 2 ^ s < 9007199254740992 := hb.2
            have hb1 := hb.1
            clear hb
            go_enter Tryd.func64, Tryd.ntmps64
            go_wp2_with (go_at_call 76; refine (far64 _ _ he0).mono ?_; rintro e w1 ⟨rfl, rfl⟩)
            refine (trailingI mag h hm.2 _ (hT.grown (((Gr.refl _).alloc _ _).alloc _ _))).mono ?_
            rintro e w1 ⟨rfl, rfl⟩
            go_wp2
            go_quiet ((go_at_call 78; exact Calls.quiet_of_same (len64J _ _ hj.1 hj.2 hm.2)))
            go_wp2
            go_quiet (fail)
            go_wp2
            go_ret2
            refine ⟨ret_ib ?_ (by simp [jk, hk.out]; omega), gDrewN (gDrewN (((Gr.refl _).alloc _ _).alloc _ _) _) _⟩
            unfold jv jab
            rw [if_neg (by omega), if_pos hk.out, hsj.out]
            rfl
theorem far32 (exp : Int) (w : World) (h : rng exp) :
    Calls Tryd.prog 76 #[.agg #[.int .i64 23, .int .i64 255, .int .i64 (-149)], .int .i64 exp] w fun e w' => e = .returned (.bool (decide (129 < exp))) ∧ w' = w.alloc (.cells #[.int .i64 23, .int .i64 255, .int .i64 (-149)] 78) := by
  unfold rng at h
  go_enter Tryd.func76, Tryd.ntmps76
  go_wp2
  go_ret
  exact ⟨rfl, rfl⟩
set_option maxHeartbeats 1000000 in
theorem join32 (mag exp : Int) (w : World) (hT : b_Tab w) (hm : rng mag) (he : rng exp) :
    Calls Tryd.prog 64 #[.agg #[.int .i64 23, .int .i64 255, .int .i64 (-149)], .int .i64 mag, .int .i64 exp] w fun e w' => e = .returned (.tuple #[.int .i64 (jv 23 255 (-149) mag exp), .bool (jk 23 255 (-149) mag exp)]) ∧ Gr w w' := by
  have he0 := he
  unfold rng at hm he
  rcases Int.lt_trichotomy mag 0 with h | h | h
  · have hn : (mag == 0) = false := by simp; omega
    go_enter Tryd.func64, Tryd.ntmps64
    go_wp2
    go_ret2
    exact ⟨ret_ib (by simp [jv]; omega) (by simp [jk]; omega), (Gr.refl _).alloc _ _⟩
  · subst h
    go_enter Tryd.func64, Tryd.ntmps64
    go_wp2
    go_ret2
    exact ⟨ret_ib (by simp [jv]) (by simp [jk]), (Gr.refl _).alloc _ _⟩
  · have hn : (mag == 0) = false := by simp; omega
    have hz := jz_spec h hm.2
    by_cases hf : 129 < exp
    · have hk := keepIt (jgood_far32 h hm.2 hf)
      go_enter Tryd.func64, Tryd.ntmps64
      go_wp2_with (go_at_call 76; refine (far32 _ _ he0).mono ?_; rintro e w1 ⟨rfl, rfl⟩)
      go_ret2
      exact ⟨ret_ib (by simp [jv, hk.out]) (by simp [jk, hk.out]; omega), ((Gr.refl _).alloc _ _).alloc _ _⟩
    · obtain ⟨m, -, hz63, -⟩ := hz
      have hj := jo_le h hm.2
      have hL := jl_le h hm.2
      have eo : mag / 2 ^ jz mag = jo mag := rfl
      by_cases s1 : 24 - jl mag < 0
      · have hk : Hid (jgood 23 255 (-149) mag exp = false) := by unfold Hid jgood jsp; simp; omega
        go_enter Tryd.func64, Tryd.ntmps64
        go_wp2_with (go_at_call 76; refine (far32 _ _ he0).mono ?_; rintro e w1 ⟨rfl, rfl⟩)
        refine (trailingI mag h hm.2 _ (hT.grown (((Gr.refl _).alloc _ _).alloc _ _))).mono ?_
        rintro e w1 ⟨rfl, rfl⟩
        go_wp2
        go_quiet ((go_at_call 78; exact Calls.quiet_of_same (len64J _ _ hj.1 hj.2 hm.2)))
        go_wp2
        go_ret2
        exact ⟨ret_ib (by simp [jv, hk.out]) (by simp [jk, hk.out]; omega), gDrewN (((Gr.refl _).alloc _ _).alloc _ _) _⟩
      · by_cases s2 : exp + jz mag < -149
        · have hk : Hid (jgood 23 255 (-149) mag exp = false) := by unfold Hid jgood jsp; simp; omega
          go_enter Tryd.func64, Tryd.ntmps64
          go_wp2_with (go_at_call 76; refine (far32 _ _ he0).mono ?_; rintro e w1 ⟨rfl, rfl⟩)
          refine (trailingI mag h hm.2 _ (hT.grown (((Gr.refl _).alloc _ _).alloc _ _))).mono ?_
          rintro e w1 ⟨rfl, rfl⟩
          go_wp2
          go_quiet ((go_at_call 78; exact Calls.quiet_of_same (len64J _ _ hj.1 hj.2 hm.2)))
          go_wp2
          go_ret2
          exact ⟨ret_ib (by simp [jv, hk.out]) (by simp [jk, hk.out]; omega), gDrewN (((Gr.refl _).alloc _ _).alloc _ _) _⟩
        · obtain ⟨s, hs⟩ : ∃ s : Nat, min (24 - jl mag) (exp + ↑(jz mag) + 149) = (s : Int) := ⟨(min (24 - jl mag) (exp + ↑(jz mag) + 149)).toNat, by omega⟩
          have hsl : (s : Int) ≤ 23 := by omega
          have hsj : Hid (jsh 23 (-149) mag exp = s) := by unfold Hid jsh jsp; omega
          by_cases s3 : 253 < exp + ↑(jz mag) - ↑s + 149
          · have hk : Hid (jgood 23 255 (-149) mag exp = false) := by unfold Hid jgood jab; rw [hsj.out]; simp; omega
            go_enter Tryd.func64, Tryd.ntmps64
            go_wp2_with (go_at_call 76; refine (far32 _ _ he0).mono ?_; rintro e w1 ⟨rfl, rfl⟩)
            refine (trailingI mag h hm.2 _ (hT.grown (((Gr.refl _).alloc _ _).alloc _ _))).mono ?_
            rintro e w1 ⟨rfl, rfl⟩
            go_wp2
            go_quiet ((go_at_call 78; exact Calls.quiet_of_same (len64J _ _ hj.1 hj.2 hm.2)))
            go_wp2
            go_ret2
            exact ⟨ret_ib (by simp [jv, hk.out]) (by simp [jk, hk.out]; omega), gDrewN (((Gr.refl _).alloc _ _).alloc _ _) _⟩
          · have hk : Hid (jgood 23 255 (-149) mag exp = true) := by unfold Hid jgood jab jsp; rw [hsj.out]; simp; omega
            have hb := jshift_lt (fr := 23) h hm.2 (by omega) s (by unfold jsp; omega)
            have hb2 : jo mag * 2 ^ s < 16777216 := hb.2
            have hb1 := hb.1
            clear hb
            go_enter Tryd.func64, Tryd.ntmps64
            go_wp2_with (go_at_call 76; refine (far32 _ _ he0).mono ?_; rintro e w1 ⟨rfl, rfl⟩)
            refine (trailingI mag h hm.2 _ (hT.grown (((Gr.refl _).alloc _ _).alloc _ _))).mono ?_
            rintro e w1 ⟨rfl, rfl⟩
            go_wp2
            go_quiet ((go_at_call 78; exact Calls.quiet_of_same (len64J _ _ hj.1 hj.2 hm.2)))
            go_wp2
            go_quiet (fail)
            go_wp2
            go_ret2
            refine ⟨ret_ib ?_ (by simp [jk, hk.out]; omega), gDrewN (gDrewN (((Gr.refl _).alloc _ _).alloc _ _) _) _⟩
            unfold jv jab
            rw [if_neg (by omega), if_pos hk.out, hsj.out]
            rfl
end Go.Proofs.YtlmoeclfjogoaabDoor

/-
  The document's own answers (plumbref2): Valid, trim, Two, Answer, Cmp, Add, Sub, by contracts over the same values.
-/
namespace Go.Proofs.YtlmoeclfjogoaabDoor
open Go Go.RowKit Go.Proofs.YtlmoeclfjogoaabDoor.M
set_option linter.unusedSimpArgs false
set_option linter.unusedVariables false

set_option maxHeartbeats 400000 in
theorem rtrim_any (g n cap : Nat) (d : Nat → Int) (w : World) (h : Row w (some ⟨g, 0, none⟩) n cap d) :
    Calls Tryd.prog 79 #[.slice (some ⟨g, 0, none⟩) n cap] w fun e w' => ∃ t : Nat, t ≤ n ∧ Top d t ∧ (∀ i, t ≤ i → i < n → d i = 0) ∧ e = .returned (.slice (some ⟨g, 0, none⟩) t cap) ∧ w' = w := by
  have hl := h.le
  have hm := h.max
  go_enter Tryd.func79, Tryd.ntmps79
  go_wp2
  go_loop [3] (fun i => ∃ k : Nat, k ≤ n ∧ i = .int .i64 k ∧ ∀ i, k ≤ i → i < n → d i = 0) (fun i => (intOf i).toNat)
  case atStart => exact ⟨n, Nat.le_refl _, rfl, fun i a b => by omega⟩
  case round =>
    obtain ⟨k, hk, rfl, hz⟩ := hrel
    have HZ : Hid (∀ i, k ≤ i → i < n → d i = 0) := hz
    clear hz
    by_cases h0 : k = 0
    · subst h0
      go_wp2
      go_ret
      exact ⟨0, by omega, .inl rfl, HZ.out, by simp, rfl⟩
    · obtain ⟨b, off, eb, hb, hc⟩ := h.spot (by omega)
      simp only [Option.some.injEq, Addr.mk.injEq, and_true] at eb
      obtain ⟨rfl, rfl⟩ := eb
      have c := hc (k - 1) (by omega)
      rw [Nat.zero_add] at c
      by_cases h1 : d (k - 1) = 0
      · go_wp2
        go_round
        case rel => exact ⟨k - 1, by omega, by go_num, fun i a b => by by_cases e : i = k - 1; (· rw [e]; exact h1); (· exact HZ.out i (by omega) b)⟩
        case measure => simp [intOf]; omega
      · go_wp2
        go_ret
        exact ⟨k, hk, .inr h1, HZ.out, by simp, rfl⟩
theorem top_of {d : Nat → Int} {t : Nat} (hd : Dig d t) (h : 0 < t → P (t - 1) ≤ val d t) : Top d t := by
  by_cases h0 : t = 0
  · exact .inl h0
  · refine .inr fun e => ?_
    obtain ⟨k, rfl⟩ : ∃ k, t = k + 1 := ⟨t - 1, by omega⟩
    rw [Nat.add_sub_cancel] at e h
    have h1 := h (by omega)
    rw [val_succ, e] at h1
    have h2 := val_lt (hd.le (Nat.le_succ k))
    omega
theorem cat_upd (r : Nat → Int) (k : Nat) (x : Int) : ∀ i, i < k + 1 → cat r k (fun _ => x) i = upd r k x i := fun i hi => by
  by_cases e : i < k
  · simp [cat, e, upd_other r _ (show i ≠ k by omega)]
  · obtain rfl : i = k := by omega
    simp [cat, upd_same]
theorem dig_upd2 {r : Nat → Int} {k : Nat} {x : Int} (h : Dig r k) (hx : 0 ≤ x ∧ x < 1073741824) : Dig (upd r k x) (k + 1) := fun i hi => by
  by_cases e : i = k
  · rw [e, upd_same]; exact hx
  · rw [upd_other r x e]; exact h i (by omega)
end Go.Proofs.YtlmoeclfjogoaabDoor

/-
  The document's own answers (plumbref2): fits, Answer, From, Cmp, Sub, Mul, by contracts over the same values.
-/
namespace Go.Proofs.YtlmoeclfjogoaabDoor
open Go Go.RowKit Go.Proofs.YtlmoeclfjogoaabDoor.M
set_option linter.unusedSimpArgs false
set_option linter.unusedVariables false

theorem rtrim_out {B : Nat} {w : World} {v : Value} {n : Nat} {d : Nat → Int} (h : Out B w v n d) :
    Calls Tryd.prog 79 #[v] w fun e w' => ∃ v', e = .returned v' ∧ ∃ t, t ≤ n ∧ Top d t ∧ (∀ i, t ≤ i → i < n → d i = 0) ∧ Out B w v' t d ∧ w' = w := by
  have h0 := h
  rcases h.2 with ⟨rfl, rfl⟩ | ⟨g, cap, cur, rfl, hb, hg, hn, hm, hs, ht⟩
  · go_enter Tryd.func79, Tryd.ntmps79
    go_wp2
    go_loop [3] (fun i => i = .int .i64 0) (fun i => 0)
    case atStart => rfl
    case round =>
      subst hrel
      go_wp2
      go_ret
      exact ⟨_, rfl, .inl rfl, Out.nil _ _ _, rfl⟩
  · obtain ⟨ao, c, e, hR⟩ := h0.row
    simp only [Value.slice.injEq] at e
    obtain ⟨rfl, _, rfl⟩ := e
    refine (rtrim_any g n cap d w hR).mono ?_
    rintro e w' ⟨t, h1, h2, h3, rfl, rfl⟩
    exact ⟨_, rfl, t, h1, h2, h3, h0.cut h1, rfl⟩
theorem rtrim_ans {w0 w : World} {v : Value} {n : Nat} {d : Nat → Int} (h : Out w0.heap.size w v n d) (hd : Dig d n) (hb : Below w0.heap.size w0 w) :
    Calls Tryd.prog 79 #[v] w fun e w' => ∃ v', e = .returned v' ∧ Ans w0 w (val d n) v' ∧ w' = w := by
  refine (rtrim_out h).mono ?_
  rintro e w' ⟨v', rfl, t, ht, htop, hz, hO, rfl⟩
  obtain ⟨hN, hv⟩ := nrm_of_top hd ht htop hz
  exact ⟨v', rfl, ⟨t, d, hO, hN, hv, hb⟩, rfl⟩
end Go.Proofs.YtlmoeclfjogoaabDoor

/-
  The document's own answers (plumbref2): From, Bits, Bit, Shl, Shr, by contracts over the same values.
-/
namespace Go.Proofs.YtlmoeclfjogoaabDoor
open Go Go.RowKit Go.Proofs.YtlmoeclfjogoaabDoor.M
set_option linter.unusedSimpArgs false
set_option linter.unusedVariables false

theorem blen_half {x : Int} (h : 0 < x) : blen x = blen (x / 2) + 1 := by
  obtain ⟨h1, h2⟩ := blen_pos h
  have h3 := blen_lt x
  obtain ⟨k, hk⟩ : ∃ k, blen x = k + 1 := ⟨blen x - 1, by omega⟩
  rw [hk] at h2 h3 ⊢
  rw [Nat.add_sub_cancel] at h2
  rw [Int.pow_succ] at h3
  cases k with
  | zero =>
    have : x = 1 := by simp at h3 h2; omega
    subst this; decide
  | succ j =>
    rw [Int.pow_succ] at h2
    have e1 : (2 : Int) ^ j ≤ x / 2 := by omega
    have e2 : x / 2 < 2 ^ (j + 1) := by omega
    rw [blen_of e1 e2]
end Go.Proofs.YtlmoeclfjogoaabDoor

/-
  Package nat: small, combine, heads (what Lehmer's way is made of), by contracts.
-/
namespace Go.Proofs.YtlmoeclfjogoaabDoor
open Go Go.RowKit Go.Proofs.YtlmoeclfjogoaabDoor.M
set_option linter.unusedSimpArgs false
set_option linter.unusedVariables false

theorem val_mono {d : Nat → Int} {n m : Nat} (h : Dig d n) (hm : m ≤ n) : val d m ≤ val d n := by
  have e := val_split d m (n - m)
  rw [show m + (n - m) = n by omega] at e
  have a := val_nonneg (show Dig (fun i => d (m + i)) (n - m) from fun i hi => h (m + i) (by omega))
  have := Int.mul_nonneg (Int.le_of_lt (P_pos m)) a
  omega
set_option maxHeartbeats 400000 in
theorem small_any (ao : Option Addr) (n cap : Nat) (d : Nat → Int) (w : World) (h : Row w ao n cap d) (hd : Dig d n) (hn : n ≤ 3) (hv : val d n < 9223372036854775808) :
    Calls Tryd.prog 63 #[.slice ao n cap] w fun e w' => e = .returned (.int .i64 (val d n)) ∧ w' = w := by
  have hl := h.le
  have hm := h.max
  have HV : Hid (val d n < 9223372036854775808) := hv
  clear hv
  go_enter Tryd.func63, Tryd.ntmps63
  go_wp2
  go_loop [3, 7] (fun v i => ∃ k : Nat, k ≤ n ∧ i = .int .i64 k ∧ v = .int .i64 (val d k)) (fun _ i => n - (intOf i).toNat)
  case atStart => exact ⟨0, Nat.zero_le _, rfl, rfl⟩
  case round =>
    obtain ⟨k, hk, rfl, rfl⟩ := hrel
    by_cases hlt : k < n
    · obtain ⟨b, off, rfl, hb, hc⟩ := h.spot (by omega)
      have c := hc k hlt
      have dk := hd k hlt
      have v0 := val_nonneg (hd.le (show k ≤ n by omega))
      have v1 := val_lt (hd.le (show k ≤ n by omega))
      have m1 := val_mono hd (show k + 1 ≤ n by omega)
      have hv2 := HV.out
      rw [P_two] at v1
      have e1 : val d (k + 1) = val d k + d k * 2 ^ (30 * k) := by rw [val_succ, P_two]
      have m0 : 0 ≤ d k * 2 ^ (30 * k) := Int.mul_nonneg dk.1 (Int.le_of_lt (two_pos _))
      have hw : wrap64 (d k * 2 ^ (30 * k)) = d k * 2 ^ (30 * k) := IntWalk.wrap64_in _ ⟨by omega, by omega⟩
      have hor : bits .or .i64 (val d k) (d k * 2 ^ (30 * k)) = val d (k + 1) := (or_add _ _ _ v0 v1 dk.1 (by omega)).trans e1.symm
      clear e1 m0 m1 hv2 v0 v1
      go_wp2
      go_round
      case rel => exact ⟨k + 1, by omega, by go_num, rfl⟩
      case measure => simp [intOf]; omega
    · obtain rfl : k = n := by omega
      go_wp2
      go_ret
      exact ⟨rfl, rfl⟩

theorem mul_bnd {x y : Int} (hx : -1073741824 < x ∧ x < 1073741824) (hy : 0 ≤ y ∧ y < 1073741824) : -1152921504606846976 ≤ x * y ∧ x * y ≤ 1152921504606846976 := by
  have h1 : x * y ≤ 1073741824 * y := Int.mul_le_mul_of_nonneg_right (by omega) hy.1
  have h2 : -1073741824 * y ≤ x * y := Int.mul_le_mul_of_nonneg_right (by omega) hy.1
  constructor <;> omega
theorem small_ans {w w' : World} {V : Int} {v : Value} (h : Ans w w' V v) (hV : V < 1152921504606846976) :
    Calls Tryd.prog 63 #[v] w' fun e w'' => e = .returned (.int .i64 V) ∧ w'' = w' := by
  have hn := h.num
  obtain ⟨ao, n, cap, rfl⟩ := hn.shape
  have hl := hn.len (show V < P 2 from hV)
  obtain ⟨ao', n', cap', d, e, hR, h2, rfl⟩ := hn
  simp only [Value.slice.injEq] at e
  obtain ⟨rfl, rfl, rfl⟩ := e
  exact small_any _ _ _ _ _ hR h2.1 (by omega) (by omega)
end Go.Proofs.YtlmoeclfjogoaabDoor

/-
  Package nat's calls that take one list and a number: Int, Bit at every number; what they answer on no number and on a negative one.
-/
namespace Go.Proofs.YtlmoeclfjogoaabDoor
open Go Go.RowKit Go.Proofs.YtlmoeclfjogoaabDoor.M
set_option linter.unusedSimpArgs false
set_option linter.unusedVariables false

/-- A bit, at every int. -/
def bitI (A n : Int) : Bool := if n < 0 then false else bitB A n.toNat
theorem bitI_neg {A n : Int} (h : n < 0) : bitI A n = false := by simp [bitI, h]
theorem bitI_nat (A : Int) (i : Nat) : bitI A i = bitB A i := by simp [bitI]
theorem bitI_big {A n : Int} (h0 : 0 ≤ A) (h : (blen A : Int) ≤ n) : bitI A n = false := by
  unfold bitI
  split
  · rfl
  · exact bit_high h0 (by omega)
theorem blen60 {A : Int} (hA : A < P 2000) : blen A ≤ 60000 := blen_le (by rw [← P2000_two]; exact hA)
theorem int_bad (ao : Option Addr) (n ca : Nat) (a : Nat → Int) (w : World) (h : Row w ao n ca a) (hbad : okB a n = false) :
    Calls Tryd.prog 42 #[.slice ao n ca] w fun e w' => e = .returned (.tuple #[.int .i64 0, .bool false]) ∧ w' = w := by
  go_enter Tryd.func42, Tryd.ntmps42
  go_wp2_with fail
  refine (valid_any _ _ _ _ _ h).mono ?_
  rintro e w' ⟨rfl, rfl⟩
  go_wp2
  go_ret2
  exact ⟨rfl, rfl⟩
/-- The int of a number, and whether it is one. -/
def intV (A : Int) : Int := if blen A ≤ 63 then A else 0
theorem int_num {w : World} {x : Value} {A : Int} (hx : Num w x A) (hA : A < P 2000) :
    Calls Tryd.prog 42 #[x] w fun e w' => e = .returned (.tuple #[.int .i64 (intV A), .bool (decide (blen A ≤ 63))]) ∧ w' = w := by
  have A0 := hx.nonneg
  obtain ⟨ao, t, ca, rfl⟩ := hx.shape
  have hx0 := hx
  obtain ⟨ao', t', ca', d, e, hR, h2, rfl⟩ := hx
  simp only [Value.slice.injEq] at e
  obtain ⟨rfl, rfl, rfl⟩ := e
  have ok := Num.ok h2 hA
  have hn2 := (okB_out ok).1
  clear hA
  by_cases hb : blen (val d t) ≤ 63
  · have h63 : val d t < 9223372036854775808 := Int.lt_of_lt_of_le (blen_lt _) (Int.le_trans (two_le hb) (by decide))
    have h3 : t ≤ 3 := hx0.len (k := 3) (Int.lt_of_lt_of_le h63 (by decide))
    have HV : Hid (intV (val d t) = val d t) := by show _ = _; simp [intV, hb]
    have hbi : ((blen (val d t) : Nat) : Int) ≤ 63 := by omega
    have HS := small_any ao t ca d w hR h2.1 h3 h63
    have HS' : Hid (Calls Tryd.prog 63 #[.slice ao t ca] w fun e w' => e = .returned (.int .i64 (val d t)) ∧ w' = w) := HS
    clear HS h63 hx0
    go_enter Tryd.func42, Tryd.ntmps42
    go_wp2_with fail
    refine (valid_any _ _ _ _ _ hR).mono ?_
    rintro e w' ⟨rfl, rfl⟩
    go_wp2_with fail
    refine (bitLength_any _ _ _ _ _ hR h2 (by omega)).mono ?_
    rintro e w' ⟨rfl, rfl⟩
    go_wp2_with fail
    refine HS'.out.mono ?_
    rintro e w' ⟨rfl, rfl⟩
    go_wp2
    go_ret2
    exact ⟨by rw [HV.out, decide_eq_true hb]; rfl, rfl⟩
  · have HV : Hid (intV (val d t) = 0) := by show _ = _; simp [intV, hb]
    have hbi : (63 : Int) < ((blen (val d t) : Nat) : Int) := by omega
    go_enter Tryd.func42, Tryd.ntmps42
    go_wp2_with fail
    refine (valid_any _ _ _ _ _ hR).mono ?_
    rintro e w' ⟨rfl, rfl⟩
    go_wp2_with fail
    refine (bitLength_any _ _ _ _ _ hR h2 (by omega)).mono ?_
    rintro e w' ⟨rfl, rfl⟩
    go_wp2
    go_ret2
    exact ⟨by rw [HV.out, decide_eq_false hb]; rfl, rfl⟩
end Go.Proofs.YtlmoeclfjogoaabDoor

/-
  Package dyadic: Of, Of32, Float, by contracts.
-/
namespace Go.Proofs.YtlmoeclfjogoaabDoor
open Go Go.RowKit Go.Proofs.YtlmoeclfjogoaabDoor.M
set_option linter.unusedSimpArgs false
set_option linter.unusedVariables false

/-- The cells of binary64's layout. -/
structure Lay64 (w : World) : Prop where
  a0 : w.cell? ⟨0, 0, none⟩ = some (.int .i64 52)
  a1 : w.cell? ⟨0, 1, none⟩ = some (.int .i64 2047)
  a2 : w.cell? ⟨0, 2, none⟩ = some (.int .i64 (-1074))
theorem Lay64.keeps {w w' : World} (h : Lay64 w) (hb : Below w.heap.size w w') : Lay64 w' := ⟨cell_keeps h.a0 hb, cell_keeps h.a1 hb, cell_keeps h.a2 hb⟩
theorem bitsPartsA (b : Int) (w : World) (L : Lay64 w) :
    Calls Tryd.prog 41 #[.int .i64 b] w fun e w' => e = .returned (.tuple #[.bool (pneg b), .int .i64 (pmag b), .int .i64 (pexp b), .bool (pok b)]) ∧ Below w.heap.size w w' := by
  obtain ⟨a0, a1, a2⟩ := L
  by_cases h : pok b = true
  all_goals
    go_enter Tryd.func41, Tryd.ntmps41
    go_wp2_with (go_at_call 62; refine (parts64 _ _).mono ?_; rintro e w1 ⟨rfl, hg⟩)
    refine bodyPost_ret (v := .tuple #[.bool (pneg b), .int .i64 (pmag b), .int .i64 (pexp b), .bool (pok b)]) (by simp [results, Tryd.results41, go_sem, pneg, h]) rfl ⟨rfl, hg.be⟩
theorem bitsJoinA (neg : Bool) (mag exp : Int) (w : World) (L : Lay64 w) (hT : Tab w) (hm : rng mag) (he : rng exp) :
    Calls Tryd.prog 43 #[.bool neg, .int .i64 mag, .int .i64 exp] w fun e w' => e = .returned (.tuple #[.int .i64 (jp neg mag exp), .bool (jk 52 2047 (-1074) mag exp)]) ∧ Below w.heap.size w w' := by
  obtain ⟨a0, a1, a2⟩ := L
  have hb := jv_le (mag := mag) (exp := exp) hm
  have ho := or_i64_sign (jv 52 2047 (-1074) mag exp) (by omega) (by omega)
  have Ho := keepIt ho
  clear ho
  cases hk : jk 52 2047 (-1074) mag exp
  all_goals
    have HK := keepIt hk
    cases neg
    all_goals
      go_enter Tryd.func43, Tryd.ntmps43
      go_wp2_with (go_at_call 64; refine (join64 _ _ _ hT hm he).mono ?_; rintro e w1 ⟨rfl, hg⟩)
      go_ret2
      exact ⟨ret_ib (by simp [jp, HK.out, Ho.out]) (by simp [HK.out]), hg.be⟩
theorem pmag_in {b : Int} (hp : pok b = true) : 0 ≤ pmag b ∧ pmag b < 9007199254740992 ∧ -1074 ≤ pexp b ∧ pexp b ≤ 971 := by
  have hf := fld_le b
  have hr := frc_le b
  have h1 : fld b ≠ 2047 := by simpa [pok] using hp
  unfold pmag pexp
  rw [if_neg h1, if_neg h1]
  split <;> omega
theorem pmag32_in {b : Int} (hp : pok32 b = true) : 0 ≤ pmag32 b ∧ pmag32 b < 16777216 ∧ -149 ≤ pexp32 b ∧ pexp32 b ≤ 104 := by
  have hf := fld32_le b
  have hr := frc32_le b
  have h1 : fld32 b ≠ 255 := by
    intro h
    simp [pok32, h] at hp
  unfold pmag32 pexp32
  rw [if_pos hp, if_pos hp]
  split <;> omega
theorem ofNat_any (x : Int) (w : World) (h0 : 0 ≤ x) (h1 : x < 9223372036854775808) :
    Calls Tryd.prog 61 #[.int .i64 x] w fun e w' => ∃ v, e = .returned (.tuple #[v, .int .i64 0]) ∧ Ans w w' x v := by
  have HX := digits_nat x w h0 h1
  have HX' : Hid (Calls Tryd.prog 74 #[.int .i64 x] w fun e w' => ∃ v, e = .returned v ∧ Ans w w' x v) := HX
  clear HX h1
  go_enter Tryd.func61, Tryd.ntmps61
  go_wp2_with fail
  refine HX'.out.mono ?_
  rintro e w2 ⟨v, rfl, hA⟩
  go_wp2
  go_ret2
  exact ⟨_, rfl, hA⟩
theorem P2000_big2 : 9223372036854775808 < P 2000 := by
  have := P_le (show 3 ≤ 2000 by omega)
  have e : P 3 = 1237940039285380274899124224 := rfl
  omega
/-- A finite float's worth has a valid form. -/
theorem dok_small {ng : Bool} {M e : Int} (h0 : 0 ≤ M) (h1 : M < 9223372036854775808) (e0 : -1074 ≤ e) (e1 : e ≤ 971) : Dok (sg ng M * pw e) := by
  by_cases hz : M = 0
  · rw [hz, sg_zero, Int.zero_mul]; exact dok_zero
  · obtain ⟨l, hl⟩ := isLow_ex (show 0 < M by omega)
    have hy := Dy.of ng hl (show 0 < M by omega) (show -4194304 ≤ e by omega)
    obtain ⟨c1, c2, c3⟩ := isLow_odd hl (show 0 < M by omega)
    have hp := two_pos l
    have hl63 : l < 63 := by
      have h3 : (1 : Int) * 2 ^ l ≤ M / 2 ^ l * 2 ^ l := Int.mul_le_mul_of_nonneg_right (by omega) (by omega)
      rw [c3] at h3
      refine two_lt_iff ?_
      rw [show (2 : Int) ^ 63 = 9223372036854775808 by decide]
      omega
    refine hy.ok.2 ⟨?_, by omega, by omega⟩
    have : M / 2 ^ l ≤ M := Int.ediv_le_self _ h0
    have := P2000_big2
    omega
set_option maxRecDepth 100000 in
set_option maxHeartbeats 1000000 in
theorem value_yes (ng : Bool) (M e : Int) (w : World) (hT : Tab w) (h0 : 0 ≤ M) (h1 : M < 9223372036854775808) (e0 : -1074 ≤ e) (e1 : e ≤ 971) :
    Calls Tryd.prog 40 #[.bool ng, .int .i64 M, .int .i64 e, .bool true] w fun r w' => ∃ v, r = .returned (.tuple #[v, .int .i64 0]) ∧ DAns w w' (sg ng M * pw e) v := by
  have hok := dok_small (ng := ng) h0 h1 e0 e1
  go_enter Tryd.func40, Tryd.ntmps40
  go_wp2_with fail
  refine (ofNat_any M _ h0 h1).mono ?_
  rintro r w1 ⟨v, rfl, hA⟩
  obtain ⟨so, sn, sc, d, rfl, hR, hN, hv⟩ := hA.num
  have hsn : sn ≤ 100 := hA.num.len (k := 100) (by have := P_le (show 3 ≤ 100 by omega); have : P 3 = 1237940039285380274899124224 := rfl; omega)
  have hbw := bel_trans (bel_alloc w _) hA.below
  go_wp2_with fail
  refine (settle_any (V := sg ng M * pw e) hR hN.1 (by omega) (hT.keeps hbw) (by omega) (by rw [hv])).mono ?_
  rintro r w7 (⟨_, v, rfl, hD⟩ | ⟨hno, _⟩)
  · have hb7 := hD.below
    obtain ⟨ng', s', m', e', rfl, hyy, hA2⟩ := id hD
    obtain ⟨so', sn', sc', rfl⟩ := hA2.num.shape
    have q0 := ((bel_trans hA.below hb7).block w.heap.size (by rw [size1]; omega)).trans (heap_a1 _ _)
    have x0 := blkC q0 0 rfl
    have x1 := blkC q0 1 rfl
    have x2 := blkC q0 2 rfl
    have z0 := blkF q0 0
    have z1 := blkF q0 1
    have z2 := blkF q0 2
    go_wp2
    refine bodyPost_ret (v := .tuple #[.agg #[.bool ng', .slice so' sn' sc', .int .i64 e'], .int .i64 0]) (by simp [results, Tryd.results40, go_sem, x0, x1, x2]) rfl ⟨_, rfl, ?_⟩
    exact dans_res3 (g := w.heap.size) hD hbw (Nat.le_refl _) (Nat.lt_of_lt_of_le (by rw [size1]; omega) hA.below.size) _ _ _
  · exact absurd hok hno
set_option maxRecDepth 100000 in
theorem value_no (ng : Bool) (M e : Int) (w : World) :
    Calls Tryd.prog 40 #[.bool ng, .int .i64 M, .int .i64 e, .bool false] w fun r w' => r = .returned (.tuple #[zeroV, .int .i64 10]) ∧ Below w.heap.size w w' := by
  go_enter Tryd.func40, Tryd.ntmps40
  go_wp2
  refine bodyPost_ret (v := .tuple #[zeroV, .int .i64 10]) (by simp [results, Tryd.results40, go_sem, zeroV]) rfl ⟨rfl, ?_⟩
  exact bel_alloc _ _
set_option maxRecDepth 100000 in
set_option maxHeartbeats 1000000 in
theorem dof_any (b : Int) (w : World) (L : Lay64 w) (hT : Tab w) :
    Calls Tryd.prog 18 #[.int .i64 b] w fun r w' => ∃ v er, r = .returned (.tuple #[v, .int .i64 er]) ∧ Below w.heap.size w w' ∧ ((pok b = true ∧ er = 0 ∧ DAns w w' (sg (pneg b) (pmag b) * pw (pexp b)) v) ∨ (pok b = false ∧ er = 10 ∧ v = zeroV)) := by
  have hVy : pok b = true → ∀ W, Below w.heap.size w W → Calls Tryd.prog 40 #[.bool (pneg b), .int .i64 (pmag b), .int .i64 (pexp b), .bool true] W fun r w' => ∃ v, r = .returned (.tuple #[v, .int .i64 0]) ∧ DAns W w' (sg (pneg b) (pmag b) * pw (pexp b)) v := fun hp W hb => by
    have hi := pmag_in hp
    exact value_yes _ _ _ W (hT.keeps hb) (by omega) (by omega) (by omega) (by omega)
  have hP := fun W hb => bitsPartsA b W (L.keeps hb)
  generalize sg (pneg b) (pmag b) * pw (pexp b) = V at hVy ⊢
  generalize pneg b = ng at *
  generalize pmag b = mg at *
  generalize pexp b = ex at *
  clear L hT
  cases hp : pok b
  · rw [hp] at hP hVy
    go_enter Tryd.func18, Tryd.ntmps18
    go_wp2_with fail
    refine (hP _ (bel_alloc _ _)).mono ?_
    rintro r w1 ⟨rfl, hb1⟩
    go_wp2_with fail
    refine (value_no _ _ _ _).mono ?_
    unfold zeroV
    rintro r w2 ⟨rfl, hb2⟩
    have hbw := bel_trans (bel_alloc w (.cells #[.bool false, .slice none 0 0, .int .i64 0] 24)) (bel_trans hb1 hb2)
    have q0 := ((bel_trans hb1 hb2).block w.heap.size (by rw [size1]; omega)).trans (heap_a1 _ _)
    have x0 := blkC q0 0 rfl
    have x1 := blkC q0 1 rfl
    have x2 := blkC q0 2 rfl
    have z0 := blkF q0 0
    have z1 := blkF q0 1
    have z2 := blkF q0 2
    go_wp2
    refine bodyPost_ret (v := .tuple #[zeroV, .int .i64 10]) (by simp [results, Tryd.results18, go_sem, x0, x1, x2, zeroV]) rfl ⟨_, _, rfl, ?_, .inr ⟨by trivial, rfl, rfl⟩⟩
    exact bel_set3 hbw (Nat.le_refl _) _ _ _
  · rw [hp] at hP hVy
    go_enter Tryd.func18, Tryd.ntmps18
    go_wp2_with fail
    refine (hP _ (bel_alloc _ _)).mono ?_
    rintro r w1 ⟨rfl, hb1⟩
    have hbw := bel_trans (bel_alloc w (.cells #[.bool false, .slice none 0 0, .int .i64 0] 24)) hb1
    go_wp2_with fail
    refine (hVy (by trivial) _ hbw).mono ?_
    rintro r w2 ⟨v, rfl, hD⟩
    obtain ⟨ng', s', m', e', rfl, hyy, hA2⟩ := id hD
    obtain ⟨so', sn', sc', rfl⟩ := hA2.num.shape
    have q0 := ((bel_trans hb1 hD.below).block w.heap.size (by rw [size1]; omega)).trans (heap_a1 _ _)
    have x0 := blkC q0 0 rfl
    have x1 := blkC q0 1 rfl
    have x2 := blkC q0 2 rfl
    have z0 := blkF q0 0
    have z1 := blkF q0 1
    have z2 := blkF q0 2
    go_wp2
    refine bodyPost_ret (v := .tuple #[.agg #[.bool ng', .slice so' sn' sc', .int .i64 e'], .int .i64 0]) (by simp [results, Tryd.results18, go_sem, x0, x1, x2]) rfl ⟨_, _, rfl, ?_, .inl ⟨by trivial, rfl, ?_⟩⟩
    · exact bel_set3 (bel_trans hbw hD.below) (Nat.le_refl _) _ _ _
    · exact dans_res3 (g := w.heap.size) hD hbw (Nat.le_refl _) (Nat.lt_of_lt_of_le (by rw [size1]; omega) hb1.size) _ _ _
set_option maxRecDepth 100000 in
set_option maxHeartbeats 1000000 in
theorem dfloat_any (x : NumR) (w : World) (hx : Row w x.ao x.n x.cap x.d) (L : Lay64 w) (hT : Tab w) (he : rng x.e) :
    Calls Tryd.prog 19 #[x.v] w fun r w' => r = .returned (.tuple #[.int .i64 (if okR x && decide (blen (val x.d x.n) ≤ 63) then jp x.ng (val x.d x.n) x.e else 0), .bool (okR x && decide (blen (val x.d x.n) ≤ 63) && jk 52 2047 (-1074) (val x.d x.n) x.e)]) ∧ Below w.heap.size w w' := by
  have hV := fun W hb => dvalid_any x.ng x.ao x.n x.cap x.d x.e W (hx.keeps hb)
  have hk : okN x.ng x.d x.n x.e = okR x := rfl
  rw [hk] at hV
  have hb0 : okR x = true → okB x.d x.n = true := fun h => by
    rcases of_decide_eq_true h with ⟨h1, h2, h3⟩ | ⟨h1, h2, _⟩
    · exact okB_yes (by omega) ⟨fun i hi => by omega, .inl h1⟩
    · exact okB_yes h2.1 h2.2
  generalize okR x = ok at *
  obtain ⟨an, ao, n, ca, a, e⟩ := x
  unfold NumR.v
  simp only at *
  clear hk
  have g0 := heap_a1 w (.cells #[.bool an, .slice ao n ca, .int .i64 e] 24)
  have hb1 := bel_alloc w (.cells #[.bool an, .slice ao n ca, .int .i64 e] 24)
  cases hB : okB a n
  · have hok : ok = false := by cases ok; (· rfl); (· have := hb0 rfl; rw [hB] at this; cases this)
    subst hok
    have hI := fun W hb => int_bad ao n ca a W (hx.keeps hb) hB
    go_enter Tryd.func19, Tryd.ntmps19
    go_wp2_with fail
    refine (hI _ hb1).mono ?_
    rintro r w1 ⟨rfl, rfl⟩
    go_wp2
    go_ret2
    exact ⟨rfl, hb1⟩
  · obtain ⟨hn, hN⟩ := okB_out hB
    have hlt : val a n < P 2000 := Int.lt_of_lt_of_le (val_lt hN.1) (P_le hn)
    have hI := fun W hb => int_num (w := W) (x := .slice ao n ca) (A := val a n) ⟨_, _, _, _, rfl, hx.keeps hb, hN, rfl⟩ hlt
    have h63 : blen (val a n) ≤ 63 → val a n < 9223372036854775808 := fun h => by
      have h1 := blen_lt (val a n)
      have h2 : (2 : Int) ^ blen (val a n) ≤ 2 ^ 63 := two_le h
      rw [show (2 : Int) ^ 63 = 9223372036854775808 by decide] at h2
      omega
    have hnn := val_nonneg hN.1
    generalize val a n = M at *
    by_cases hs : blen M ≤ 63
    · have hs' : decide (blen M ≤ 63) = true := decide_eq_true hs
      have hi : intV M = M := by unfold intV; rw [if_pos hs]
      rw [hs', hi] at hI
      rw [hs']
      have hM := h63 hs
      have hJ := fun W hb => bitsJoinA an M e W (L.keeps hb) (hT.keeps hb) (by unfold rng; omega) he
      generalize jp an M e = jv at *
      generalize jk 52 2047 (-1074) M e = jkv at *
      cases ok
      · go_enter Tryd.func19, Tryd.ntmps19
        go_wp2_with fail
        refine (hI _ hb1).mono ?_
        rintro r w1 ⟨rfl, rfl⟩
        go_wp2_with fail
        refine (hV _ hb1).mono ?_
        rintro r w2 ⟨rfl, hb2⟩
        go_wp2
        go_ret2
        exact ⟨rfl, bel_trans hb1 hb2⟩
      · go_enter Tryd.func19, Tryd.ntmps19
        go_wp2_with fail
        refine (hI _ hb1).mono ?_
        rintro r w1 ⟨rfl, rfl⟩
        go_wp2_with fail
        refine (hV _ hb1).mono ?_
        rintro r w2 ⟨rfl, hb2⟩
        have q0 := (hb2.block w.heap.size (by rw [size1]; omega)).trans g0
        have k0 := blkC q0 0 rfl
        have k1 := blkC q0 1 rfl
        have k2 := blkC q0 2 rfl
        go_wp2_with fail
        refine (hJ _ (bel_trans hb1 hb2)).mono ?_
        rintro r w3 ⟨rfl, hb3⟩
        go_wp2
        go_ret2
        exact ⟨rfl, bel_trans (bel_trans hb1 hb2) hb3⟩
    · have hs' : decide (blen M ≤ 63) = false := decide_eq_false hs
      rw [hs'] at hI
      rw [hs', Bool.and_false, Bool.false_and]
      go_enter Tryd.func19, Tryd.ntmps19
      go_wp2_with fail
      refine (hI _ hb1).mono ?_
      rintro r w1 ⟨rfl, rfl⟩
      go_wp2
      go_ret2
      exact ⟨rfl, hb1⟩
end Go.Proofs.YtlmoeclfjogoaabDoor
