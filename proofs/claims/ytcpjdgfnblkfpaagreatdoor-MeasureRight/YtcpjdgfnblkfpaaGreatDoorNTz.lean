/-
  math/bits.TrailingZeros; nat's lowest, Low, Bit, Shr, Div, by contracts.
-/
import Derived.Test.YtcpjdgfnblkfpaaGreatDoorNLaw
import Derived.Test.YtcpjdgfnblkfpaaGreatDoorNW5
import Derived.Test.YtcpjdgfnblkfpaaGreatDoorND1
import Derived.Test.YtcpjdgfnblkfpaaGreatDoorNPow
import Derived.Lib.BitFns
import Derived.Lib.TrailingZeros
import Derived.Laws.Bits64b
namespace Go.Proofs.YtcpjdgfnblkfpaaGreatDoor
open Go Go.RowKit Go.Proofs.YtcpjdgfnblkfpaaGreatDoor.M
set_option linter.unusedSimpArgs false
set_option linter.unusedVariables false

/-- The library's table of trailing zeros. -/
def Tab (w : World) : Prop := ∀ j, j < 64 → w.cell? ⟨3, j, none⟩ = some (.int .u8 ((Lib.deBruijn64tab.getD j 0 : Nat) : Int))
theorem Tab.keeps {w w' : World} (h : Tab w) (hb : Below w.heap.size w w') : Tab w' := fun j hj =>
  (hb.cell (p := ⟨3, j, none⟩) (World.block_lt_of_cell? w _ (h j hj))).trans (h j hj)
theorem tz_key (x a : Nat) (hx : x < 18446744073709551616) (hx0 : x ≠ 0) (hlow : x &&& (18446744073709551616 - x) = a) :
    IntKind.u64.wrap (bits .and .u64 (x : Int) (IntKind.u64.wrap (-(x : Int))) * 285870213051353865) / 288230376151711744 = ((a * 285870213051353865 % 18446744073709551616 / 288230376151711744 : Nat) : Int) := by
  have e1 : IntKind.u64.wrap (-(x : Int)) = ((18446744073709551616 - x : Nat) : Int) := by rw [IntKind.wrap_u64]; omega
  rw [e1, bits_and_u64_nat x _ hx (by omega), hlow, IntKind.wrap_u64]
  omega
set_option maxHeartbeats 1000000 in
theorem tz_core (x k idx : Nat) (w : World) (hx0 : ((x : Int) == 0) = false)
    (key : IntKind.u64.wrap (bits .and .u64 (x : Int) (IntKind.u64.wrap (-(x : Int))) * 285870213051353865) / 288230376151711744 = (idx : Int))
    (hi : idx < 64) (hk : k < 64) (hcell : w.cell? ⟨3, idx, none⟩ = some (.int .u8 k)) :
    Calls Tryz.prog 134 #[.int .u64 x] w fun e w' => e = .returned (.int .i64 k) ∧ w' = w := by
  go_enter Tryz.func134, Tryz.ntmps134
  go_wp2_with (simp only [key])
  go_ret
  exact ⟨rfl, rfl⟩
theorem trailing64 (x : Nat) (hx : x < 18446744073709551616) (h0 : x ≠ 0) (w : World) (hT : Tab w) :
    Calls Tryz.prog 134 #[.int .u64 x] w fun e w' => e = .returned (.int .i64 (Lib.ctz 64 x)) ∧ w' = w := by
  obtain ⟨hlow, hk⟩ := Lib.lowest_bit 64 x h0 hx
  obtain ⟨hi, htab⟩ := Lib.deBruijn64_at _ hk
  have hcell := hT _ hi
  rw [htab] at hcell
  exact tz_core x _ _ w (by simp; omega) (tz_key x _ hx h0 hlow) hi hk hcell
theorem trailing64I (x : Int) (hx0 : 0 < x) (hx : x < 1073741824) (w : World) (hT : Tab w) :
    Calls Tryz.prog 134 #[.int .u64 x] w fun e w' => ∃ l : Nat, e = .returned (.int .i64 l) ∧ (l < 64 ∧ IsLow x l) ∧ w' = w := by
  obtain ⟨n, rfl⟩ := Int.eq_ofNat_of_zero_le (Int.le_of_lt hx0)
  obtain ⟨m, hm, hk⟩ := Lib.ctzFrom_spec 64 n (by omega) (by omega)
  have e : Lib.ctz 64 n = Lib.ctzFrom 64 n := by simp [Lib.ctz]; omega
  rw [← e] at hm hk
  refine (trailing64 n (by omega) (by omega) _ hT).mono ?_
  rintro e w' ⟨rfl, rfl⟩
  refine ⟨_, rfl, ⟨hk, m, ?_⟩, rfl⟩
  have : ((n : Nat) : Int) = ((2 ^ Lib.ctz 64 n * (2 * m + 1) : Nat) : Int) := congrArg _ hm
  rw [this, Int.natCast_mul, Int.mul_comm]; simp
theorem trailing (x : Int) (hx0 : 0 < x) (hx : x < 1073741824) (w : World) (hT : Tab w) :
    Calls Tryz.prog 109 #[.int .u64 x] w fun e w' => ∃ l : Nat, e = .returned (.int .i64 l) ∧ (l < 64 ∧ IsLow x l) ∧ w' = w := by
  go_enter Tryz.func109, Tryz.ntmps109
  go_wp2_with fail
  refine (trailing64I x hx0 hx _ hT).mono ?_
  rintro e w' ⟨l, rfl, hl, rfl⟩
  go_wp2
  go_ret
  exact ⟨_, rfl, hl, rfl⟩
theorem low_unique {V : Int} {l k : Nat} (h : IsLow V l) (h' : IsLow V k) : l = k := by
  have key : ∀ (l k : Nat) (V : Int), IsLow V l → IsLow V k → ¬ l < k := fun l k V ⟨m, hm⟩ ⟨m', hm'⟩ hlt => by
    obtain ⟨d, rfl⟩ : ∃ d, k = l + 1 + d := ⟨k - l - 1, by omega⟩
    rw [hm, Int.pow_add, Int.pow_add] at hm'
    have e : (2 * m + 1) * 2 ^ l = ((2 * m' + 1) * (2 ^ d * 2)) * 2 ^ l := by rw [hm']; grind
    have e2 := Int.eq_of_mul_eq_mul_right (Int.ne_of_gt (two_pos l)) e
    have e3 : (2 * m' + 1) * (2 ^ d * 2) = 2 * ((2 * m' + 1) * 2 ^ d) := by grind
    rw [e3] at e2
    generalize (2 * m' + 1) * 2 ^ d = Z at e2
    omega
  rcases Nat.lt_trichotomy l k with q | q | q
  · exact absurd q (key l k V h h')
  · exact q
  · exact absurd q (key k l V h' h)
theorem low_shift {V : Int} {l k : Nat} (h : IsLow V l) : IsLow (V * 2 ^ k) (l + k) := by
  obtain ⟨m, rfl⟩ := h
  exact ⟨m, by rw [Int.pow_add, Int.mul_assoc]⟩
theorem isLow_val {d : Nat → Int} {n i l : Nat} (hi : i < n) (hz : ∀ j, j < i → d j = 0) (h : IsLow (d i) l) (hl : l < 30) : IsLow (val d n) (30 * i + l) := by
  obtain ⟨m, hm⟩ := h
  have e1 : val d n = P i * val (fun j => d (i + j)) (n - i) := by
    have := val_shift0 d i (n - i) hz
    rwa [show i + (n - i) = n by omega] at this
  obtain ⟨r, hr⟩ : ∃ r, n - i = r + 1 := ⟨n - i - 1, by omega⟩
  have e2 : val (fun j => d (i + j)) (n - i) = d i + 1073741824 * val (fun j => d (i + (j + 1))) r := by
    rw [hr]
    have h := val_split (fun j => d (i + j)) 1 r
    rw [Nat.add_comm 1 r] at h
    rw [h]
    have e : (fun j => d (i + (1 + j))) = fun j => d (i + (j + 1)) := by funext j; rw [Nat.add_comm 1 j]
    show 0 + d (i + 0) * 1 + 1 * 1073741824 * _ = _
    rw [e, Nat.add_zero]; omega
  have e3 : (1073741824 : Int) = 2 ^ l * (2 * 2 ^ (29 - l)) := by
    rw [← Int.mul_assoc, Int.mul_comm (2 ^ l) 2, Int.mul_assoc, ← Int.pow_add, show l + (29 - l) = 29 by omega]; rfl
  refine ⟨m + 2 ^ (29 - l) * val (fun j => d (i + (j + 1))) r, ?_⟩
  rw [e1, e2, hm, e3, Int.pow_add, ← P_two]
  grind
theorem low_lt {x : Int} {l : Nat} (h0 : 0 < x) (h1 : x < 1073741824) (h : IsLow x l) : l < 30 := by
  obtain ⟨m, hm⟩ := h
  rcases Nat.lt_or_ge l 30 with q | q
  · exact q
  · have h2 : (2 : Int) ^ 30 ≤ 2 ^ l := two_le q
    have h3 : 0 < 2 * m + 1 := by
      rcases Int.lt_or_le 0 (2 * m + 1) with r | r
      · exact r
      · have := Int.mul_nonneg (show 0 ≤ -(2 * m + 1) by omega) (Int.le_of_lt (two_pos l))
        rw [Int.neg_mul, ← hm] at this
        omega
    have h4 : 1 * 2 ^ l ≤ (2 * m + 1) * 2 ^ l := mul_le_r (by omega) (Int.le_of_lt (two_pos l))
    have h5 : (2 : Int) ^ 30 = 1073741824 := rfl
    omega
/-- What lowest tells. -/
def LowA (V l : Int) : Prop := (V = 0 ∧ l = -1) ∨ ∃ k : Nat, l = k ∧ IsLow V k
set_option maxHeartbeats 400000 in
theorem lowest_any (ao : Option Addr) (n cap : Nat) (d : Nat → Int) (w : World) (h : Row w ao n cap d) (hd : Dig d n) (hn : n ≤ 100000) (hT : Tab w) :
    Calls Tryz.prog 102 #[.slice ao n cap] w fun e w' => ∃ l, e = .returned (.int .i64 l) ∧ LowA (val d n) l ∧ w' = w := by
  have hl := h.le
  have hm := h.max
  go_enter Tryz.func102, Tryz.ntmps102
  go_wp2
  go_loop [6] (fun i => ∃ k : Nat, k ≤ n ∧ i = .int .i64 k ∧ Hid (∀ j, j < k → d j = 0)) (fun i => n - (intOf i).toNat)
  case atStart => exact ⟨0, Nat.zero_le _, rfl, fun j hj => by omega⟩
  case round =>
    obtain ⟨k, hk, rfl, HZ⟩ := hrel
    by_cases hlt : k < n
    · obtain ⟨b, off, rfl, hb, hc⟩ := h.spot (by omega)
      have c := hc k hlt
      have dk := hd k hlt
      by_cases hz : d k = 0
      · go_wp2
        go_round
        case rel => exact ⟨k + 1, by omega, by go_num, fun j hj => by by_cases e : j = k; (· rw [e]; exact hz); (· exact HZ.out j (by omega))⟩
        case measure => simp [intOf]; omega
      · have hp : 0 < d k := by omega
        go_wp2_with fail
        refine (trailing (d k) hp dk.2 _ hT).mono ?_
        rintro e w' ⟨l, rfl, ⟨hl64, hlow⟩, rfl⟩
        go_wp2
        go_ret
        exact ⟨_, rfl, .inr ⟨30 * k + l, by omega, isLow_val hlt HZ.out hlow (low_lt hp dk.2 hlow)⟩, rfl⟩
    · obtain rfl : k = n := by omega
      go_wp2
      go_ret
      exact ⟨_, rfl, .inl ⟨val_zeros (Nat.zero_le k) (fun i _ hi => HZ.out i hi), rfl⟩, rfl⟩
/-- Is bit i set? -/
def bitB (V : Int) (i : Nat) : Bool := V / 2 ^ i % 2 == 1
theorem bit_val {d : Nat → Int} {n q p : Nat} (hd : Dig d n) (hq : q < n) (hp : p < 30) : val d n / 2 ^ (30 * q + p) % 2 = d q / 2 ^ p % 2 := by
  have hpw := P_pos q
  rw [Int.pow_add, ← P_two, ← Int.ediv_ediv_of_nonneg (Int.le_of_lt hpw), ← val_drop d (by omega) hd]
  obtain ⟨r, hr⟩ : ∃ r, n - q = r + 1 := ⟨n - q - 1, by omega⟩
  have h := val_split (fun j => d (q + j)) 1 r
  rw [Nat.add_comm 1 r] at h
  rw [hr, h]
  have e3 : (1073741824 : Int) = 2 * 2 ^ (29 - p) * 2 ^ p := by
    rw [Int.mul_assoc, ← Int.pow_add, show 29 - p + p = 29 by omega]; rfl
  have e4 : val (fun j => d (q + j)) 1 + P 1 * val (fun i => d (q + (1 + i))) r = d q + (2 * 2 ^ (29 - p) * val (fun i => d (q + (1 + i))) r) * 2 ^ p := by
    show 0 + d (q + 0) * 1 + 1 * 1073741824 * _ = _
    rw [Nat.add_zero, e3]; grind
  rw [e4, Int.add_mul_ediv_right _ _ (Int.ne_of_gt (two_pos p)), Int.mul_assoc 2, Int.add_mul_emod_self_left]
theorem bit_high {V : Int} {i : Nat} (h0 : 0 ≤ V) (h : blen V ≤ i) : bitB V i = false := by
  have h1 := blen_lt V
  have h2 : (2 : Int) ^ blen V ≤ 2 ^ i := two_le h
  unfold bitB
  rw [Int.ediv_eq_zero_of_lt h0 (Int.lt_of_lt_of_le h1 h2)]; rfl
end Go.Proofs.YtcpjdgfnblkfpaaGreatDoor
