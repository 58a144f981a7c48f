/-
  Package digits: Pile, by its contract: a number is put onto columns, each column turned by less than 2^30; raise by it.
-/
import Derived.Test.YtcpjdgfnblkfpaaGreatDoorNW1
import Derived.Test.YtcpjdgfnblkfpaaGreatDoorNShM
import Derived.Test.YtcpjdgfnblkfpaaGreatDoorNWr
import Derived.Deep.Cut
import Derived.BigRegion
namespace Go.Proofs.YtcpjdgfnblkfpaaGreatDoor
open Go Go.RowKit Go.Proofs.YtcpjdgfnblkfpaaGreatDoor.M
set_option linter.unusedSimpArgs false
set_option linter.unusedVariables false

theorem upd_shift (r : Nat → Int) (q k : Nat) (x : Int) : (fun i => upd r (q + k) x (q + i)) = upd (fun i => r (q + i)) k x := by
  funext i
  unfold upd
  by_cases h : i = k
  · simp [h]
  · simp [h]
theorem shl_dig {x : Int} {p : Nat} (hx : 0 ≤ x ∧ x < 1073741824) (hp : p ≤ 30) : 0 ≤ x * 2 ^ p ∧ x * 2 ^ p ≤ 1073741823 * 2 ^ p ∧ (2 : Int) ^ p ≤ 1073741824 := by
  have h := two_pos p
  exact ⟨Int.mul_nonneg hx.1 (by omega), Int.mul_le_mul_of_nonneg_right (by omega) (by omega), two_le hp⟩

/-- What stands on the columns when k digits of a were put there. -/
structure PileI (q p N n : Nat) (a r0 : Nat → Int) (s : Int) (k : Nat) (c : Int) (r : Nat → Int) : Prop where
  rest : ∀ i, q + k ≤ i → r i = r0 i
  near : ∀ i, 0 ≤ s * (r i - r0 i) ∧ s * (r i - r0 i) < 1073741824
  sum : ∃ T, val r N = val r0 N + s * (P q * T) ∧ T + c * P k = 2 ^ p * val a k
theorem PileI.put {q p N n : Nat} {a r0 : Nat → Int} {s : Int} {k : Nat} {c : Int} {r : Nat → Int} (h : PileI q p N n a r0 s k c r) (hs : s * s = 1) (hN : q + k < N) {m c' : Int} (hm : 0 ≤ m ∧ m < 1073741824) (e : m + c' * 1073741824 = c + a k * 2 ^ p) :
    PileI q p N n a r0 s (k + 1) c' (upd r (q + k) (r (q + k) + s * m)) := by
  refine ⟨fun i hi => by rw [upd_other r _ (by omega)]; exact h.rest i (by omega), fun i => ?_, ?_⟩
  · by_cases hi : i = q + k
    · subst hi
      rw [upd_same, h.rest _ (Nat.le_refl _), show s * (r0 (q + k) + s * m - r0 (q + k)) = s * s * m by grind, hs]
      omega
    · rw [upd_other r _ hi]; exact h.near i
  · obtain ⟨T, e1, e2⟩ := h.sum
    refine ⟨T + m * P k, ?_, ?_⟩
    · rw [val_upd r _ hN, e1, P_add]; grind
    · rw [val_succ, P_succ]
      have : c' * (P k * 1073741824) = (c + a k * 2 ^ p - m) * P k := by rw [show c + a k * 2 ^ p - m = c' * 1073741824 by omega]; grind
      rw [this, show T + m * P k + (c + a k * 2 ^ p - m) * P k = (T + c * P k) + a k * 2 ^ p * P k by grind, e2]; grind
/-- The columns behind it. -/
structure Piled (N : Nat) (r0 : Nat → Int) (s V : Int) (r : Nat → Int) : Prop where
  near : ∀ i, 0 ≤ s * (r i - r0 i) ∧ s * (r i - r0 i) < 1073741824
  sum : val r N = val r0 N + s * V
theorem PileI.done {q p N n : Nat} {a r0 : Nat → Int} {s : Int} {c : Int} {r : Nat → Int} (h : PileI q p N n a r0 s n c r) (hs : s * s = 1) (hN : q + n < N) (hc : 0 ≤ c ∧ c < 1073741824) :
    Piled N r0 s (P q * (2 ^ p * val a n)) (upd r (q + n) (r (q + n) + s * c)) := by
  refine ⟨fun i => ?_, ?_⟩
  · by_cases hi : i = q + n
    · subst hi
      rw [upd_same, h.rest _ (Nat.le_refl _), show s * (r0 (q + n) + s * c - r0 (q + n)) = s * s * c by grind, hs]
      omega
    · rw [upd_other r _ hi]; exact h.near i
  · obtain ⟨T, e1, e2⟩ := h.sum
    rw [val_upd r _ hN, e1, P_add, ← e2]; grind
theorem pile_near {s x y C : Int} (hs : s = 1 ∨ s = -1) (h : 0 ≤ s * (x - y) ∧ s * (x - y) < 1073741824) (hy : -C ≤ y ∧ y ≤ C) : -(C + 1073741823) ≤ x ∧ x ≤ C + 1073741823 := by
  rcases hs with rfl | rfl <;> omega
theorem sgn_mul {s m : Int} (hs : s = 1 ∨ s = -1) (hm : 0 ≤ m ∧ m < 1073741824) : -1073741823 ≤ s * m ∧ s * m ≤ 1073741823 := by
  rcases hs with rfl | rfl <;> omega
theorem sgn_sq {s : Int} (hs : s = 1 ∨ s = -1) : s * s = 1 := by rcases hs with rfl | rfl <;> rfl

set_option maxHeartbeats 1000000 in
theorem pile_qp (g N : Nat) (r0 : Nat → Int) (ao : Option Addr) (n ca q p : Nat) (a : Nat → Int) (w : World) (hB0 : Blk w g N r0) (ha : RowX g w ao n ca a) (da : Dig a n) (hn : n ≤ 100000) (hqN : q + n + 1 ≤ N) (hNm : N ≤ 1000000) (hp : p < 30) (k : Int) (hk : k = 30 * q + p)
    (s : Int) (hs : s = 1 ∨ s = -1) (C : Int) (hC0 : ∀ i, i < N → -C ≤ r0 i ∧ r0 i ≤ C) (hC1 : C ≤ 4611686018427387904) :
    Calls Tryz.prog 98 #[.slice (some ⟨g, 0, none⟩) N N, .slice ao n ca, .int .i64 k, .int .i64 s] w fun e w' => e = .returned (.tuple #[]) ∧ ∃ r, Blk w' g N r ∧ Wr g w w' ∧ Piled N r0 s (P q * (2 ^ p * val a n)) r := by
  have hla := ha.le
  have hma := ha.max
  have e1 : k / 30 = q := by omega
  have e2 : k % 30 = p := by omega
  have hk0 : 0 ≤ k := by omega
  have hk1 : k ≤ 40000000 := by omega
  clear hk
  have hu := two_pos p
  have hu2 : (2 : Int) ^ p ≤ 2 ^ 29 := two_le (by omega)
  have HC : Hid (∀ i, i < N → -C ≤ r0 i ∧ r0 i ≤ C) := hC0
  have hss := sgn_sq hs
  have HS : Hid (s = 1 ∨ s = -1) := hs
  clear hC0 hs
  go_enter Tryz.func98, Tryz.ntmps98
  go_wp2
  go_loopw [10, 18] (fun c i wr => ∃ (k : Nat) (c' : Int) (r : Nat → Int), k ≤ n ∧ i = .int .i64 k ∧ c = .int .i64 c' ∧ 0 ≤ c' ∧ c' < 2 ^ p ∧ Blk wr g N r ∧ Hid (PileI q p N n a r0 s k c' r) ∧ Wr g w wr) (fun _ i _ => n - (intOf i).toNat)
  case atStart => exact ⟨0, 0, r0, Nat.zero_le _, rfl, rfl, by omega, hu, hB0, ⟨fun _ _ => rfl, fun i => by rw [Int.sub_self, Int.mul_zero]; omega, 0, by rw [Int.mul_zero, Int.mul_zero, Int.add_zero], by show (0 : Int) + 0 * 1 = 2 ^ p * 0; omega⟩, Wr.refl _ _⟩
  case round =>
    obtain ⟨k, c, r, hk, rfl, rfl, hc0, hc1, hB, HI, hW⟩ := hrel
    have hcap : -4611686018427387904 - 1073741823 ≤ r (q + k) ∧ r (q + k) ≤ 4611686018427387904 + 1073741823 := by
      have h1 := HC.out (q + k) (by omega)
      have h2 := HI.out.rest (q + k) (Nat.le_refl _)
      rw [h2]; omega
    by_cases hlt : k < n
    · obtain ⟨ba, fa, rfl, hba, hbg, hca⟩ := ha.spot (by omega)
      have c1 := (hW.cell (p := ⟨ba, fa + k, none⟩) hba hbg).trans (hca k hlt)
      have cg := hB.cell (show q + k < N by omega)
      have fg := hB.frozen (q + k)
      have dk := da k hlt
      obtain ⟨s0, s1, s2⟩ := shl_dig dk (show p ≤ 30 by omega)
      have hw : wrap64 (a k * 2 ^ p) = a k * 2 ^ p := IntWalk.wrap64_in _ ⟨by omega, by omega⟩
      have hor : bits .or .i64 c (a k * 2 ^ p) = c + a k * 2 ^ p := or_add c (a k) p hc0 hc1 dk.1 (by omega)
      have h30 := and_30 (c + a k * 2 ^ p)
      have hm := mod_dig (c + a k * 2 ^ p)
      have hc2 : (c + a k * 2 ^ p) / 1073741824 < 2 ^ p := by omega
      have hc3 : 0 ≤ (c + a k * 2 ^ p) / 1073741824 := by omega
      obtain ⟨m0, m1⟩ := sgn_mul HS.out hm
      have e4 : (c + a k * 2 ^ p) % 1073741824 + (c + a k * 2 ^ p) / 1073741824 * 1073741824 = c + a k * 2 ^ p := by omega
      have HI2 : Hid (PileI q p N n a r0 s (k + 1) ((c + a k * 2 ^ p) / 1073741824) (upd r (q + k) (r (q + k) + s * ((c + a k * 2 ^ p) % 1073741824)))) := HI.out.put hss (by omega) hm e4
      clear e4
      generalize hM : (c + a k * 2 ^ p) % 1073741824 = M at *
      generalize hSM : s * M = SM at *
      go_wp2
      go_roundw
      case rel => exact ⟨k + 1, _, _, by omega, by go_num, rfl, hc3, hc2, hB.store (q + k) _, HI2, hW.setCell _ _⟩
      case measure => simp [intOf]; omega
    · obtain rfl : k = n := by omega
      have cg := hB.cell (show q + k < N by omega)
      have fg := hB.frozen (q + k)
      have hc4 : c < 1073741824 := by omega
      obtain ⟨m0, m1⟩ := sgn_mul HS.out ⟨hc0, hc4⟩
      have HD : Hid (Piled N r0 s (P q * (2 ^ p * val a k)) (upd r (q + k) (r (q + k) + s * c))) := HI.out.done hss (by omega) ⟨hc0, hc4⟩
      generalize hSM : s * c = SM at *
      go_wp2
      first | go_end0 | refine bodyPost_ret (results_none rfl _ _ _) rfl ?_
      exact ⟨rfl, _, hB.store (q + k) _, hW.setCell _ _, HD.out⟩
end Go.Proofs.YtcpjdgfnblkfpaaGreatDoor
