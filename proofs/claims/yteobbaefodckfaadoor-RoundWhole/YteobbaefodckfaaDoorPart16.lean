/-
  Parts of the proof, one behind another.
-/
import Derived.Test.YteobbaefodckfaaDoorPart15
import Derived.Test.YteobbaefodckfaaDoorPart13
import Derived.Test.YteobbaefodckfaaDoorPart12
import Derived.Test.YteobbaefodckfaaDoorPart11
/-
  Mathematics of whole numbers: a float's whole units, ints as floats, the order of floats in the model.
-/
namespace Go.Proofs.YteobbaefodckfaaDoor.M
open Go Ieee
set_option linter.unusedSimpArgs false
set_option linter.unusedVariables false

theorem left_u {A q : Int} {u v : Nat} {l k : Int} (h : Left A u q l) (g : Left A v q k) : ¬ u < v := fun c => by
  have h1 := h.hi
  have h2 := g.lo
  have hq : 0 < q := by have := h.lo; omega
  have h3 : ((u : Int) + 1) * q ≤ (v : Int) * q := Int.mul_le_mul_of_nonneg_right (by omega) (by omega)
  rw [Int.add_mul, Int.one_mul] at h3
  omega
theorem Left.unique {A q : Int} {u v : Nat} {l k : Int} (h : Left A u q l) (g : Left A v q k) : u = v ∧ l = k := by
  have e : u = v := by
    have h1 := left_u h g
    have h2 := left_u g h
    omega
  subst e
  refine ⟨rfl, ?_⟩
  have lo := h.lo
  have hi := h.hi
  obtain ⟨T, hT⟩ : ∃ T, (u : Int) * q = T := ⟨_, rfl⟩
  rw [hT] at lo hi
  have a0 := h.l0
  have a1 := h.l1
  have a2 := h.l2
  have a3 := h.l3
  have b0 := g.l0
  have b1 := g.l1
  have b2 := g.l2
  have b3 := g.l3
  rw [hT] at a0 a1 a2 a3 b0 b1 b2 b3
  by_cases c0 : A = T
  · rw [a0.2 c0, b0.2 c0]
  · by_cases c1 : 2 * A < 2 * T + q
    · rw [a1.2 ⟨by omega, c1⟩, b1.2 ⟨by omega, c1⟩]
    · by_cases c2 : 2 * A = 2 * T + q
      · rw [a2.2 c2, b2.2 c2]
      · rw [a3.2 (by omega), b3.2 (by omega)]
theorem left_kinds {A q : Int} {u : Nat} {l : Int} (h : Left A u q l) : l = 0 ∨ l = 1 ∨ l = 2 ∨ l = 3 := by
  have lo := h.lo
  have a0 := h.l0
  have a1 := h.l1
  have a2 := h.l2
  have a3 := h.l3
  generalize (u : Int) * q = T at *
  by_cases c0 : A = T
  · exact .inl (a0.2 c0)
  · by_cases c1 : 2 * A < 2 * T + q
    · exact .inr (.inl (a1.2 ⟨by omega, c1⟩))
    · by_cases c2 : 2 * A = 2 * T + q
      · exact .inr (.inr (.inl (a2.2 c2)))
      · exact .inr (.inr (.inr (a3.2 (by omega))))
/-- What is whole has nothing left. -/
theorem left_whole {q : Int} (k : Nat) (hq : 0 < q) : Left ((k : Int) * q) k q 0 := by
  refine ⟨by omega, by omega, by simp, ?_, ?_, ?_⟩ <;> constructor <;> intro h <;> omega
/-- The units, raised or not. -/
def upU (way : Int) (ng : Bool) (u : Nat) (left : Int) : Nat := u + (if rUp way ng (decide (u % 2 = 1)) left then 1 else 0)
/-- Is there an int? -/
def tiB (ng : Bool) (U : Nat) : Bool := if ng then decide (U ≤ 9223372036854775808) else decide (U < 9223372036854775808)
def tiN (ng : Bool) (U : Nat) : Int := if tiB ng U then sg ng (U : Int) else 0
theorem tiB_big {ng : Bool} {U : Nat} (h : 9223372036854775808 < U) : tiB ng U = false := by
  unfold tiB
  cases ng <;> simp <;> omega
theorem rU_big {mag : Nat} {exp : Int} (h0 : mag ≠ 0) (hm : mag < 9007199254740992) (h : 64 < exp + (Lib.bitLen mag : Int)) : 18446744073709551616 ≤ rU mag (0 - exp) := by
  obtain ⟨b1, b2, b3, b4⟩ := M.bitLen_spec mag (Nat.lt_trans hm (by decide)) h0
  have hb : Lib.bitLen mag ≤ 53 := by
    have e : (2 : Nat) ^ 53 = 9007199254740992 := by decide
    have := (Nat.pow_lt_pow_iff_right (by decide : 1 < 2)).1 (Nat.lt_of_le_of_lt b1 (show mag < 2 ^ 53 by omega))
    omega
  unfold rU
  rw [if_pos (by omega)]
  have e64 : (2 : Nat) ^ 64 = 18446744073709551616 := by decide
  have h1 : 2 ^ (Lib.bitLen mag - 1) * 2 ^ (-(0 - exp)).toNat ≤ mag * 2 ^ (-(0 - exp)).toNat := Nat.mul_le_mul_right _ b1
  rw [← Nat.pow_add] at h1
  have h2 : 2 ^ 64 ≤ 2 ^ (Lib.bitLen mag - 1 + (-(0 - exp)).toNat) := Nat.pow_le_pow_right (by decide) (by omega)
  omega
theorem rU_fit {mag : Nat} {exp : Int} (hm : mag < 9007199254740992) (h : exp + (Lib.bitLen mag : Int) ≤ 64) : rU mag (0 - exp) < 18446744073709551615 := by
  unfold rU
  by_cases h0 : mag = 0
  · subst h0; split <;> simp
  obtain ⟨b1, b2, b3, b4⟩ := M.bitLen_spec mag (Nat.lt_trans hm (by decide)) h0
  have e64 : (2 : Nat) ^ 64 = 18446744073709551616 := by decide
  by_cases hs : 0 - exp ≤ 0
  · rw [if_pos hs]
    by_cases hz : exp = 0
    · subst hz; simp; omega
    · obtain ⟨k, hk⟩ : ∃ k, (-(0 - exp)).toNat = k + 1 := ⟨exp.toNat - 1, by omega⟩
      rw [hk]
      have h1 : mag * 2 ^ (k + 1) < 2 ^ Lib.bitLen mag * 2 ^ (k + 1) := Nat.mul_lt_mul_of_pos_right b2 (Nat.two_pow_pos _)
      rw [← Nat.pow_add] at h1
      have h2 : 2 ^ (Lib.bitLen mag + (k + 1)) ≤ 2 ^ 64 := Nat.pow_le_pow_right (by decide) (by omega)
      have h3 : mag * 2 ^ (k + 1) = 2 * (mag * 2 ^ k) := by rw [Nat.pow_succ, Nat.mul_comm (2 ^ k) 2, ← Nat.mul_assoc, Nat.mul_comm mag 2, Nat.mul_assoc]
      omega
  · rw [if_neg hs]
    have := Nat.div_le_self mag (2 ^ (0 - exp).toNat)
    omega
theorem cmp_mul {a b q : Int} (hq : 0 < q) : compare (a * q) (b * q) = compare a b := by
  have h1 : a * q < b * q ↔ a < b := ⟨fun h => Int.lt_of_mul_lt_mul_right h (by omega), fun h => Int.mul_lt_mul_of_pos_right h hq⟩
  have h2 : a * q = b * q ↔ a = b := ⟨fun h => Int.eq_of_mul_eq_mul_right (by omega) h, fun h => by rw [h]⟩
  show compareOfLessAndEq (a * q) (b * q) = compareOfLessAndEq a b
  unfold compareOfLessAndEq
  simp only [h1, h2]
theorem cmp_le {a b : Int} : (some (compare a b) == some Ordering.lt || some (compare a b) == some Ordering.eq) = decide (a ≤ b) := by
  show (some (compareOfLessAndEq a b) == some Ordering.lt || some (compareOfLessAndEq a b) == some Ordering.eq) = _
  unfold compareOfLessAndEq
  by_cases h1 : a < b
  · rw [if_pos h1, decide_eq_true (by omega)]; rfl
  · rw [if_neg h1]
    by_cases h2 : a = b
    · rw [if_pos h2, decide_eq_true (by omega)]; rfl
    · rw [if_neg h2, decide_eq_false (by omega)]; rfl
theorem cmp_ge {a b : Int} : (some (compare a b) == some Ordering.gt || some (compare a b) == some Ordering.eq) = decide (b ≤ a) := by
  show (some (compareOfLessAndEq a b) == some Ordering.gt || some (compareOfLessAndEq a b) == some Ordering.eq) = _
  unfold compareOfLessAndEq
  by_cases h1 : a < b
  · rw [if_pos h1, decide_eq_false (by omega)]; rfl
  · rw [if_neg h1]
    by_cases h2 : a = b
    · rw [if_pos h2, decide_eq_true (by omega)]; rfl
    · rw [if_neg h2, decide_eq_true (by omega)]; rfl
theorem cmp_eq {a b : Int} : (some (compare a b) == some Ordering.eq) = decide (a = b) := by
  show (some (compareOfLessAndEq a b) == some Ordering.eq) = _
  unfold compareOfLessAndEq
  by_cases h1 : a < b
  · rw [if_pos h1, decide_eq_false (by omega)]; rfl
  · rw [if_neg h1]
    by_cases h2 : a = b
    · rw [if_pos h2, decide_eq_true (by omega)]; rfl
    · rw [if_neg h2, decide_eq_false (by omega)]; rfl
end Go.Proofs.YteobbaefodckfaaDoor.M
namespace Go.Proofs.YteobbaefodckfaaDoor
open Go Go.RowKit Go.Proofs.YteobbaefodckfaaDoor.M Ieee
set_option linter.unusedSimpArgs false
set_option linter.unusedVariables false
theorem order_wd {p q : Int} (hp : rng p) (hq : rng q) (pp : pok p = true) (pq : pok q = true) : Ieee.double.order (wd p) (wd q) = some (compare (patV p) (patV q)) := by
  obtain ⟨m, u, r1, v1⟩ := read_wd hp pp
  obtain ⟨n, v, r2, v2⟩ := read_wd hq pq
  unfold Ieee.Format.order
  rw [r1, r2]
  show some (compare (signed (decide (p < 0)) m (-1074 + (u : Int) - min (-1074 + (u : Int)) (-1074 + (v : Int))).toNat) (signed (decide (q < 0)) n (-1074 + (v : Int) - min (-1074 + (u : Int)) (-1074 + (v : Int))).toNat)) = _
  have hb : -4194304 ≤ min (-1074 + (u : Int)) (-1074 + (v : Int)) := by omega
  have s1 := signed_pw (decide (p < 0)) m (-1074 + (u : Int) - min (-1074 + (u : Int)) (-1074 + (v : Int))).toNat (i := -1074 + (u : Int)) (base := min (-1074 + (u : Int)) (-1074 + (v : Int))) (by omega) hb
  have s2 := signed_pw (decide (q < 0)) n (-1074 + (v : Int) - min (-1074 + (u : Int)) (-1074 + (v : Int))).toNat (i := -1074 + (v : Int)) (base := min (-1074 + (u : Int)) (-1074 + (v : Int))) (by omega) hb
  rw [v1, v2, ← s1, ← s2, cmp_mul (pw_pos _)]
/-- An int that is a float, as Go's floats. -/
theorem int_wd {n : Int} {r : Nat} (h : (n.natAbs : Int) * pw 0 = vS r) (hr : (r : Int) < 9218868437227405312) : FloatKind.f64.nearest n = wd (patS (decide (n < 0)) r) := by
  by_cases h0 : n = 0
  · subst h0
    have hz : vS r = vS 0 := by rw [← h, vS_zero]; simp
    have : r = 0 := by
      rcases Nat.eq_zero_or_pos r with h1 | h1
      · exact h1
      · have := vS_lt h1; omega
    subst this
    rfl
  · have hn : n.natAbs ≠ 0 := by omega
    obtain ⟨r0, left, hR, e⟩ := nearest_rung (decide (n < 0)) hn (place := 0) (by decide)
    have hR2 : Rung (vS r) r 0 := by
      have h1 := vS_lt (show r < r + 1 by omega)
      refine ⟨by omega, by omega, by simp, ?_, ?_, ?_⟩ <;> constructor <;> intro h <;> omega
    rw [h] at hR
    obtain ⟨e1, e2⟩ := hR.unique hR2
    subst e1 e2
    have e3 : rTo 0 (decide (n < 0)) r0 0 = (r0 : Int) := by
      unfold rTo
      rw [if_pos hr, if_neg (fun c => rUp_left c)]
      omega
    rw [e3] at e
    rw [← wd_word (by omega) (by omega), ← e]
    rfl
theorem k_mulS (m k : Nat) (q : Int) : ((m * 2 ^ k : Nat) : Int) * q = (m : Int) * (2 ^ k * q) := by
  rw [Int.natCast_mul, Int.mul_assoc]
  congr 2
theorem small_rung {m : Nat} (h : m < 9007199254740992) : ∃ r : Nat, (m : Int) * pw 0 = vS r ∧ (r : Int) < 9218868437227405312 := by
  by_cases h0 : m = 0
  · exact ⟨0, by rw [h0, vS_zero]; simp, by decide⟩
  obtain ⟨b1, b2, b3, b4⟩ := M.bitLen_spec m (Nat.lt_trans h (by decide)) h0
  have e53 : (2 : Nat) ^ 53 = 9007199254740992 := by decide
  have e52 : (2 : Nat) ^ 52 = 4503599627370496 := by decide
  have hb : Lib.bitLen m ≤ 53 := by
    have := (Nat.pow_lt_pow_iff_right (by decide : 1 < 2)).1 (Nat.lt_of_le_of_lt b1 (show m < 2 ^ 53 by omega))
    omega
  obtain ⟨L, hL⟩ : ∃ L, Lib.bitLen m = L := ⟨_, rfl⟩
  rw [hL] at b1 b2 b3 hb
  obtain ⟨d, hd⟩ : ∃ d, 53 = L + d := ⟨53 - L, by omega⟩
  have n1 : 4503599627370496 ≤ m * 2 ^ d := by
    have := Nat.mul_le_mul_right (2 ^ d) b1
    rw [← Nat.pow_add, show L - 1 + d = 52 by omega, e52] at this
    exact this
  have n2 : m * 2 ^ d < 9007199254740992 := by
    have := Nat.mul_lt_mul_of_pos_right b2 (Nat.two_pow_pos d)
    rw [← Nat.pow_add, ← hd, e53] at this
    exact this
  have hV := V_parts Ieee.double (1074 - d) (m * 2 ^ d) (.inr ⟨by rw [dBin]; exact n1, by rw [dBin]; omega⟩)
  rw [dBin] at hV
  have e : m * 2 ^ d * 2 ^ (1074 - d) = m * 2 ^ 1074 := by
    rw [Nat.mul_assoc, ← Nat.pow_add, show d + (1074 - d) = 1074 by omega]
  rw [e] at hV
  refine ⟨(1074 - d) * 4503599627370496 + m * 2 ^ d, ?_, by omega⟩
  unfold vS
  rw [hV]
  have hp : pw 0 = 2 ^ (0 - (-1074) : Int).toNat * pw (-1074) := pw_sub (by decide) (by decide)
  rw [hp, show (0 - (-1074) : Int).toNat = 1074 by decide]
  exact (k_mulS _ _ _).symm
end Go.Proofs.YteobbaefodckfaaDoor

/-
  Package round: value.whole, ToInt, FromInt, by their contracts.
-/
namespace Go.Proofs.YteobbaefodckfaaDoor
open Go Go.RowKit Go.Proofs.YteobbaefodckfaaDoor.M Ieee
set_option linter.unusedSimpArgs false
set_option linter.unusedVariables false

theorem wrap_tiF {U : Nat} (hU : U < 18446744073709551616) : IntKind.i64.wrap (U : Int) = if U < 9223372036854775808 then (U : Int) else (U : Int) - 18446744073709551616 := by
  rw [wrap_i64_eq]; split <;> omega
theorem wrap_tiT {U : Nat} (hU : U < 18446744073709551616) : IntKind.i64.wrap (IntKind.u64.wrap (-(U : Int))) = if U ≤ 9223372036854775808 then -(U : Int) else 18446744073709551616 - (U : Int) := by
  rw [IntKind.wrap_u64, wrap_i64_eq]; split <;> omega
theorem ret_tib {a : Int} {x : Bool} {b : Int} {y : Bool} (h : a = b) (g : x = y) : Ending.returned (.tuple #[.int .i64 a, .bool x]) = Ending.returned (.tuple #[.int .i64 b, .bool y]) := by rw [h, g]
set_option maxRecDepth 100000 in
set_option maxHeartbeats 1000000 in
theorem whole_F (F : Nat) (ng : Bool) (mag : Nat) (exp : Int) (U : Nat) (other : Bool) (w : World) (hm : mag < 9007199254740992) (he : -1100 ≤ exp ∧ exp ≤ 1100)
    (hU : exp + (Lib.bitLen mag : Int) ≤ 64 → U < 18446744073709551616) (hU2 : 64 < exp + (Lib.bitLen mag : Int) → tiB ng U = false)
    (hC : exp + (Lib.bitLen mag : Int) ≤ 64 → ∀ W, Calls Tryd.prog 27 #[valV ng mag exp false false, .int .i64 0, .agg #[.func (.func F) #[] #[]]] W fun e w' => e = .returned (.tuple #[.int .u64 (U : Nat), .bool other]) ∧ Below W.heap.size W w') :
    Calls Tryd.prog 12 #[valV ng mag exp false false, .agg #[.func (.func F) #[] #[]]] w fun e w' => e = .returned (.tuple #[.int .i64 (tiN ng U), .bool (tiB ng U)]) ∧ Below w.heap.size w w' := by
  unfold valV at *
  have hb2 := bel_alloc2 w (.cells #[.bool ng, .int .u64 mag, .int .i64 exp, .bool false, .bool false] 40) (.cells #[.func (.func F) #[] #[]] 34)
  have q0 := heap_a2 w (.cells #[.bool ng, .int .u64 mag, .int .i64 exp, .bool false, .bool false] 40) (.cells #[.func (.func F) #[] #[]] 34)
  have q1 := heap_b2 w (.cells #[.bool ng, .int .u64 mag, .int .i64 exp, .bool false, .bool false] 40) (.cells #[.func (.func F) #[] #[]] 34)
  have k0 := blkC q0 0 rfl
  have k1 := blkC q0 1 rfl
  have k2 := blkC q0 2 rfl
  have k3 := blkC q0 3 rfl
  have k4 := blkC q0 4 rfl
  have kw := blkC q1 0 rfl
  have hbl : Lib.bitLen mag ≤ 64 := by
    by_cases h0 : mag = 0
    · rw [h0]; decide
    · exact (M.bitLen_spec mag (by have e64 : (2 : Nat) ^ 64 = 18446744073709551616 := by decide
                                   omega) h0).2.2.2
  obtain ⟨L, hL⟩ : ∃ L : Int, (Lib.bitLen mag : Int) = L := ⟨_, rfl⟩
  have hL2 : (Lib.bitLen ((mag : Int)).toNat : Int) = L := by rw [Int.toNat_natCast]; exact hL
  have hL0 : 0 ≤ L ∧ L ≤ 64 := by omega
  rw [hL] at hC hU hU2
  have w1 : IntKind.i64.wrap (exp + L) = exp + L := by rw [wrap_i64_eq]; omega
  go_enter Tryd.func12, Tryd.ntmps12
  go_wp2_with fail
  generalize (w.alloc (.cells #[.bool ng, .int .u64 mag, .int .i64 exp, .bool false, .bool false] 40)).alloc (.cells #[.func (.func F) #[] #[]] 34) = wx at hb2 q0 q1 k0 k1 k2 k3 k4 kw ⊢
  go_region_held3 (fun W => W.cell? ⟨w.heap.size, 2, none⟩ = some (.int .i64 exp) ∧ W.cell? ⟨w.heap.size, 1, none⟩ = some (.int .u64 mag))
    (first | assumption | exact ⟨k2, k1⟩)
    (first | (go_at_call 26; refine (b_len _ _ (by omega) (by omega)).mono ?_; rintro _ _ ⟨rfl, rfl⟩))
  all_goals
    by_cases hc : exp + L ≤ 64
    · go_wp2_with fail
      refine (hC hc _).mono ?_
      rintro _ w3 ⟨rfl, hb3⟩
      have hdr : Below wx.heap.size wx wx.drew := (bel_refl wx).drew
      have hb3' := bel_trans hdr hb3
      have hbw := bel_trans hb2 hb3'
      have p0 := (hb3'.block _ (Array.getElem?_eq_some_iff.1 q0).1).trans q0
      have j0 := blkC p0 0 rfl
      have hUU := hU hc
      clear hC hU hU2 hb3 hb3' hdr q0 q1 k0 k1 k2 k3 k4 kw
      cases ng
      · by_cases hz : U = 0
        · subst hz
          have u2 : IntKind.i64.wrap ((0 : Nat) : Int) = 0 := by decide
          go_wp2
          all_goals go_ret2
          all_goals exact ⟨by rfl, hbw⟩
        · by_cases h63 : U < 9223372036854775808
          · have u2 : IntKind.i64.wrap (U : Int) = (U : Int) := by rw [wrap_i64_eq]; omega
            have u3 : ¬ (U : Int) = 0 := by omega
            have u4 : ¬ (U : Int) < 0 := by omega
            go_wp2
            all_goals go_ret2
            all_goals first | exact ⟨ret_tib (by unfold tiN tiB; simp [h63, sg]; done) (by unfold tiB; simp [h63]; done), hbw⟩ | (exfalso; simp_all <;> omega)
          · have u2 : IntKind.i64.wrap (U : Int) = (U : Int) - 18446744073709551616 := by rw [wrap_i64_eq]; omega
            have u3 : ¬ (U : Int) - 18446744073709551616 = 0 := by omega
            have u4 : (U : Int) - 18446744073709551616 < 0 := by omega
            have u5 : tiB false U = false := by unfold tiB; simp; omega
            go_wp2
            all_goals go_ret2
            all_goals first | exact ⟨ret_tib (by unfold tiN; rw [u5]; rfl) (by first | rfl | rw [u5]), hbw⟩ | (exfalso; simp_all <;> omega)
      · by_cases hz : U = 0
        · subst hz
          have u1 : IntKind.u64.wrap (-((0 : Nat) : Int)) = 0 := by decide
          have u2 : IntKind.i64.wrap 0 = 0 := by decide
          go_wp2
          all_goals go_ret2
          all_goals exact ⟨by rfl, hbw⟩
        · have u1 : IntKind.u64.wrap (-(U : Int)) = 18446744073709551616 - (U : Int) := by rw [IntKind.wrap_u64]; omega
          by_cases h63 : U ≤ 9223372036854775808
          · have u2 : IntKind.i64.wrap (18446744073709551616 - (U : Int)) = -(U : Int) := by rw [wrap_i64_eq]; omega
            have u3 : ¬ -(U : Int) = 0 := by omega
            have u4 : -(U : Int) < 0 := by omega
            have u6 : 0 < U := by omega
            go_wp2
            all_goals go_ret2
            all_goals first | exact ⟨ret_tib (by unfold tiN tiB; simp [h63, sg]; done) (by unfold tiB; simp [h63]; done), hbw⟩ | (exfalso; simp_all <;> omega)
          · have u2 : IntKind.i64.wrap (18446744073709551616 - (U : Int)) = 18446744073709551616 - (U : Int) := by rw [wrap_i64_eq]; omega
            have u3 : ¬ 18446744073709551616 - (U : Int) = 0 := by omega
            have u4 : ¬ 18446744073709551616 - (U : Int) < 0 := by omega
            have u5 : tiB true U = false := by unfold tiB; simp; omega
            go_wp2
            all_goals go_ret2
            all_goals first | exact ⟨ret_tib (by unfold tiN; rw [u5]; rfl) (by first | rfl | rw [u5]), hbw⟩ | (exfalso; simp_all <;> omega)
    · have u5 := hU2 (by omega)
      have hgt : 64 < exp + L := by omega
      go_wp2
      all_goals go_ret2
      all_goals exact ⟨ret_tib (by unfold tiN; rw [u5]; rfl) (by first | rfl | rw [u5]), by first | exact hb2.drew | exact hb2⟩
/-- A float as an int, in a way. -/
def tiU (way b : Int) : Nat := upU way (pneg b) (rU (pmag b).toNat (0 - pexp b)) (rL (pmag b).toNat false (0 - pexp b))
theorem whole_any (way : Int) (hw : 0 ≤ way ∧ way ≤ 3) (ng : Bool) (mag : Nat) (exp : Int) (w : World) (hm : mag < 9007199254740992) (he : -1100 ≤ exp ∧ exp ≤ 1100) (hz : mag = 0 → exp ≤ 0) :
    Calls Tryd.prog 12 #[valV ng mag exp false false, wayV way] w fun e w' => e = .returned (.tuple #[.int .i64 (tiN ng (upU way ng (rU mag (0 - exp)) (rL mag false (0 - exp)))), .bool (tiB ng (upU way ng (rU mag (0 - exp)) (rL mag false (0 - exp))))]) ∧ Below w.heap.size w w' := by
  refine whole_F (wayF way) ng mag exp _ (decide (rL mag false (0 - exp) ≠ 0)) w hm he (fun h => ?_) (fun h => ?_) (fun h W => ?_)
  · have := rU_fit hm h
    unfold upU
    split <;> omega
  · have h0 : mag ≠ 0 := fun c => by
      have g := hz c
      subst c
      have : Lib.bitLen 0 = 0 := by decide
      rw [this] at h
      omega
    have := rU_big h0 hm h
    refine tiB_big ?_
    unfold upU
    omega
  · exact units_any way hw ng mag exp 0 false false W (by omega) (by omega) (by omega) (rU_fit hm h)
theorem parts_bd {b : Int} (hb : rng b) (h : pok b = true) : (0 ≤ pmag b ∧ pmag b < 9007199254740992) ∧ (-1074 ≤ pexp b ∧ pexp b ≤ 971) ∧ (pmag b = 0 → pexp b = -1074) := by
  obtain ⟨a, b1, c, d⟩ := pmag_in h
  refine ⟨⟨a, b1⟩, ⟨c, d⟩, fun g => ?_⟩
  unfold pmag at g
  unfold pexp
  have := frc_le b
  split at g
  · rename_i c
    unfold pok at h
    rw [c] at h
    simp at h
  · split at g
    · rename_i c1 c2; simp [c1, c2]
    · omega
set_option maxRecDepth 100000 in
set_option maxHeartbeats 1000000 in
theorem toInt_ok (b way : Int) (hb : rng b) (hw : 0 ≤ way ∧ way ≤ 3) (h : pok b = true) (w : World) (H : Hold4 w) :
    Calls Tryd.prog 5 #[.int .i64 b, .int .i64 way] w fun e w' => e = .returned (.tuple #[.int .i64 (tiN (pneg b) (tiU way b)), .bool (tiB (pneg b) (tiU way b)), .int .i64 0]) ∧ Below w.heap.size w w' := by
  obtain ⟨⟨m0, m1⟩, he, hz⟩ := parts_bd hb h
  have C0 := wayOf_any way w
  rw [if_pos hw, decide_eq_true hw] at C0
  have C1 : Hid (∀ W, Below w.heap.size w W → _) := fun W hB => bitsPartsA b W (H.keeps hB).lay
  rw [h] at C1
  obtain ⟨m, hm⟩ : ∃ m : Nat, pmag b = (m : Int) := ⟨(pmag b).toNat, by omega⟩
  have C2 : Hid (∀ W, _) := fun W => whole_any way hw (pneg b) m (pexp b) W (by omega) (by omega) (fun c => by have := hz (by omega); omega)
  unfold tiU
  rw [hm] at C1 ⊢
  rw [Int.toNat_natCast]
  generalize upU way (pneg b) (rU m (0 - pexp b)) (rL m false (0 - pexp b)) = U at *
  generalize pneg b = ng at *
  generalize pexp b = ex at *
  have u1 : IntKind.u64.wrap (m : Int) = (m : Int) := by rw [IntKind.wrap_u64]; omega
  have hst : ∀ (p : Addr) (F : Nat) (m : Mode) (w : World), (store p (.func (.func F) #[] #[]) m).run Tryd.prog w = stored Tryd.prog w p (.func (.func F) #[] #[]) m := fun p F m w => run_store _ w p _ m rfl
  clear hz he H
  unfold wayV valV at *
  generalize wayF way = F at *
  go_enter Tryd.func5, Tryd.ntmps5
  go_wp2_with fail
  refine C0.mono ?_
  rintro _ w1 ⟨rfl, b1⟩
  have q1 := heap_alloc_new w1 (.cells #[.nilFunc] 34)
  have y0 := blkC q1 0 rfl
  have y1 := blkF q1 0
  go_wp2_with fail
  have q2 := heap_alloc_new w1 (.cells #[.func (.func F) #[] #[]] 34)
  have hb2 := bel_trans b1 (bel_alloc w1 (.cells #[.func (.func F) #[] #[]] 34))
  generalize w1.alloc (.cells #[.func (.func F) #[] #[]] 34) = w2 at q2 hb2 ⊢
  clear q1 y0 y1 C0
  refine (C1.out _ hb2).mono ?_
  rintro _ w3 ⟨rfl, b3⟩
  have hb3 := bel_trans hb2 b3
  have p3 := (b3.block _ (Array.getElem?_eq_some_iff.1 q2).1).trans q2
  have k3 := blkC p3 0 rfl
  clear q2 C1
  go_wp2_with fail
  refine (C2.out _).mono ?_
  rintro _ w4 ⟨rfl, b4⟩
  go_wp2
  all_goals refine bodyPost_ret (v := .tuple #[.int .i64 (tiN ng U), .bool (tiB ng U), .int .i64 0]) (by simp [results, Tryd.results5, go_sem]) rfl ⟨rfl, ?_⟩
  all_goals first | exact bel_trans hb3 b4 | exact bel_trans hb3.drew b4 | exact bel_trans (bel_trans hb3 (bel_alloc _ _)) b4
set_option maxRecDepth 100000 in
set_option maxHeartbeats 1000000 in
theorem toInt_no (b way : Int) (hb : rng b) (hw : 0 ≤ way ∧ way ≤ 3) (h : pok b = false) (w : World) (H : Hold4 w) :
    Calls Tryd.prog 5 #[.int .i64 b, .int .i64 way] w fun e w' => e = .returned (.tuple #[.int .i64 0, .bool false, .int .i64 0]) ∧ Below w.heap.size w w' := by
  have C0 := wayOf_any way w
  rw [if_pos hw, decide_eq_true hw] at C0
  have C1 : Hid (∀ W, Below w.heap.size w W → _) := fun W hB => bitsPartsA b W (H.keeps hB).lay
  rw [h] at C1
  generalize pneg b = ng at *
  generalize pexp b = ex at *
  generalize pmag b = m at *
  have hst : ∀ (p : Addr) (F : Nat) (m : Mode) (w : World), (store p (.func (.func F) #[] #[]) m).run Tryd.prog w = stored Tryd.prog w p (.func (.func F) #[] #[]) m := fun p F m w => run_store _ w p _ m rfl
  clear H
  unfold wayV at *
  generalize wayF way = F at *
  go_enter Tryd.func5, Tryd.ntmps5
  go_wp2_with fail
  refine C0.mono ?_
  rintro _ w1 ⟨rfl, b1⟩
  have q1 := heap_alloc_new w1 (.cells #[.nilFunc] 34)
  have y0 := blkC q1 0 rfl
  have y1 := blkF q1 0
  go_wp2_with fail
  have hb2 := bel_trans b1 (bel_alloc w1 (.cells #[.func (.func F) #[] #[]] 34))
  generalize w1.alloc (.cells #[.func (.func F) #[] #[]] 34) = w2 at hb2 ⊢
  clear q1 y0 y1 C0
  refine (C1.out _ hb2).mono ?_
  rintro _ w3 ⟨rfl, b3⟩
  have hb3 := bel_trans hb2 b3
  clear C1
  go_wp2
  all_goals refine bodyPost_ret (v := .tuple #[.int .i64 0, .bool false, .int .i64 0]) (by simp [results, Tryd.results5, go_sem]) rfl ⟨rfl, hb3⟩
set_option maxRecDepth 100000 in
set_option maxHeartbeats 1000000 in
theorem fromInt_ok (n way : Int) (hn : rng n) (hw : 0 ≤ way ∧ way ≤ 3) (w : World) (H : Hold4 w) :
    Calls Tryd.prog 4 #[.int .i64 n, .int .i64 way] w fun e w' => e = .returned (.tuple #[.int .i64 (r64 way (decide (n < 0)) false n.natAbs 0 false).1, .int .i64 0]) ∧ Below w.heap.size w w' := by
  have C0 := wayOf_any way w
  rw [if_pos hw, decide_eq_true hw] at C0
  have C1 : Hid (∀ W, Below w.heap.size w W → _) := fun W hB => binary64_any way hw (decide (n < 0)) false n.natAbs 0 false W (H.keeps hB).env (by unfold rng at hn; omega) (by decide)
  generalize r64 way (decide (n < 0)) false n.natAbs 0 false = R at *
  obtain ⟨R1, R2⟩ := R
  have hst : ∀ (p : Addr) (F : Nat) (m : Mode) (w : World), (store p (.func (.func F) #[] #[]) m).run Tryd.prog w = stored Tryd.prog w p (.func (.func F) #[] #[]) m := fun p F m w => run_store _ w p _ m rfl
  clear H
  unfold rng at hn
  unfold wayV valV at *
  generalize wayF way = F at *
  go_enter Tryd.func4, Tryd.ntmps4
  go_wp2_with fail
  refine C0.mono ?_
  rintro _ w1 ⟨rfl, b1⟩
  have q1 := heap_alloc_new w1 (.cells #[.nilFunc] 34)
  have y0 := blkC q1 0 rfl
  have y1 := blkF q1 0
  by_cases h0 : n < 0
  · have u1 : IntKind.u64.wrap n = n + 18446744073709551616 := by rw [IntKind.wrap_u64]; omega
    have u2 : IntKind.u64.wrap (-(n + 18446744073709551616)) = (n.natAbs : Int) := by rw [IntKind.wrap_u64]; omega
    rw [decide_eq_true h0] at C1
    go_wp2_with fail
    have hb2 := bel_trans b1 (bel_alloc w1 (.cells #[.func (.func F) #[] #[]] 34))
    generalize w1.alloc (.cells #[.func (.func F) #[] #[]] 34) = w2 at hb2 ⊢
    refine (C1.out _ (by first | exact hb2 | exact hb2.drew)).mono ?_
    rintro _ w4 ⟨rfl, b4⟩
    go_wp2
    all_goals refine bodyPost_ret (v := .tuple #[.int .i64 R1, .int .i64 0]) (by simp [results, Tryd.results4, go_sem]) rfl ⟨rfl, ?_⟩
    all_goals first | exact bel_trans hb2 b4 | exact bel_trans hb2.drew b4
  · obtain ⟨m, rfl⟩ : ∃ m : Nat, n = (m : Int) := ⟨n.toNat, by omega⟩
    rw [Int.natAbs_natCast] at C1
    have u1 : IntKind.u64.wrap (m : Int) = (m : Int) := by rw [IntKind.wrap_u64]; omega
    rw [decide_eq_false h0] at C1
    go_wp2_with fail
    have hb2 := bel_trans b1 (bel_alloc w1 (.cells #[.func (.func F) #[] #[]] 34))
    generalize w1.alloc (.cells #[.func (.func F) #[] #[]] 34) = w2 at hb2 ⊢
    refine (C1.out _ (by first | exact hb2 | exact hb2.drew)).mono ?_
    rintro _ w4 ⟨rfl, b4⟩
    go_wp2
    all_goals refine bodyPost_ret (v := .tuple #[.int .i64 R1, .int .i64 0]) (by simp [results, Tryd.results4, go_sem]) rfl ⟨rfl, ?_⟩
    all_goals first | exact bel_trans hb2 b4 | exact bel_trans hb2.drew b4
end Go.Proofs.YteobbaefodckfaaDoor

/-
  The mathematics of RoundWhole: ints rounded down to floats and back, floats to ints in four ways.
-/
namespace Go.Proofs.YteobbaefodckfaaDoor
open Go Go.RowKit Go.Proofs.YteobbaefodckfaaDoor.M Ieee
set_option linter.unusedSimpArgs false
set_option linter.unusedVariables false

theorem ti_left {b : Int} (hb : rng b) (h : pok b = true) : M.Left (((pmag b).toNat : Int) * pw (pexp b)) (rU (pmag b).toNat (0 - pexp b)) (pw 0) (rL (pmag b).toNat false (0 - pexp b)) := by
  obtain ⟨_, he, _⟩ := parts_bd hb h
  exact left_of (e := 0) (exp := pexp b) ⟨Int.le_refl _, by rw [Int.add_mul, Int.one_mul]; have := pw_pos (pexp b); exact Int.lt_add_of_pos_right _ this, by simp⟩ (fun c => by cases c) (by decide) (by omega)
theorem patV_sg {b : Int} (hb : rng b) (h : pok b = true) : patV b = sg (pneg b) (((pmag b).toNat : Int) * pw (pexp b)) := by
  obtain ⟨⟨h0, _⟩, _, _⟩ := parts_bd hb h
  unfold patV
  rw [← sg_prod, Int.toNat_of_nonneg h0]
theorem ti_of {b way : Int} {u : Nat} {left : Int} (hb : rng b) (h : pok b = true) (hL : M.Left (((pmag b).toNat : Int) * pw (pexp b)) u (pw 0) left) : tiU way b = upU way (pneg b) u left := by
  obtain ⟨e1, e2⟩ := (ti_left hb h).unique hL
  unfold tiU
  rw [e1, e2]
theorem up0 (way : Int) (ng : Bool) (u : Nat) : upU way ng u 0 = u := by
  unfold upU
  rw [if_neg (fun c => rUp_left c), Nat.add_zero]
theorem k_sgk {g : Bool} {A k q : Int} (hq : 0 < q) (hA : 0 ≤ A) (h : sg g A = k * q) : A = (k.natAbs : Int) * q ∧ (g = true → k ≤ 0) ∧ (g = false → 0 ≤ k) := by
  have key : ∀ j : Int, 0 ≤ j * q → 0 ≤ j := fun j hj => by
    rcases Int.lt_or_le j 0 with c | c
    · have := Int.mul_lt_mul_of_pos_right c hq
      rw [Int.zero_mul] at this
      omega
    · exact c
  cases g
  · have h1 : A = k * q := h
    have h2 := key k (by omega)
    exact ⟨by rw [h1]; congr 1; omega, fun c => (by cases c), fun _ => h2⟩
  · have h1 : -A = k * q := h
    have h2 := key (-k) (by rw [Int.neg_mul]; omega)
    refine ⟨?_, fun _ => (by omega), fun c => (by cases c)⟩
    have e : (k.natAbs : Int) = -k := by omega
    rw [e, Int.neg_mul]
    omega
/-- A float that is a whole number is that int. -/
theorem ti_whole {b way k : Int} (hb : rng b) (h : pok b = true) (hk : patV b = k * pw 0) (h0 : rng k) : tiB (pneg b) (tiU way b) = true ∧ tiN (pneg b) (tiU way b) = k := by
  rw [patV_sg hb h] at hk
  have hA : 0 ≤ ((pmag b).toNat : Int) * pw (pexp b) := Int.mul_nonneg (Int.natCast_nonneg _) (Int.le_of_lt (pw_pos _))
  obtain ⟨e, s1, s2⟩ := k_sgk (pw_pos 0) hA hk
  have hL := left_whole k.natAbs (pw_pos 0)
  rw [← e] at hL
  rw [ti_of hb h hL, up0]
  unfold rng at h0
  unfold tiN tiB
  cases hg : pneg b
  · have := s2 hg
    simp [sg]
    omega
  · have := s1 hg
    simp [sg]
    omega
theorem pw0_1074 : pw 0 = 2 ^ 1074 * pw (-1074) := by
  have e := pw_add (e := -1074) (by decide) 1074
  rw [show (-1074 + ((1074 : Nat) : Int)) = 0 by decide] at e
  rw [e, Int.mul_comm]
theorem k_pwm0 {n s t : Nat} {q Q : Int} (h : Q = 2 ^ t * q) : ((n * 2 ^ (t + s) : Nat) : Int) * q = ((n * 2 ^ s : Nat) : Int) * Q := by
  have ht : ((2 ^ t : Nat) : Int) = (2 : Int) ^ t := by simp
  rw [h, Nat.pow_add, Int.natCast_mul, Int.natCast_mul, Int.natCast_mul, ht]
  generalize (2 : Int) ^ t = c
  generalize ((2 ^ s : Nat) : Int) = b
  generalize (n : Int) = a
  ac_rfl
theorem k_pwm (n s : Nat) : ((n * 2 ^ (1074 + s) : Nat) : Int) * pw (-1074) = ((n * 2 ^ s : Nat) : Int) * pw 0 := k_pwm0 pw0_1074
theorem k_p52 (k : Nat) : 4503599627370496 * 2 ^ k = 1 * 2 ^ (k + 52) := by
  rw [Nat.pow_add, Nat.one_mul, Nat.mul_comm]
theorem k_pw0 {a s : Nat} (ha : a = 1022 + s) : ((4503599627370496 * 2 ^ a : Nat) : Int) * pw (-1074) = (2 : Int) ^ s * pw 0 := by
  rw [k_p52, show a + 52 = 1074 + s by omega, k_pwm]
  simp
theorem vS_pow {a s : Nat} (ha : a = 1022 + s) : vS (a * 4503599627370496 + 4503599627370496) = (2 : Int) ^ s * pw 0 := by
  have hV := V_parts Ieee.double a 4503599627370496 (.inr ⟨by rw [dBin]; omega, by rw [dBin]; omega⟩)
  rw [dBin] at hV
  unfold vS
  rw [hV, k_pw0 ha]
theorem vS_mult {r : Nat} (h : 4845873199050653696 ≤ r) : ∃ k : Nat, vS r = (k : Int) * pw 0 := by
  have hm := Nat.mod_lt r (show 0 < 4503599627370496 by decide)
  have hV : V Ieee.double r = (4503599627370496 + r % 4503599627370496) * 2 ^ (r / 4503599627370496 - 1) := by
    unfold V
    rw [dBin, if_neg (by omega)]
  obtain ⟨n, hn⟩ : ∃ n, 4503599627370496 + r % 4503599627370496 = n := ⟨_, rfl⟩
  obtain ⟨s, hs⟩ : ∃ s, r / 4503599627370496 - 1 = 1074 + s := ⟨r / 4503599627370496 - 1 - 1074, by omega⟩
  rw [hn, hs] at hV
  unfold vS
  rw [hV]
  exact ⟨n * 2 ^ s, k_pwm n s⟩
theorem k_le2 {a b q : Int} (hq : 0 < q) (h : a * q ≤ b * q) : a ≤ b := Int.le_of_mul_le_mul_right h hq
theorem rung_self (r : Nat) : Rung (vS r) r 0 := by
  have h1 := vS_lt (show r < r + 1 by omega)
  generalize hx : vS r = x at *
  refine ⟨by rw [hx]; exact Int.le_refl _, h1, by rw [hx]; simp, ?_, ?_, ?_⟩ <;> rw [hx] <;> constructor <;> intro h <;> omega
/-- An int rounded down to a float, as an int again. -/
theorem from_down {n : Int} (hn : rng n) : ∃ d : Int, d = (r64 1 (decide (n < 0)) false n.natAbs 0 false).1 ∧ rng d ∧ pok d = true ∧ ∃ k : Int, patV d = k * pw 0 ∧ rng k ∧ k ≤ n ∧ (n < 9007199254740992 → -9007199254740992 < n → k = n) := by
  by_cases h0 : n = 0
  · subst h0
    refine ⟨0, by decide +kernel, by unfold rng; decide, by decide, 0, ?_, by unfold rng; decide, by decide, fun _ _ => rfl⟩
    unfold patV
    rw [show pmag 0 = 0 by decide, sg_zero, Int.zero_mul, Int.zero_mul]
  · have hm : n.natAbs ≠ 0 := by omega
    have hnn := hn
    unfold rng at hnn
    have hq := pw_pos 0
    have hA : Held ((n.natAbs : Int) * pw 0) n.natAbs 0 false := ⟨Int.le_refl _, by rw [Int.add_mul, Int.one_mul]; exact Int.lt_add_of_pos_right _ hq, by simp⟩
    obtain ⟨r0, left, hR, he⟩ := r64_spec (way := 1) (ng := decide (n < 0)) (sd := false) hA (by omega) hm (by decide) (fun c => by cases c)
    rw [he]
    -- the rung is that of 2^63 at most
    obtain ⟨R63, h63⟩ : ∃ R : Nat, R = 1085 * 4503599627370496 + 4503599627370496 := ⟨_, rfl⟩
    have v63 : vS R63 = 9223372036854775808 * pw 0 := by
      rw [h63, vS_pow (a := 1085) (s := 63) (by decide), show (2 : Int) ^ 63 = 9223372036854775808 by decide]
    have top : (n.natAbs : Int) * pw 0 ≤ vS R63 := by
      rw [v63]; exact Int.mul_le_mul_of_nonneg_right (by omega) (Int.le_of_lt hq)
    have r63 : r0 ≤ R63 := by
      rcases Nat.lt_or_ge R63 r0 with c | c
      · exact absurd (Int.lt_of_lt_of_le (vS_lt c) (Int.le_trans hR.lo top)) (Int.lt_irrefl _)
      · exact c
    have r63' : r0 = R63 → left = 0 := fun c => hR.l0.2 (by rw [c] at hR ⊢; exact Int.le_antisymm top hR.lo)
    have hfin : (r0 : Int) < 9218868437227405312 := by omega
    obtain ⟨rr, hrr⟩ : ∃ rr : Nat, rTo 1 (decide (n < 0)) r0 left = (rr : Int) := ⟨(rTo 1 (decide (n < 0)) r0 left).toNat, by have := (rTo_range 1 (decide (n < 0)) r0 left).1; omega⟩
    have hr2 : (rr = r0 ∧ (left = 0 ∨ 0 ≤ n)) ∨ (rr = r0 + 1 ∧ left ≠ 0 ∧ n < 0) := by
      have e : rTo 1 (decide (n < 0)) r0 left = (r0 : Int) + (if rUp 1 (decide (n < 0)) (decide (r0 % 2 = 1)) left then 1 else 0) := by unfold rTo; rw [if_pos hfin]
      rw [rUp_down, hrr] at e
      by_cases c1 : left = 0
      · rw [decide_eq_false (fun c => c c1)] at e
        simp at e
        exact .inl ⟨by omega, .inl c1⟩
      · by_cases c2 : n < 0
        · rw [decide_eq_true c1, decide_eq_true c2] at e
          simp at e
          exact .inr ⟨by omega, c1, c2⟩
        · rw [decide_eq_false c2] at e
          simp at e
          exact .inl ⟨by omega, .inr (by omega)⟩
    have rr63 : rr ≤ R63 := by
      rcases hr2 with ⟨c, _⟩ | ⟨c, c2, _⟩
      · omega
      · have : r0 ≠ R63 := fun g => c2 (r63' g)
        omega
    rw [hrr, Bool.or_false]
    have hf2 : (rr : Int) < 9218868437227405312 := by omega
    refine ⟨_, rfl, (patS_rng (by omega) (by omega)).1, by rw [patS_pok (by omega) (by omega) (fun c => and_pos c)]; exact decide_eq_true hf2, ?_⟩
    rw [patV_rung hf2]
    -- whole, and on the right side
    have hK : ∃ K : Nat, vS rr = (K : Int) * pw 0 ∧ ((n.natAbs : Int) < 9007199254740992 → K = n.natAbs) := by
      by_cases c : n.natAbs < 9007199254740992
      · obtain ⟨r, e1, e2⟩ := small_rung c
        have hR2 : Rung ((n.natAbs : Int) * pw 0) r 0 := by rw [e1]; exact rung_self r
        obtain ⟨g1, g2⟩ := hR.unique hR2
        have : rr = r := by
          rcases hr2 with ⟨c, _⟩ | ⟨c, c2, _⟩
          · omega
          · exact absurd g2 c2
        exact ⟨n.natAbs, by rw [this, e1], fun _ => rfl⟩
      · have v53 : vS 4845873199050653696 = 9007199254740992 * pw 0 := by
          have := vS_pow (a := 1075) (s := 53) (by decide)
          rw [show 1075 * 4503599627370496 + 4503599627370496 = 4845873199050653696 by decide, show (2 : Int) ^ 53 = 9007199254740992 by decide] at this
          exact this
        have low : vS 4845873199050653696 ≤ (n.natAbs : Int) * pw 0 := by
          rw [v53]; exact Int.mul_le_mul_of_nonneg_right (by omega) (Int.le_of_lt hq)
        have : 4845873199050653696 ≤ r0 := by
          rcases Nat.lt_or_ge r0 4845873199050653696 with g | g
          · have h1 : vS (r0 + 1) ≤ vS 4845873199050653696 := by
              rcases Nat.lt_or_eq_of_le (show r0 + 1 ≤ 4845873199050653696 from g) with h | h
              · exact Int.le_of_lt (vS_lt h)
              · rw [h]; exact Int.le_refl _
            exact absurd (Int.lt_of_lt_of_le hR.hi (Int.le_trans h1 low)) (Int.lt_irrefl _)
          · exact g
        obtain ⟨K, hK⟩ := vS_mult (r := rr) (by omega)
        exact ⟨K, hK, fun g => by omega⟩
    obtain ⟨K, k1, k2⟩ := hK
    have k3 : (K : Int) ≤ 9223372036854775808 := by
      have : vS rr ≤ vS R63 := by
        rcases Nat.lt_or_eq_of_le rr63 with h | h
        · exact Int.le_of_lt (vS_lt h)
        · rw [h]; exact Int.le_refl _
      rw [k1, v63] at this
      exact k_le2 hq this
    refine ⟨sg (decide (n < 0)) (K : Int), by rw [k1, sg_prod], ?_⟩
    by_cases hneg : n < 0
    · rw [decide_eq_true hneg]
      have h1 : (n.natAbs : Int) ≤ K := by
        refine k_le2 hq ?_
        rw [← k1]
        rcases hr2 with ⟨c, c2⟩ | ⟨c, c2, _⟩
        · rw [c]
          have : left = 0 := by
            rcases c2 with c2 | c2
            · exact c2
            · omega
          exact Int.le_of_eq (hR.l0.1 this)
        · rw [c]; exact Int.le_of_lt hR.hi
      have e : sg true (K : Int) = -(K : Int) := rfl
      rw [e]
      unfold rng
      refine ⟨by omega, by omega, fun g1 g2 => ?_⟩
      have := k2 (by omega)
      omega
    · rw [decide_eq_false hneg]
      have h1 : (K : Int) ≤ n.natAbs := by
        refine k_le2 hq ?_
        rw [← k1]
        rcases hr2 with ⟨c, c2⟩ | ⟨c, c2, g⟩
        · rw [c]; exact hR.lo
        · exact absurd g hneg
      have e : sg false (K : Int) = (K : Int) := rfl
      rw [e]
      unfold rng
      refine ⟨by omega, by omega, fun g1 g2 => ?_⟩
      have := k2 (by omega)
      omega
end Go.Proofs.YteobbaefodckfaaDoor

/-
  The mathematics of RoundWhole: a float as an int in four ways.
-/
namespace Go.Proofs.YteobbaefodckfaaDoor
open Go Go.RowKit Go.Proofs.YteobbaefodckfaaDoor.M Ieee
set_option linter.unusedSimpArgs false
set_option linter.unusedVariables false

/-- What the law asks of a float as an int: down, up, to 0, to the nearest. -/
structure Wh4 (b p q z m : Int) : Prop where
  one : q - p ≤ 1
  le : p ≤ q
  rp : ∃ r : Nat, (p.natAbs : Int) * pw 0 = vS r ∧ (r : Int) < 9218868437227405312
  rq : ∃ r : Nat, (q.natAbs : Int) * pw 0 = vS r ∧ (r : Int) < 9218868437227405312
  lo : p * pw 0 ≤ patV b
  hi : patV b ≤ q * pw 0
  zz : (z = p ∧ 0 ≤ patV b) ∨ (z = q ∧ patV b ≤ 0)
  mm : m = p ∨ m = q
  same : q = p → p * pw 0 = patV b
  strict : q ≠ p → p * pw 0 < patV b ∧ patV b < q * pw 0
theorem tiB_dn {ng : Bool} {U W : Nat} (h : U ≤ W) (g : tiB ng W = true) : tiB ng U = true := by
  unfold tiB at *
  cases ng <;> simp at * <;> omega
theorem k_pos4 {u left A q : Int} (h0 : 0 ≤ u) (hq : 0 < q) (lo : u * q ≤ A) (hi : A < u * q + q) (l0 : left = 0 ↔ A = u * q) : (left = 0 → A = u * q) ∧ A < (u + 1) * q ∧ 0 ≤ A ∧ (left ≠ 0 → u * q < A) := by
  have h := Int.mul_nonneg h0 (Int.le_of_lt hq)
  rw [Int.add_mul, Int.one_mul]
  refine ⟨l0.1, by omega, by omega, fun c => ?_⟩
  rcases Int.lt_or_eq_of_le lo with g | g
  · exact g
  · exact absurd (l0.2 g.symm) c
theorem up_cases (way : Int) (ng : Bool) (u : Nat) (left : Int) : upU way ng u left = u ∨ upU way ng u left = u + 1 := by
  unfold upU
  split
  · exact .inr rfl
  · exact .inl rfl
theorem pos_abs {g h : Bool} {A B : Int} (hA : 0 ≤ A) (hB : 0 ≤ B) (e : sg g A = sg h B) : A = B := by
  cases g <;> cases h <;> simp [sg] at e <;> omega
/-- Four like facts, over letters. -/
structure WhL (X q p t z m : Int) (rr : Nat → Prop) : Prop where
  one : t - p ≤ 1
  le : p ≤ t
  rp : rr p.natAbs
  rq : rr t.natAbs
  lo : p * q ≤ X
  hi : X ≤ t * q
  zz : (z = p ∧ 0 ≤ X) ∨ (z = t ∧ X ≤ 0)
  mm : m = p ∨ m = t
  same : t = p → p * q = X
  strict : t ≠ p → p * q < X ∧ X < t * q
theorem wl_zero {X q : Int} {u : Nat} {g : Bool} {rr : Nat → Prop} (hq : 0 < q) (o : rr u) (e : X = sg g ((u : Int) * q)) : WhL X q (sg g u) (sg g u) (sg g u) (sg g u) rr := by
  have h := Int.mul_nonneg (Int.natCast_nonneg u) (Int.le_of_lt hq)
  have e2 : sg g (u : Int) * q = X := by rw [e, sg_prod]
  refine ⟨by omega, by omega, ?_, ?_, by rw [e2]; exact Int.le_refl _, by rw [e2]; exact Int.le_refl _, ?_, .inl rfl, fun _ => e2, fun c => absurd rfl c⟩
  · cases g <;> simpa [sg] using o
  · cases g <;> simpa [sg] using o
  · cases g
    · left; exact ⟨rfl, by rw [e]; exact h⟩
    · right
      refine ⟨rfl, ?_⟩
      have e3 : X = -((u : Int) * q) := e
      omega
theorem wl_pos {X q : Int} {u U0 : Nat} {rr : Nat → Prop} (hm : rr u) (hM : rr (u + 1)) (lo : (u : Int) * q < X) (hi : X < ((u : Int) + 1) * q) (h0 : 0 ≤ X) (u0 : U0 = u ∨ U0 = u + 1) : WhL X q (sg false u) (sg false ((u + 1 : Nat) : Int)) (sg false u) (sg false U0) rr := by
  have e1 : sg false (u : Int) = u := rfl
  have e2 : sg false ((u + 1 : Nat) : Int) = (u : Int) + 1 := by show ((u + 1 : Nat) : Int) = _; omega
  have e3 : sg false (U0 : Int) = U0 := rfl
  rw [e1, e2, e3]
  refine ⟨by omega, by omega, by rw [Int.natAbs_natCast]; exact hm, by rw [show ((u : Int) + 1).natAbs = u + 1 by omega]; exact hM, Int.le_of_lt lo, Int.le_of_lt hi, .inl ⟨rfl, h0⟩, by omega, fun c => (by omega), fun _ => ⟨lo, hi⟩⟩
theorem wl_neg {X q : Int} {u U0 : Nat} {rr : Nat → Prop} (hm : rr u) (hM : rr (u + 1)) (lo : (u : Int) * q < -X) (hi : -X < ((u : Int) + 1) * q) (h0 : 0 ≤ -X) (u0 : U0 = u ∨ U0 = u + 1) : WhL X q (sg true ((u + 1 : Nat) : Int)) (sg true u) (sg true u) (sg true U0) rr := by
  have e1 : sg true (u : Int) = -(u : Int) := rfl
  have e2 : sg true ((u + 1 : Nat) : Int) = -((u : Int) + 1) := by show -((u + 1 : Nat) : Int) = _; omega
  have e3 : sg true (U0 : Int) = -(U0 : Int) := rfl
  rw [e1, e2, e3]
  refine ⟨by omega, by omega, by rw [show (-((u : Int) + 1)).natAbs = u + 1 by omega]; exact hM, by rw [show (-(u : Int)).natAbs = u by omega]; exact hm, by rw [Int.neg_mul]; omega, by rw [Int.neg_mul]; omega, .inr ⟨rfl, by omega⟩, by omega, fun c => (by omega), fun _ => ⟨by rw [Int.neg_mul]; omega, by rw [Int.neg_mul]; omega⟩⟩
theorem WhL.to {b p q z m : Int} (h : WhL (patV b) (pw 0) p q z m (fun n => ∃ r : Nat, (n : Int) * pw 0 = vS r ∧ (r : Int) < 9218868437227405312)) : Wh4 b p q z m := by
  obtain ⟨a1, a2, a3, a4, a5, a6, a7, a8, a9, a10⟩ := h
  exact ⟨a1, a2, a3, a4, a5, a6, a7, a8, a9, a10⟩
theorem whF (x : Int) : sg false x = x := rfl
theorem whT (x : Int) : sg true x = -x := rfl
theorem k_up1 {u U : Nat} (h : U = u ∨ U = u + 1) : U ≤ u + 1 := by omega
theorem ti_small {b : Int} (hb : rng b) (h : pok b = true) : rL (pmag b).toNat false (0 - pexp b) ≠ 0 → rU (pmag b).toNat (0 - pexp b) < 4503599627370496 := fun c => by
  obtain ⟨⟨m0, m1⟩, _, _⟩ := parts_bd hb h
  unfold rL at c
  by_cases hs : 0 - pexp b ≤ 0
  · rw [if_pos hs] at c; exact absurd rfl c
  · unfold rU
    rw [if_neg hs]
    have h1 : 2 ^ 1 ≤ 2 ^ (0 - pexp b).toNat := Nat.pow_le_pow_right (by decide) (by omega)
    have h2 : (pmag b).toNat / 2 ^ (0 - pexp b).toNat ≤ (pmag b).toNat / 2 := Nat.div_le_div_left h1 (by decide)
    omega
theorem whole_law {b : Int} (hb : rng b) (h : pok b = true) (c1 : tiB (pneg b) (tiU 1 b) = true) (c2 : tiB (pneg b) (tiU 2 b) = true) :
    tiB (pneg b) (tiU 3 b) = true ∧ tiB (pneg b) (tiU 0 b) = true ∧ Wh4 b (tiN (pneg b) (tiU 1 b)) (tiN (pneg b) (tiU 2 b)) (tiN (pneg b) (tiU 3 b)) (tiN (pneg b) (tiU 0 b)) := by
  have hL := ti_left hb h
  have hV := patV_sg hb h
  have hD := patV_dec hb h
  have hsm := ti_small hb h
  rw [ti_of hb h hL] at c1 c2
  rw [ti_of hb h hL, ti_of hb h hL, ti_of hb h hL, ti_of hb h hL]
  have hrg := (rg_lt hb h)
  obtain ⟨rb, hrb⟩ : ∃ rb : Nat, (rg b).toNat = rb := ⟨_, rfl⟩
  have hrb2 : (rb : Int) < 9218868437227405312 := by rw [← hrb, Int.toNat_of_nonneg hrg.1]; exact hrg.2
  rw [hrb] at hD
  have hA : ((pmag b).toNat : Int) * pw (pexp b) = vS rb := by
    have e1 := pos_abs (Int.mul_nonneg (Int.natCast_nonneg (pmag b).toNat) (Int.le_of_lt (pw_pos (pexp b)))) (vS_nonneg rb) (hV.symm.trans hD)
    exact e1
  rw [hA] at hL hV
  generalize rU (pmag b).toNat (0 - pexp b) = u at *
  generalize rL (pmag b).toNat false (0 - pexp b) = left at *
  obtain ⟨hlo, hhi, l0, _, _, _⟩ := hL
  obtain ⟨j0, j1, j2, j3⟩ := k_pos4 (Int.natCast_nonneg u) (pw_pos 0) hlo hhi l0
  have small : left ≠ 0 → ∀ v : Nat, v ≤ u + 1 → ∃ r : Nat, (v : Int) * pw 0 = vS r ∧ (r : Int) < 9218868437227405312 := fun c v hv => small_rung (Nat.lt_of_le_of_lt hv (Nat.lt_of_lt_of_le (Nat.succ_lt_succ (hsm c)) (by decide)))
  have ones : left = 0 → ∃ r : Nat, (u : Int) * pw 0 = vS r ∧ (r : Int) < 9218868437227405312 := fun c => ⟨rb, (j0 c).symm, hrb2⟩
  have u1 : upU 1 (pneg b) u left = u + (if left ≠ 0 ∧ pneg b = true then 1 else 0) := by
    unfold upU; rw [rUp_down]
    by_cases c : left = 0 <;> cases pneg b <;> simp [c]
  have u2 : upU 2 (pneg b) u left = u + (if left ≠ 0 ∧ pneg b = false then 1 else 0) := by
    unfold upU; rw [rUp_up]
    by_cases c : left = 0 <;> cases pneg b <;> simp [c]
  have u3 : upU 3 (pneg b) u left = u := by unfold upU; rw [rUp_zero]; simp
  have u0 := up_cases 0 (pneg b) u left
  have u00 : left = 0 → upU 0 (pneg b) u left = u := fun c => by rw [c, up0]
  rw [u1] at c1 ⊢
  rw [u2] at c2 ⊢
  rw [u3]
  generalize upU 0 (pneg b) u left = U0 at *
  clear hhi l0 hA hD hrg hrb hsm u1 u2 u3
  have c3 : tiB (pneg b) u = true := tiB_dn (Nat.le_add_right _ _) c1
  have c0 : tiB (pneg b) U0 = true := by
    by_cases c : left = 0
    · rw [u00 c]; exact c3
    · refine tiB_dn (W := u + 1) (k_up1 u0) ?_
      cases hg : pneg b
      · rw [if_pos ⟨c, hg⟩, hg] at c2; exact c2
      · rw [if_pos ⟨c, hg⟩, hg] at c1; exact c1
  refine ⟨c3, c0, ?_⟩
  unfold tiN
  rw [if_pos c1, if_pos c2, if_pos c3, if_pos c0]
  refine WhL.to ?_
  have hq := pw_pos 0
  generalize pneg b = g at *
  generalize patV b = X at *
  by_cases c : left = 0
  · have e0 := u00 c
    subst e0
    have j := j0 c
    rw [if_neg (fun d => d.1 c), if_neg (fun d => d.1 c), Nat.add_zero]
    exact wl_zero hq (ones c) (by rw [hV, j])
  · have s := small c
    have hm := s u (Nat.le_succ u)
    have hM := s (u + 1) (Nat.le_refl _)
    cases g
    · rw [if_neg (fun d => by cases d.2), if_pos ⟨c, rfl⟩, Nat.add_zero]
      have e : X = vS rb := hV.trans (whF _)
      exact wl_pos hm hM (by rw [e]; exact j3 c) (by rw [e]; exact j1) (by rw [e]; exact j2) u0
    · rw [if_pos ⟨c, rfl⟩, if_neg (fun d => by cases d.2), Nat.add_zero]
      have e : -X = vS rb := by rw [hV, whT, Int.neg_neg]
      exact wl_neg hm hM (by rw [e]; exact j3 c) (by rw [e]; exact j1) (by rw [e]; exact j2) u0
end Go.Proofs.YteobbaefodckfaaDoor

/-
  RoundWhole: lemmas of its walk.
-/
namespace Go.Proofs.YteobbaefodckfaaDoor.roundWhole
open Go Go.RowKit Go.Proofs.YteobbaefodckfaaDoor Go.Proofs.YteobbaefodckfaaDoor.M
set_option linter.unusedSimpArgs false
set_option linter.unusedVariables false

theorem cls_no {b : Int} (h : pok b = false) : 2 < cls b := by
  unfold pok at h
  unfold cls
  rw [if_pos (by simpa using h)]
  split <;> decide
theorem cls_ok {b : Int} (h : pok b = true) : ¬ 2 < cls b := by
  unfold pok at h
  unfold cls
  rw [if_neg (by simpa using h)]
  split
  · split <;> decide
  · decide
theorem tiN_rng (ng : Bool) (U : Nat) : rng (tiN ng U) := by
  unfold tiN tiB rng sg
  cases ng
  · simp
    split <;> omega
  · simp
    split <;> omega
theorem cvi (n : Int) (w : World) : (convert 3 29 (.int .i64 n)).run Tryd.prog w = .ok (.float .f64 (FloatKind.f64.nearest n)) w := run_convert_int_float w _ _ _ _ _ (by rw [Tryd.underlying3]; rfl) Tryd.underlying29
theorem cmp_E (a : Int) : compare a a = Ordering.eq := by
  show compareOfLessAndEq a a = _
  unfold compareOfLessAndEq
  rw [if_neg (by omega), if_pos rfl]
theorem cmp_L {a b : Int} (h : a < b) : compare a b = Ordering.lt := by
  show compareOfLessAndEq a b = _
  unfold compareOfLessAndEq
  rw [if_pos h]
theorem cmp_G {a b : Int} (h : b < a) : compare a b = Ordering.gt := by
  show compareOfLessAndEq a b = _
  unfold compareOfLessAndEq
  rw [if_neg (by omega), if_neg (by omega)]
theorem cmp_3 (X : Int) : compare X 0 = Ordering.lt ∨ compare X 0 = Ordering.eq ∨ compare X 0 = Ordering.gt := by
  rcases Int.lt_trichotomy X 0 with h | h | h
  · exact .inl (cmp_L h)
  · exact .inr (.inl (by rw [h]; exact cmp_E 0))
  · exact .inr (.inr (cmp_G h))
theorem cmp_nz {p q Q X : Int} (hQ : 0 < Q) (h : q - p ≤ 1) (a : p * Q < X) (b : X < q * Q) : X ≠ 0 := fun c => by
  subst c
  have h1 : p < 0 := by
    rcases Int.lt_or_le p 0 with g | g
    · exact g
    · have := Int.mul_nonneg g (Int.le_of_lt hQ); omega
  have h2 : 0 < q := by
    rcases Int.lt_or_le 0 q with g | g
    · exact g
    · have := Int.mul_le_mul_of_nonneg_right g (Int.le_of_lt hQ)
      rw [Int.zero_mul] at this
      omega
  omega
theorem cmp_pz {X : Int} (h : X ≠ 0) (g : 0 ≤ X) : 0 < X := by omega
theorem cmp_mz {X : Int} (h : X ≠ 0) (g : X ≤ 0) : X < 0 := by omega
theorem int_word {p : Int} {b : Int} (hb : rng b) (h : pok b = true) (hr : ∃ r : Nat, (p.natAbs : Int) * pw 0 = vS r ∧ (r : Int) < 9218868437227405312) : ∃ x : Nat, FloatKind.f64.nearest p = x ∧ Ieee.double.order x (wd b) = some (compare (p * pw 0) (patV b)) ∧ Ieee.double.order (wd b) x = some (compare (patV b) (p * pw 0)) := by
  obtain ⟨r, e, hr⟩ := hr
  have e1 := int_wd e hr
  have hpos : decide (p < 0) = true → 0 < r := fun c => by
    rcases Nat.eq_zero_or_pos r with g | g
    · exfalso
      rw [g, vS_zero] at e
      have hq := pw_pos 0
      have c := of_decide_eq_true c
      rcases Int.mul_eq_zero.1 e with d | d
      · omega
      · rw [d] at hq; exact absurd hq (by decide)
    · exact g
  have hV : patV (patS (decide (p < 0)) (r : Int)) = p * pw 0 := by
    rw [patV_patS hr hpos, ← e, ← sg_prod]
    congr 1
    unfold sg
    by_cases c : p < 0
    · rw [decide_eq_true c]; simp; omega
    · rw [decide_eq_false c]; simp; omega
  have hk : pok (patS (decide (p < 0)) (r : Int)) = true := by
    rw [patS_pok (Int.natCast_nonneg _) (Int.le_of_lt hr) (fun c => by have := hpos c; omega)]
    exact decide_eq_true hr
  have hn : rng (patS (decide (p < 0)) (r : Int)) := (patS_rng (Int.natCast_nonneg _) (Int.le_of_lt hr)).1
  refine ⟨_, e1, ?_, ?_⟩
  · rw [order_wd hn hb hk h, hV]
  · rw [order_wd hb hn h hk, hV]
theorem zero_word {b : Int} (hb : rng b) (h : pok b = true) : Ieee.double.order (wd b) 0 = some (compare (patV b) 0) := by
  have e := order_wd (p := b) (q := 0) hb (by unfold rng; decide) h (by decide)
  have z : patV 0 = 0 := by
    unfold patV
    rw [show pmag 0 = 0 by decide, sg_zero, Int.zero_mul]
  rw [z] at e
  exact e
end Go.Proofs.YteobbaefodckfaaDoor.roundWhole
