/-
  Package dyadic: compare, Cmp, by contracts.
-/
import Derived.Test.YtcpjdgfnblkfpaaGreatDoorDFace
import Derived.Deep.RegionHeld3
namespace Go.Proofs.YtcpjdgfnblkfpaaGreatDoor
open Go Go.RowKit Go.Proofs.YtcpjdgfnblkfpaaGreatDoor.M
set_option linter.unusedSimpArgs false
set_option linter.unusedVariables false

theorem ord_scale {a b p : Int} (hp : 0 < p) : ord (a * p) (b * p) = ord a b := by
  rcases Int.lt_trichotomy a b with h | h | h
  · rw [ord_lt h, ord_lt (Int.mul_lt_mul_of_pos_right h hp)]
  · rw [ord_eq h, ord_eq (by rw [h])]
  · rw [ord_gt h, ord_gt (Int.mul_lt_mul_of_pos_right h hp)]
/-- What reaches higher is greater. -/
theorem top_lt {a b e f : Int} (ha : 0 < a) (hb : 0 < b) (he : -4194304 ≤ e) (hf : -4194304 ≤ f) (h : e + blen a < f + blen b) : a * pw e < b * pw f := by
  have h1 := blen_lt a
  have h2 := (blen_pos hb)
  have hpe := pw_pos e
  have hpf := pw_pos f
  have c1 : a * pw e < 2 ^ blen a * pw e := Int.mul_lt_mul_of_pos_right h1 hpe
  have c2 : 2 ^ (blen b - 1) * pw f ≤ b * pw f := Int.mul_le_mul_of_nonneg_right h2.2 (Int.le_of_lt hpf)
  have c3 : 2 ^ blen a * pw e ≤ 2 ^ (blen b - 1) * pw f := by
    unfold pw
    rw [← Int.pow_add, ← Int.pow_add]
    exact two_le (by have := h2.1; omega)
  omega
theorem ord_tops {a b e f : Int} (ha : 0 < a) (hb : 0 < b) (he : -4194304 ≤ e) (hf : -4194304 ≤ f) (h : e + blen a ≠ f + blen b) : ord (e + blen a) (f + blen b) = ord (a * pw e) (b * pw f) := by
  rcases Int.lt_or_gt_of_ne h with h1 | h1
  · rw [ord_lt h1, ord_lt (top_lt ha hb he hf h1)]
  · rw [ord_gt h1, ord_gt (top_lt hb ha hf he h1)]
theorem ord_low {a b e f low : Int} (hl : -4194304 ≤ low) (he : low ≤ e) (hf : low ≤ f) : ord (a * 2 ^ (e - low).toNat) (b * 2 ^ (f - low).toNat) = ord (a * pw e) (b * pw f) := by
  rw [pw_sub hl he, pw_sub hl hf, ← Int.mul_assoc, ← Int.mul_assoc, ord_scale (pw_pos _)]
/-- Two numbers' own blocks, behind a call. -/
theorem keep66 {W w' : World} {g h : Nat} {a b c d e f : Value} (hb : Below W.heap.size W w') (hS : (W.cell? ⟨g, 0, none⟩ = some a ∧ W.cell? ⟨g, 1, none⟩ = some b ∧ W.cell? ⟨g, 2, none⟩ = some c) ∧ W.cell? ⟨h, 0, none⟩ = some d ∧ W.cell? ⟨h, 1, none⟩ = some e ∧ W.cell? ⟨h, 2, none⟩ = some f) :
    (w'.cell? ⟨g, 0, none⟩ = some a ∧ w'.cell? ⟨g, 1, none⟩ = some b ∧ w'.cell? ⟨g, 2, none⟩ = some c) ∧ w'.cell? ⟨h, 0, none⟩ = some d ∧ w'.cell? ⟨h, 1, none⟩ = some e ∧ w'.cell? ⟨h, 2, none⟩ = some f :=
  ⟨keepB hS.1 hb, keepB hS.2 hb⟩
theorem ord_three (a b : Int) : ord a b = 1 ∨ ord a b = 0 ∨ ord a b = -1 := by
  rcases Int.lt_trichotomy a b with h | h | h
  · exact .inr (.inr (ord_lt h))
  · exact .inr (.inl (ord_eq h))
  · exact .inl (ord_gt h)
theorem sgn_V {x : NumR} (sx : Sane x) : (sgn x.ng x.n = 0 ∧ x.V = 0 ∧ x.n = 0) ∨ (sgn x.ng x.n = 1 ∧ 0 < x.V ∧ 0 < x.n ∧ x.ng = false) ∨ (sgn x.ng x.n = -1 ∧ x.V < 0 ∧ 0 < x.n ∧ x.ng = true) := by
  by_cases h0 : x.n = 0
  · left
    refine ⟨by simp [sgn, h0], ?_, h0⟩
    show sg x.ng (val x.d x.n) * _ = 0
    rw [h0]
    show sg x.ng 0 * _ = 0
    rw [sg_zero, Int.zero_mul]
  · right
    have hp := Int.mul_pos (val_pos sx.1 (show 0 < x.n by omega)) (pw_pos x.e)
    have hV : x.V = sg x.ng (val x.d x.n) * pw x.e := rfl
    cases hg : x.ng
    · left
      rw [hg] at hV
      exact ⟨by simp [sgn, h0], by rw [hV]; exact hp, by omega, rfl⟩
    · right
      rw [hg] at hV
      refine ⟨by simp [sgn, h0], ?_, by omega, rfl⟩
      rw [hV]
      show -val x.d x.n * pw x.e < 0
      rw [Int.neg_mul]; omega
theorem ord_signs {x y : NumR} (sx : Sane x) (sy : Sane y) (h : sgn x.ng x.n ≠ sgn y.ng y.n) : ord (sgn x.ng x.n) (sgn y.ng y.n) = ord x.V y.V := by
  rcases sgn_V sx with ⟨a, b, _⟩ | ⟨a, b, _⟩ | ⟨a, b, _⟩ <;> rcases sgn_V sy with ⟨c, d, _⟩ | ⟨c, d, _⟩ | ⟨c, d, _⟩ <;> rw [a, c] at h ⊢ <;>
    first
      | exact absurd rfl h
      | (rw [ord_lt (by decide), ord_lt (by omega)])
      | (rw [ord_gt (by decide), ord_gt (by omega)])
theorem ord_neg (a b : Int) : ord (-a) (-b) = -ord a b := by
  rcases Int.lt_trichotomy a b with h | h | h
  · rw [ord_lt h, ord_gt (by omega)]; rfl
  · rw [ord_eq h, ord_eq (by omega)]; rfl
  · rw [ord_gt h, ord_lt (by omega)]
theorem ord_same {x y : NumR} (ox : okR x = true) (oy : okR y = true) (h : sgn x.ng x.n = sgn y.ng y.n) : ((0 < x.n ∧ 0 < y.n) ∨ (x.n = 0 ∧ y.n = 0 ∧ x.e = y.e)) ∧ sgn x.ng x.n * ord (val x.d x.n * pw x.e) (val y.d y.n * pw y.e) = ord x.V y.V := by
  have hV : x.V = sg x.ng (val x.d x.n) * pw x.e := rfl
  have hW : y.V = sg y.ng (val y.d y.n) * pw y.e := rfl
  rcases sgn_V (okR_sane ox) with ⟨a, b, c⟩ | ⟨a, b, c, d⟩ | ⟨a, b, c, d⟩ <;> rcases sgn_V (okR_sane oy) with ⟨a', b', c'⟩ | ⟨a', b', c', d'⟩ | ⟨a', b', c', d'⟩ <;> rw [a, a'] at h <;> first | (exfalso; omega) | skip
  · refine ⟨.inr ⟨c, c', ?_⟩, ?_⟩
    · rcases of_decide_eq_true ox with ⟨_, _, e1⟩ | ⟨e1, _⟩
      · rcases of_decide_eq_true oy with ⟨_, _, e2⟩ | ⟨e2, _⟩
        · omega
        · omega
      · omega
    · rw [a, b, b', Int.zero_mul, ord_eq rfl]
  · refine ⟨.inl ⟨c, c'⟩, ?_⟩
    rw [a, hV, hW, d, d', Int.one_mul]; rfl
  · refine ⟨.inl ⟨c, c'⟩, ?_⟩
    rw [a, hV, hW, d, d']
    show -1 * _ = ord (-val x.d x.n * _) (-val y.d y.n * _)
    rw [Int.neg_mul (val x.d x.n), Int.neg_mul (val y.d y.n), ord_neg]; omega
end Go.Proofs.YtcpjdgfnblkfpaaGreatDoor
