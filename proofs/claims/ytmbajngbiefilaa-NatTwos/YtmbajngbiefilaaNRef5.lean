/-
  The document's own division, bit by bit: the mathematics and the memory of a step.
-/
import Derived.Test.YtmbajngbiefilaaNRef4
import Derived.Test.YtmbajngbiefilaaNKeep
import Derived.Test.YtmbajngbiefilaaND0
namespace Go.Proofs.Ytmbajngbiefilaa
open Go Go.RowKit Go.Proofs.Ytmbajngbiefilaa.M
set_option linter.unusedSimpArgs false
set_option linter.unusedVariables false

/-- A digit is what is left of the value. -/
theorem dig_of {d : Nat → Int} {n q : Nat} (hd : Dig d n) (hq : q < n) : d q = val d n / P q % 1073741824 := by
  obtain ⟨m, rfl⟩ : ∃ m, n = q + (1 + m) := ⟨n - q - 1, by omega⟩
  have h := val_drop d (show q ≤ q + (1 + m) by omega) hd
  rw [← h, Nat.add_sub_cancel_left, Nat.add_comm 1 m, val_cons]
  have hq0 := hd q (by omega)
  show d q = (d q + _) % _
  rw [Int.add_mul_emod_self_left, Int.emod_eq_of_lt hq0.1 hq0.2]
/-- State of the division: c is 2 ahead of a bit's step, 1 behind it. -/
structure DivS (w0 wr : World) (n : Nat) (A B : Int) (i : Nat) (rv : Value) (qd : Nat → Int) (t : Nat) (d : Nat → Int) (Q R c : Int) : Prop where
  blk : Blk wr w0.heap.size n qd
  dig : Dig qd n
  out : Out (w0.heap.size + 1) wr rv t d
  nrm : Nrm d t
  vr : val d t = R
  eq : A / 2 ^ i = c * B * Q + R
  lt : R < c * B
  vq : val qd n = Q * (c * 2 ^ i)
  below : Below w0.heap.size w0 wr
theorem DivS.keeps {w0 wr w' : World} {n : Nat} {A B : Int} {i : Nat} {rv : Value} {qd : Nat → Int} {t : Nat} {d : Nat → Int} {Q R c : Int} (h : DivS w0 wr n A B i rv qd t d Q R c) (hb : Below wr.heap.size wr w') : DivS w0 w' n A B i rv qd t d Q R c :=
  ⟨h.blk.keeps hb, h.dig, h.out.stays hb, h.nrm, h.vr, h.eq, h.lt, h.vq, h.below.trans (hb.mono h.below.size)⟩
theorem DivS.room {w0 wr : World} {n : Nat} {A B : Int} {i q p : Nat} {rv : Value} {qd : Nat → Int} {t : Nat} {d : Nat → Int} {Q R : Int} (h : DivS w0 wr n A B i rv qd t d Q R 2) (hi : i = 30 * q + p) (hp : p < 30) (hq : q < n) : 0 ≤ qd q ∧ qd q + 2 ^ p < 1073741824 := by
  have e := dig_of h.dig hq
  have h0 := h.dig q hq
  refine ⟨h0.1, ?_⟩
  have hv : val qd n / P q = Q * 2 ^ (p + 1) := by
    rw [h.vq, hi, Int.pow_add, ← P_two, show Q * (2 * (P q * 2 ^ p)) = Q * 2 ^ (p + 1) * P q by rw [Int.pow_succ]; grind]
    exact Int.mul_ediv_cancel _ (by have := P_pos q; omega)
  have hs : (1073741824 : Int) = 2 ^ (29 - p) * 2 ^ (p + 1) := by rw [← Int.pow_add, show 29 - p + (p + 1) = 30 by omega]; rfl
  have hpp := two_pos (p + 1)
  rw [hv] at e
  have e2 : Q * 2 ^ (p + 1) % 1073741824 = Q % 2 ^ (29 - p) * 2 ^ (p + 1) := by
    rw [hs, Int.mul_comm Q, Int.mul_comm (2 ^ (29 - p)) (2 ^ (p + 1)), Int.mul_emod_mul_of_pos _ _ hpp, Int.mul_comm]
  rw [e2] at e
  have m1 := Int.emod_lt_of_pos Q (two_pos (29 - p))
  have m2 : (Q % 2 ^ (29 - p) + 1) * 2 ^ (p + 1) ≤ 2 ^ (29 - p) * 2 ^ (p + 1) := Int.mul_le_mul_of_nonneg_right (by omega) (by omega)
  rw [← hs, Int.add_mul, ← e] at m2
  have m3 : (2 : Int) ^ (p + 1) = 2 ^ p * 2 := Int.pow_succ _ _
  have := two_pos p
  omega
theorem DivS.sub {w0 wr w' : World} {n : Nat} {A B : Int} {i q p : Nat} {rv v : Value} {qd : Nat → Int} {t : Nat} {d : Nat → Int} {Q R : Int} (h : DivS w0 wr n A B i rv qd t d Q R 2) (hi : i = 30 * q + p) (hp : p < 30) (hq : q < n) (hA : Ans wr w' (R - B) v) :
    ∃ t' d', DivS w0 (w'.setCell ⟨w0.heap.size, q, none⟩ (.int .i64 (qd q + 2 ^ p))) n A B i v (upd qd q (qd q + 2 ^ p)) t' d' (2 * Q + 1) (R - B) 1 := by
  obtain ⟨t', d', hO, hN, hv, hb⟩ := hA
  have hr := h.room hi hp hq
  have h2 := h.keeps hb
  have hsz := h.blk.lt
  refine ⟨t', d', (h2.blk.store q _), h.dig.upd _ ⟨by have := two_pos p; omega, hr.2⟩, (hO.lower (by omega)).of_block fun g hg => ?_, hN, hv, ?_, ?_, ?_, h2.below.setCell (Nat.le_refl _) _⟩
  · have := (hO.ge hg).1
    exact heap_setCell_other _ _ _ _ (by show g ≠ w0.heap.size; omega)
  · rw [h.eq]; grind
  · have := h.lt; omega
  · rw [val_upd _ _ hq, h.vq, show qd q + 2 ^ p - qd q = 2 ^ p by omega, show (2 : Int) ^ p * P q = 2 ^ i by rw [hi, Int.pow_add, ← P_two, Int.mul_comm]]
    grind
theorem DivS.skip {w0 wr : World} {n : Nat} {A B : Int} {i : Nat} {rv : Value} {qd : Nat → Int} {t : Nat} {d : Nat → Int} {Q R : Int} (h : DivS w0 wr n A B i rv qd t d Q R 2) (hlt : R < B) : DivS w0 wr n A B i rv qd t d (2 * Q) R 1 :=
  ⟨h.blk, h.dig, h.out, h.nrm, h.vr, by rw [h.eq]; grind, by omega, by rw [h.vq]; grind, h.below⟩
theorem half_bit (A : Int) (i : Nat) : A / 2 ^ i = 2 * (A / 2 ^ (i + 1)) + (if bitB A i then 1 else 0) := by
  rw [Int.pow_succ, ← Int.ediv_ediv_of_nonneg (Int.le_of_lt (two_pos i))]
  unfold bitB
  generalize A / 2 ^ i = X
  by_cases h : X % 2 = 1
  · simp [h]; omega
  · have : ¬ ((X % 2 == 1) = true) := by simp [h]
    rw [if_neg this]; omega
theorem DivS.next {w0 wr w1 w' : World} {n : Nat} {A B : Int} {i : Nat} {rv v : Value} {qd : Nat → Int} {t : Nat} {d : Nat → Int} {Q R V : Int} (h : DivS w0 wr n A B (i + 1) rv qd t d Q R 1) (hb : Below wr.heap.size wr w1) (hA : Ans w1 w' V v) (hV : V = 2 * R + (if bitB A i then 1 else 0)) :
    ∃ t' d', DivS w0 w' n A B i v qd t' d' Q V 2 := by
  obtain ⟨t', d', hO, hN, hv, hb'⟩ := hA
  have hsz := h.blk.lt
  have h2 := h.keeps (bel_trans hb hb')
  have hb1 := hb.size
  refine ⟨t', d', h2.blk, h.dig, hO.lower (by omega), hN, hv, ?_, ?_, ?_, h2.below⟩
  · rw [half_bit, h.eq, hV]; grind
  · have := h.lt
    split at hV <;> omega
  · rw [h.vq, Int.pow_succ]; grind
theorem DivS.done {w0 wr : World} {n : Nat} {A B : Int} {rv : Value} {qd : Nat → Int} {t : Nat} {d : Nat → Int} {Q R : Int} (h : DivS w0 wr n A B 0 rv qd t d Q R 1) (hB : 0 < B) : A / B = Q ∧ A % B = R ∧ val qd n = Q := by
  have e := h.eq
  have h1 := h.lt
  have h0 := val_nonneg h.nrm.1
  rw [h.vr] at h0
  rw [Int.pow_zero, Int.ediv_one] at e
  have hv := h.vq
  have k := (Int.ediv_emod_unique (a := A) (b := B) (r := R) (q := Q) hB).2 ⟨by rw [e]; grind, h0, by omega⟩
  exact ⟨k.1, k.2, by rw [hv]; simp⟩
theorem DivS.ans {w0 wr : World} {n : Nat} {A B : Int} {rv v1 : Value} {qd : Nat → Int} {t : Nat} {d : Nat → Int} {Q R : Int} (h : DivS w0 wr n A B 0 rv qd t d Q R 1) (hB : 0 < B) {t1 : Nat} (hO : Out w0.heap.size wr v1 t1 qd) (ht : Nrm qd t1 ∧ val qd t1 = val qd n) (hown : ∀ k, v1.ownBlock = some k → k = w0.heap.size) : Ans2 w0 wr (A / B) v1 (A % B) rv := by
  obtain ⟨e1, e2, e3⟩ := h.done hB
  refine ⟨⟨t1, qd, hO, ht.1, by rw [ht.2, e1, e3], h.below⟩, ⟨t, d, h.out.lower (by omega), h.nrm, by rw [h.vr, e2], h.below⟩, fun k hk hk' => ?_⟩
  have a := hown k hk
  have b := (h.out.ge hk').1
  omega
end Go.Proofs.Ytmbajngbiefilaa
