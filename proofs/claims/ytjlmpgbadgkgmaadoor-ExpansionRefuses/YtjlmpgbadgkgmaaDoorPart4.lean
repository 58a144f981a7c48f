/-
  Parts of the proof, one behind another.
-/
import Derived.Test.YtjlmpgbadgkgmaaDoorPart1
import Derived.Test.YtjlmpgbadgkgmaaDoorPart3
import Derived.Deep.Cut
import Derived.BigRegion
import Derived.Lib.SliceRun
import Derived.Deep.OwnRows
import Derived.Deep.RegionWith
import Derived.Deep.CutRange
import Derived.Laws.CopyOwn
/-
  Plain mathematics of long division (a digit guessed from the highest ones), of square roots from above, of common divisors from the highest bits. No Go text in sight.
-/
namespace Go.Proofs.YtjlmpgbadgkgmaaDoor.M
open Go
set_option linter.unusedSimpArgs false
set_option linter.unusedVariables false

theorem mul_le_r {a b c : Int} (h : a ≤ b) (hc : 0 ≤ c) : a * c ≤ b * c := Int.mul_le_mul_of_nonneg_right h hc
theorem mul_le_l {a b c : Int} (h : a ≤ b) (hc : 0 ≤ c) : c * a ≤ c * b := Int.mul_le_mul_of_nonneg_left h hc

/-- The guess is too great by what the second digit tells. -/
theorem knuth_dec {U V p v1 v2 vl head u2 ul times left : Int} (hV : V = (v1 * 1073741824 + v2) * p + vl) (hvl : 0 ≤ vl) (hU : U = (head * 1073741824 + u2) * p + ul) (hul : ul < p)
    (hp : 0 < p) (hh : head = times * v1 + left) (ht : 0 ≤ times) (h : left * 1073741824 + u2 < times * v2) : U < times * V := by
  have h1 : (left * 1073741824 + u2 + 1) * p ≤ times * v2 * p := mul_le_r (by omega) (by omega)
  have h2 : 0 ≤ times * vl := Int.mul_nonneg ht hvl
  have e1 : times * V = times * v1 * 1073741824 * p + times * v2 * p + times * vl := by rw [hV]; grind
  have e2 : U = times * v1 * 1073741824 * p + (left * 1073741824 + u2 + 1) * p - p + ul := by rw [hU, hh]; grind
  omega
/-- A guess whose rest is a digit too long is not too great. -/
theorem knuth_long {U V p v1 v2 vl head u2 ul times left : Int} (hV : V = (v1 * 1073741824 + v2) * p + vl) (hvl : vl < p) (hv2 : v2 < 1073741824) (hU : U = (head * 1073741824 + u2) * p + ul) (hul : 0 ≤ ul) (hu2 : 0 ≤ u2)
    (hp : 0 < p) (hh : head = times * v1 + left) (ht : 0 ≤ times) (ht2 : times < 1073741824) (h : 1073741824 ≤ left) : times * V ≤ U := by
  have h0 : v2 * p ≤ 1073741823 * p := mul_le_r (by omega) (by omega)
  have e0 : (v1 + 1) * (1073741824 * p) = v1 * 1073741824 * p + 1073741823 * p + p := by grind
  have e1 : V = v1 * 1073741824 * p + v2 * p + vl := by rw [hV]; grind
  have h1 : times * V ≤ times * ((v1 + 1) * (1073741824 * p)) := mul_le_l (by omega) ht
  have h2 : (times * v1 + times) * (1073741824 * p) ≤ head * (1073741824 * p) := mul_le_r (by omega) (by omega)
  have h3 : 0 ≤ u2 * p := Int.mul_nonneg hu2 (by omega)
  have e2 : U = head * (1073741824 * p) + u2 * p + ul := by rw [hU]; grind
  have e3 : times * ((v1 + 1) * (1073741824 * p)) = (times * v1 + times) * (1073741824 * p) := by grind
  omega
/-- A guess that the second digit lets stand is too great by one at most. -/
theorem knuth_short {U V p v1 v2 vl head u2 ul times left : Int} (hV : V = (v1 * 1073741824 + v2) * p + vl) (hvl0 : 0 ≤ vl) (hvl : vl < p) (hv1 : 1 ≤ v1) (hv2 : 0 ≤ v2) (hU : U = (head * 1073741824 + u2) * p + ul) (hul : 0 ≤ ul)
    (hp : 0 < p) (hh : head = times * v1 + left) (ht : 0 ≤ times) (ht2 : times < 1073741824) (h : times * v2 ≤ left * 1073741824 + u2) : (times - 1) * V ≤ U := by
  have h1 : times * vl ≤ times * p := mul_le_l (by omega) ht
  have h2 : times * v2 * p ≤ (left * 1073741824 + u2) * p := mul_le_r h (by omega)
  have h3 : times * p ≤ 1073741824 * p := mul_le_r (by omega) (by omega)
  have h4 : 1 * (1073741824 * p) ≤ v1 * (1073741824 * p) := mul_le_r hv1 (by omega)
  have h5 : 0 ≤ v2 * p := Int.mul_nonneg hv2 (by omega)
  have e0 : V = v1 * (1073741824 * p) + v2 * p + vl := by rw [hV]; grind
  have e1 : (times - 1) * V = times * v1 * 1073741824 * p + times * v2 * p + times * vl - V := by rw [hV]; grind
  have e2 : U = times * v1 * 1073741824 * p + (left * 1073741824 + u2) * p + ul := by rw [hU, hh]; grind
  omega

/-- Quotient and rest are told by what they must be. -/
theorem div_of {a b q r : Int} (h : a = q * b + r) (h0 : 0 ≤ r) (h1 : r < b) : q = a / b ∧ r = a % b := by
  have hb : 0 < b := by omega
  subst h
  rw [Int.add_comm, Int.add_mul_ediv_right _ _ (by omega), Int.ediv_eq_zero_of_lt h0 h1, Int.add_mul_emod_self_right, Int.emod_eq_of_lt h0 h1]
  omega

/-- A step from above stays above. -/
theorem newton_above {a s t : Int} (hs : 0 < s) (ht : t * t ≤ a) : t ≤ (s + a / s) / 2 := by
  have h1 : 0 ≤ (s - t) * (s - t) := by
    rcases Int.le_total 0 (s - t) with h | h
    · exact Int.mul_nonneg h h
    · have h := Int.mul_nonneg (show 0 ≤ t - s by omega) (show 0 ≤ t - s by omega)
      rwa [show (t - s) * (t - s) = (s - t) * (s - t) by grind] at h
  have e1 : (s - t) * (s - t) = t * t - (2 * t - s) * s := by grind
  have h2 : (2 * t - s) * s ≤ a := by omega
  have h3 : 2 * t - s ≤ a / s := (Int.le_ediv_iff_mul_le hs).2 h2
  omega
theorem newton_stop {a s : Int} (hs : 0 < s) (h : s ≤ (s + a / s) / 2) : s * s ≤ a := by
  have h1 : s ≤ a / s := by omega
  exact (Int.le_ediv_iff_mul_le hs).1 h1
theorem root_unique {a s t : Int} (hs : 0 ≤ s) (ht : 0 ≤ t) (h1 : s * s ≤ a) (h2 : a < (s + 1) * (s + 1)) (h3 : t * t ≤ a) (h4 : a < (t + 1) * (t + 1)) : s = t := by
  rcases Int.lt_trichotomy s t with h | h | h
  · have h5 : (s + 1) * (s + 1) ≤ t * (s + 1) := mul_le_r (show s + 1 ≤ t by omega) (show 0 ≤ s + 1 by omega)
    have h6 : t * (s + 1) ≤ t * t := mul_le_l (show s + 1 ≤ t by omega) ht
    omega
  · exact h
  · have h5 : (t + 1) * (t + 1) ≤ s * (t + 1) := mul_le_r (show t + 1 ≤ s by omega) (show 0 ≤ t + 1 by omega)
    have h6 : s * (t + 1) ≤ s * s := mul_le_l (show t + 1 ≤ s by omega) hs
    omega

/-- Euclid's steps put together (sg is 1 or -1): what they say of x and y, the heads x0 and y0. -/
structure Steps (x0 y0 x y fA fB nA nB sg : Int) : Prop where
  sgn : sg = 1 ∨ sg = -1
  ex : x = sg * (fA * x0 - fB * y0)
  ey : y = sg * (nB * y0 - nA * x0)
  det : fA * nB - fB * nA = sg
  fA0 : 0 ≤ fA
  fB0 : 0 ≤ fB
  nA0 : 0 ≤ nA
  nB1 : 1 ≤ nB
theorem Steps.back_x {x0 y0 x y fA fB nA nB sg : Int} (h : Steps x0 y0 x y fA fB nA nB sg) : nB * x + fB * y = x0 := by
  have hs := h.sgn
  rw [h.ex, h.ey]
  have hd := h.det
  rcases hs with rfl | rfl <;> grind
theorem Steps.back_y {x0 y0 x y fA fB nA nB sg : Int} (h : Steps x0 y0 x y fA fB nA nB sg) : nA * x + fA * y = y0 := by
  have hs := h.sgn
  rw [h.ex, h.ey]
  have hd := h.det
  rcases hs with rfl | rfl <;> grind
theorem Steps.start (x0 y0 : Int) : Steps x0 y0 x0 y0 1 0 0 1 1 := ⟨.inl rfl, by omega, by omega, by omega, by omega, by omega, by omega, by omega⟩
theorem Steps.step {x0 y0 x y fA fB nA nB sg : Int} (h : Steps x0 y0 x y fA fB nA nB sg) {q : Int} (hq : 1 ≤ q) :
    Steps x0 y0 y (x - q * y) nA nB (fA + q * nA) (fB + q * nB) (-sg) := by
  have h1 := Int.mul_nonneg (show 0 ≤ q by omega) h.nA0
  have h2 : 1 * nB ≤ q * nB := mul_le_r hq (by have := h.nB1; omega)
  have hf := h.fA0
  have hg := h.fB0
  have hn := h.nB1
  refine ⟨by rcases h.sgn with e | e <;> omega, ?_, ?_, ?_, h.nA0, by omega, by omega, by omega⟩
  · rw [h.ey]; grind
  · rw [h.ey, h.ex]; grind
  · have := h.det; grind
/-- What is sure of the heads is sure of the whole numbers. -/
theorem Steps.whole {x0 y0 x y fA fB nA nB sg S al be : Int} (h : Steps x0 y0 x y fA fB nA nB sg) (hS : 0 < S) (ha0 : 0 ≤ al) (ha : al < S) (hb0 : 0 ≤ be) (hb : be < S)
    (hab : nA ≤ nB) (hfb : fA ≤ fB) (hy : nB ≤ y) (hx : nB + fB ≤ x - y) :
    0 < sg * (nB * (y0 * S + be) - nA * (x0 * S + al)) ∧ sg * (nB * (y0 * S + be) - nA * (x0 * S + al)) < sg * (fA * (x0 * S + al) - fB * (y0 * S + be)) := by
  have hn := h.nB1
  have hf := h.fB0
  have k1 : nB * be ≤ nB * (S - 1) := mul_le_l (by omega) (by omega)
  have k2 : nA * al ≤ nA * (S - 1) := mul_le_l (by omega) h.nA0
  have k3 : nA * (S - 1) ≤ nB * (S - 1) := mul_le_r hab (by omega)
  have k4 : 0 ≤ nB * be := Int.mul_nonneg (by omega) hb0
  have k5 : 0 ≤ nA * al := Int.mul_nonneg h.nA0 ha0
  have k6 : nB * S ≤ y * S := mul_le_r hy (by omega)
  have k7 : (nB + fB) * S ≤ (x - y) * S := mul_le_r hx (by omega)
  have m1 : fB * be ≤ fB * (S - 1) := mul_le_l (by omega) hf
  have m2 : fA * al ≤ fA * (S - 1) := mul_le_l (by omega) h.fA0
  have m3 : fA * (S - 1) ≤ fB * (S - 1) := mul_le_r hfb (by omega)
  have m4 : 0 ≤ fB * be := Int.mul_nonneg hf hb0
  have m5 : 0 ≤ fA * al := Int.mul_nonneg h.fA0 ha0
  have ex := h.ex
  have ey := h.ey
  have e1 : nB * (y0 * S + be) - nA * (x0 * S + al) = (nB * y0 - nA * x0) * S + nB * be - nA * al := by grind
  have e2 : fA * (x0 * S + al) - fB * (y0 * S + be) = (fA * x0 - fB * y0) * S + fA * al - fB * be := by grind
  have e3 : nB * (S - 1) = nB * S - nB := by grind
  have e4 : fB * (S - 1) = fB * S - fB := by grind
  have e5 : (nB + fB) * S = nB * S + fB * S := by grind
  have e6 : (x - y) * S = x * S - y * S := by grind
  rw [e1, e2]
  rcases h.sgn with rfl | rfl
  · have e7 : (nB * y0 - nA * x0) * S = y * S := by rw [ey]; grind
    have e8 : (fA * x0 - fB * y0) * S = x * S := by rw [ex]; grind
    constructor <;> omega
  · have e7 : (nB * y0 - nA * x0) * S = - (y * S) := by rw [ey]; grind
    have e8 : (fA * x0 - fB * y0) * S = - (x * S) := by rw [ex]; grind
    constructor <;> omega
theorem gcd_comb {a b a' b' p q r s t u v w : Int} (h1 : a' = p * a + q * b) (h2 : b' = r * a + s * b) (h3 : a = t * a' + u * b') (h4 : b = v * a' + w * b') : Int.gcd a' b' = Int.gcd a b := by
  have d1 : ∀ x y z k l : Int, x ∣ y → x ∣ z → x ∣ k * y + l * z := fun x y z k l hy hz => Int.dvd_add (Int.dvd_mul_of_dvd_right hy) (Int.dvd_mul_of_dvd_right hz)
  apply Nat.dvd_antisymm
  · apply Int.dvd_gcd
    · have := d1 _ _ _ t u (Int.gcd_dvd_left a' b') (Int.gcd_dvd_right a' b'); rw [← h3] at this; exact this
    · have := d1 _ _ _ v w (Int.gcd_dvd_left a' b') (Int.gcd_dvd_right a' b'); rw [← h4] at this; exact this
  · apply Int.dvd_gcd
    · have := d1 _ _ _ p q (Int.gcd_dvd_left a b) (Int.gcd_dvd_right a b); rw [← h1] at this; exact this
    · have := d1 _ _ _ r s (Int.gcd_dvd_left a b) (Int.gcd_dvd_right a b); rw [← h2] at this; exact this
end Go.Proofs.YtjlmpgbadgkgmaaDoor.M

/-
  A call that writes one block of its caller's (Wr), and what stays; slices that are written in their place.
-/
namespace Go.Proofs.YtjlmpgbadgkgmaaDoor
open Go Go.RowKit Go.Proofs.YtjlmpgbadgkgmaaDoor.M
set_option linter.unusedSimpArgs false
set_option linter.unusedVariables false

/-- w' is w with new blocks, and with writes to block g alone. -/
structure Wr (g : Nat) (w w' : World) : Prop where
  os : w'.os = w.os
  tape : w'.tape = w.tape
  output : w'.output = w.output
  size : w.heap.size ≤ w'.heap.size
  block : ∀ k, k < w.heap.size → k ≠ g → w'.heap[k]? = w.heap[k]?
theorem Wr.refl (g : Nat) (w : World) : Wr g w w := ⟨rfl, rfl, rfl, Nat.le_refl _, fun _ _ _ => rfl⟩
theorem Wr.trans {g : Nat} {a b c : World} (h : Wr g a b) (k : Wr g b c) : Wr g a c :=
  ⟨k.os.trans h.os, k.tape.trans h.tape, k.output.trans h.output, Nat.le_trans h.size k.size, fun i hi hg => (k.block i (Nat.lt_of_lt_of_le hi h.size) hg).trans (h.block i hi hg)⟩
theorem Wr.setCell {g : Nat} {a w : World} (h : Wr g a w) (o : Nat) (u : Value) : Wr g a (w.setCell ⟨g, o, none⟩ u) :=
  ⟨h.os, h.tape, h.output, by simp [World.setCell]; exact h.size, fun k hk hg => (Below.heap_setCell _ _ _ _ hg).trans (h.block k hk hg)⟩
theorem Wr.drew {g : Nat} {a w : World} (h : Wr g a w) : Wr g a w.drew := ⟨h.os, h.tape, h.output, h.size, h.block⟩
theorem Wr.drewN {g : Nat} {a w : World} (h : Wr g a w) (n : Nat) : Wr g a (w.drewN n) := ⟨h.os, h.tape, h.output, h.size, h.block⟩
theorem Below.wr {B g : Nat} {a w : World} (h : Below B a w) (hB : w.heap.size ≤ B) : Wr g w w → Below B a w := fun _ => h
theorem wr_of {g : Nat} {a w : World} (h : Below a.heap.size a w) : Wr g a w := ⟨h.os, h.tape, h.output, h.size, fun k hk _ => h.block k hk⟩
theorem Wr.below {B g : Nat} {a w w' : World} (h : Wr g w w') (hb : Below B a w) (hB : B ≤ w.heap.size) (hg : B ≤ g) : Below B a w' :=
  hb.trans ⟨h.os, h.tape, h.output, h.size, fun k hk => h.block k (by omega) (by omega)⟩
theorem Wr.cell {g : Nat} {w w' : World} (h : Wr g w w') {p : Addr} (hp : p.block < w.heap.size) (hg : p.block ≠ g) : w'.cell? p = w.cell? p := World.cell?_of_block (w := w) (h.block p.block hp hg)
/-- A slice that is read, not of block g. -/
structure RowX (g : Nat) (w : World) (ao : Option Addr) (n cap : Nat) (d : Nat → Int) : Prop where
  le : n ≤ cap
  max : cap ≤ 9223372036854775807
  spot : 0 < n → ∃ b off, ao = some ⟨b, off, none⟩ ∧ b < w.heap.size ∧ b ≠ g ∧ ∀ i, i < n → w.cell? ⟨b, off + i, none⟩ = some (.int .i64 (d i))
theorem RowX.keeps {g : Nat} {w w' : World} {ao : Option Addr} {n cap : Nat} {d : Nat → Int} (h : RowX g w ao n cap d) (hw : Wr g w w') : RowX g w' ao n cap d :=
  ⟨h.le, h.max, fun hn => by
    obtain ⟨b, off, rfl, hlt, hg, hc⟩ := h.spot hn
    exact ⟨b, off, rfl, Nat.lt_of_lt_of_le hlt hw.size, hg, fun i hi => (hw.cell (p := ⟨b, off + i, none⟩) hlt hg).trans (hc i hi)⟩⟩
theorem RowX.of {g : Nat} {w : World} {ao : Option Addr} {n cap : Nat} {d : Nat → Int} (h : Row w ao n cap d) (hg : w.heap.size ≤ g) : RowX g w ao n cap d :=
  ⟨h.le, h.max, fun hn => by
    obtain ⟨b, off, rfl, hlt, hc⟩ := h.spot hn
    exact ⟨b, off, rfl, hlt, by omega, hc⟩⟩
theorem Out.store {B : Nat} {w : World} {g n cap : Nat} {d : Nat → Int} (h : Out B w (.slice (some ⟨g, 0, none⟩) n cap) n d) {i : Nat} (hi : i < n) (x : Int) :
    Out B (w.setCell ⟨g, i, none⟩ (.int .i64 x)) (.slice (some ⟨g, 0, none⟩) n cap) n (upd d i x) := by
  have h1 := (World.ownsRow.stored h i (.int .i64 x)).1
  unfold Out
  have e : vals (upd d i x) n = (vals d n).set i (.int .i64 x) := by
    refine (vals_ext (by simp [vals_length]) fun j hj => ?_).symm
    by_cases hji : j = i
    · subst hji; rw [upd_same, List.getElem?_set_self (by rw [vals_length]; exact hj)]
    · rw [upd_other d x hji, List.getElem?_set_ne (by omega), vals_get d hj]
  rw [e]; exact h1
theorem Out.spot {B : Nat} {w : World} {ao : Option Addr} {n cap : Nat} {d : Nat → Int} (h : Out B w (.slice ao n cap) n d) (hn : 0 < n) : ∃ g, ao = some ⟨g, 0, none⟩ ∧ B ≤ g ∧ g < w.heap.size := by
  rcases h.2 with ⟨_, h0⟩ | ⟨g, cap', cur, hv, hB, hg, _⟩
  · omega
  · simp only [Value.slice.injEq] at hv
    exact ⟨g, hv.1, hB, (Array.getElem?_eq_some_iff.1 hg).1⟩
theorem Out.cell {B : Nat} {w : World} {g n cap : Nat} {d : Nat → Int} (h : Out B w (.slice (some ⟨g, 0, none⟩) n cap) n d) {i : Nat} (hi : i < n) : w.cell? ⟨g, i, none⟩ = some (.int .i64 (d i)) := by
  rw [World.ownsRow.cellAt h i (by omega), vals_get d hi]
theorem Out.frozen {B : Nat} {w : World} {g n cap : Nat} {d : Nat → Int} (h : Out B w (.slice (some ⟨g, 0, none⟩) n cap) n d) (i : Nat) : w.frozen? ⟨g, i, none⟩ = false := World.ownsRow.frozenAt h i

theorem or_30 {m x : Int} (hx : 0 ≤ x ∧ x < 1073741824) (hm : 0 ≤ m) (hb : m < 4294967296) : bits .or .i64 (m * 1073741824) x = m * 1073741824 + x := by
  have h := or_add x m 30 hx.1 hx.2 hm (by show x + m * 1073741824 < _; omega)
  have e : ∀ a b : Int, bits .or .i64 a b = bits .or .i64 b a := fun a b => by rw [bits_or64, bits_or64, Nat.or_comm]
  rw [e, show m * 1073741824 = m * 2 ^ 30 from rfl, h]; omega
theorem val_cons (f : Nat → Int) (k : Nat) : val f (k + 1) = f 0 + 1073741824 * val (fun i => f (i + 1)) k := by
  have h := val_split f 1 k
  rw [Nat.add_comm 1 k] at h
  rw [h]
  have e : (fun i => f (1 + i)) = fun i => f (i + 1) := by funext i; rw [Nat.add_comm]
  rw [e]
  show 0 + f 0 * 1 + 1 * 1073741824 * _ = _
  omega
/-- One digit of a quotient by a small number. -/
theorem short_step {d r : Nat → Int} {at_ k : Nat} {D left : Int} (h : val (fun i => d (at_ + 1 + i)) k = D * val (fun i => r (at_ + 1 + i)) k + left) :
    val (fun i => d (at_ + i)) (k + 1) = D * val (fun i => upd r at_ ((left * 1073741824 + d at_) / D) (at_ + i)) (k + 1) + (left * 1073741824 + d at_) % D := by
  rw [val_cons, val_cons]
  have e1 : (fun i => d (at_ + (i + 1))) = fun i => d (at_ + 1 + i) := by funext i; rw [Nat.add_assoc, Nat.add_comm 1 i]
  have e2 : val (fun i => upd r at_ ((left * 1073741824 + d at_) / D) (at_ + (i + 1))) k = val (fun i => r (at_ + 1 + i)) k := val_congr fun i _ => by rw [upd_other r _ (by omega), Nat.add_assoc, Nat.add_comm 1 i]
  rw [e1, e2, h]
  show d (at_ + 0) + _ = D * (upd r at_ _ (at_ + 0) + _) + _
  rw [Nat.add_zero, upd_same]
  have e3 := Int.mul_ediv_add_emod (left * 1073741824 + d at_) D
  grind
end Go.Proofs.YtjlmpgbadgkgmaaDoor

/-
  Package digits: Pile, by its contract: a number is put onto columns, each column turned by less than 2^30; raise by it.
-/
namespace Go.Proofs.YtjlmpgbadgkgmaaDoor
open Go Go.RowKit Go.Proofs.YtjlmpgbadgkgmaaDoor.M
set_option linter.unusedSimpArgs false
set_option linter.unusedVariables false

theorem upd_shift (r : Nat → Int) (q k : Nat) (x : Int) : (fun i => upd r (q + k) x (q + i)) = upd (fun i => r (q + i)) k x := by
  funext i
  unfold upd
  by_cases h : i = k
  · simp [h]
  · simp [h]
theorem shl_dig {x : Int} {p : Nat} (hx : 0 ≤ x ∧ x < 1073741824) (hp : p ≤ 30) : 0 ≤ x * 2 ^ p ∧ x * 2 ^ p ≤ 1073741823 * 2 ^ p ∧ (2 : Int) ^ p ≤ 1073741824 := by
  have h := two_pos p
  exact ⟨Int.mul_nonneg hx.1 (by omega), Int.mul_le_mul_of_nonneg_right (by omega) (by omega), two_le hp⟩

/-- What stands on the columns when k digits of a were put there. -/
structure PileI (q p N n : Nat) (a r0 : Nat → Int) (s : Int) (k : Nat) (c : Int) (r : Nat → Int) : Prop where
  rest : ∀ i, q + k ≤ i → r i = r0 i
  near : ∀ i, 0 ≤ s * (r i - r0 i) ∧ s * (r i - r0 i) < 1073741824
  sum : ∃ T, val r N = val r0 N + s * (P q * T) ∧ T + c * P k = 2 ^ p * val a k
theorem PileI.put {q p N n : Nat} {a r0 : Nat → Int} {s : Int} {k : Nat} {c : Int} {r : Nat → Int} (h : PileI q p N n a r0 s k c r) (hs : s * s = 1) (hN : q + k < N) {m c' : Int} (hm : 0 ≤ m ∧ m < 1073741824) (e : m + c' * 1073741824 = c + a k * 2 ^ p) :
    PileI q p N n a r0 s (k + 1) c' (upd r (q + k) (r (q + k) + s * m)) := by
  refine ⟨fun i hi => by rw [upd_other r _ (by omega)]; exact h.rest i (by omega), fun i => ?_, ?_⟩
  · by_cases hi : i = q + k
    · subst hi
      rw [upd_same, h.rest _ (Nat.le_refl _), show s * (r0 (q + k) + s * m - r0 (q + k)) = s * s * m by grind, hs]
      omega
    · rw [upd_other r _ hi]; exact h.near i
  · obtain ⟨T, e1, e2⟩ := h.sum
    refine ⟨T + m * P k, ?_, ?_⟩
    · rw [val_upd r _ hN, e1, P_add]; grind
    · rw [val_succ, P_succ]
      have : c' * (P k * 1073741824) = (c + a k * 2 ^ p - m) * P k := by rw [show c + a k * 2 ^ p - m = c' * 1073741824 by omega]; grind
      rw [this, show T + m * P k + (c + a k * 2 ^ p - m) * P k = (T + c * P k) + a k * 2 ^ p * P k by grind, e2]; grind
/-- The columns behind it. -/
structure Piled (N : Nat) (r0 : Nat → Int) (s V : Int) (r : Nat → Int) : Prop where
  near : ∀ i, 0 ≤ s * (r i - r0 i) ∧ s * (r i - r0 i) < 1073741824
  sum : val r N = val r0 N + s * V
theorem PileI.done {q p N n : Nat} {a r0 : Nat → Int} {s : Int} {c : Int} {r : Nat → Int} (h : PileI q p N n a r0 s n c r) (hs : s * s = 1) (hN : q + n < N) (hc : 0 ≤ c ∧ c < 1073741824) :
    Piled N r0 s (P q * (2 ^ p * val a n)) (upd r (q + n) (r (q + n) + s * c)) := by
  refine ⟨fun i => ?_, ?_⟩
  · by_cases hi : i = q + n
    · subst hi
      rw [upd_same, h.rest _ (Nat.le_refl _), show s * (r0 (q + n) + s * c - r0 (q + n)) = s * s * c by grind, hs]
      omega
    · rw [upd_other r _ hi]; exact h.near i
  · obtain ⟨T, e1, e2⟩ := h.sum
    rw [val_upd r _ hN, e1, P_add, ← e2]; grind
theorem pile_near {s x y C : Int} (hs : s = 1 ∨ s = -1) (h : 0 ≤ s * (x - y) ∧ s * (x - y) < 1073741824) (hy : -C ≤ y ∧ y ≤ C) : -(C + 1073741823) ≤ x ∧ x ≤ C + 1073741823 := by
  rcases hs with rfl | rfl <;> omega
theorem sgn_mul {s m : Int} (hs : s = 1 ∨ s = -1) (hm : 0 ≤ m ∧ m < 1073741824) : -1073741823 ≤ s * m ∧ s * m ≤ 1073741823 := by
  rcases hs with rfl | rfl <;> omega
theorem sgn_sq {s : Int} (hs : s = 1 ∨ s = -1) : s * s = 1 := by rcases hs with rfl | rfl <;> rfl

end Go.Proofs.YtjlmpgbadgkgmaaDoor

/-
  Package nat: raise, lower, by contracts: for every list of digits, every shift.
-/
namespace Go.Proofs.YtjlmpgbadgkgmaaDoor
open Go Go.RowKit Go.Proofs.YtjlmpgbadgkgmaaDoor.M
set_option linter.unusedSimpArgs false
set_option linter.unusedVariables false

theorem shr_part {x y : Int} {p : Nat} (hx : 0 ≤ x ∧ x < 1073741824) (hy : 0 ≤ y ∧ y < 1073741824) (hp : p < 30) :
    0 ≤ x / 2 ^ p ∧ x / 2 ^ p < 2 ^ (30 - p) ∧ y * 2 ^ (30 - p) % 1073741824 = y % 2 ^ p * 2 ^ (30 - p) ∧ 0 ≤ y % 2 ^ p ∧ y % 2 ^ p * 2 ^ (30 - p) < 1073741824 := by
  have hu := two_pos p
  have hv := two_pos (30 - p)
  have huv : (2 : Int) ^ p * 2 ^ (30 - p) = 1073741824 := by rw [← Int.pow_add, show p + (30 - p) = 30 by omega]; rfl
  have m0 := Int.emod_nonneg y (show (2 : Int) ^ p ≠ 0 by omega)
  have m1 := Int.emod_lt_of_pos y hu
  refine ⟨Int.ediv_nonneg hx.1 (by omega), (Int.ediv_lt_iff_lt_mul hu).2 (by rw [Int.mul_comm, huv]; exact hx.2), ?_, m0, ?_⟩
  · rw [← huv, Int.mul_comm y, Int.mul_comm (2 ^ p : Int), Int.mul_emod_mul_of_pos _ _ hv, Int.mul_comm]
  · have h1 : (y % 2 ^ p + 1) * 2 ^ (30 - p) ≤ 2 ^ p * 2 ^ (30 - p) := Int.mul_le_mul_of_nonneg_right (by omega) (by omega)
    rw [huv, Int.add_mul] at h1
    omega
theorem low_last {s : Nat → Int} {u v : Int} {k : Nat} (h : s (k + 1) = 0) : low s u v k = s k / u := by
  unfold low; rw [h, Int.zero_emod, Int.zero_mul, Int.add_zero]
end Go.Proofs.YtjlmpgbadgkgmaaDoor

/-
  Package dyadic: which numbers are valid, their signs, by contracts: whatever the sign, the list, the exponent.
-/
namespace Go.Proofs.YtjlmpgbadgkgmaaDoor
open Go Go.RowKit Go.Proofs.YtjlmpgbadgkgmaaDoor.M
set_option linter.unusedSimpArgs false
set_option linter.unusedVariables false

/-- A number as a call takes it. -/
def numV (ng : Bool) (ao : Option Addr) (n cap : Nat) (e : Int) : Value := .agg #[.bool ng, .slice ao n cap, .int .i64 e]
/-- Is it valid? -/
def okN (ng : Bool) (d : Nat → Int) (n : Nat) (e : Int) : Bool := decide ((n = 0 ∧ ng = false ∧ e = 0) ∨ (0 < n ∧ (n ≤ 2000 ∧ Nrm d n) ∧ d 0 % 2 = 1 ∧ -1048576 ≤ e ∧ e ≤ 1048576))
theorem and_one (x : Int) : bits .and .i64 x 1 = x % 2 := and_i64_mask x 1 (by decide)
/-- The sign. -/
def sgn (ng : Bool) (n : Nat) : Int := if n = 0 then 0 else if ng then -1 else 1
end Go.Proofs.YtjlmpgbadgkgmaaDoor

/-
  Lists of numbers, as they lie in memory; package dyadic's valid, by its contract.
-/
namespace Go.Proofs.YtjlmpgbadgkgmaaDoor
open Go Go.RowKit Go.Proofs.YtjlmpgbadgkgmaaDoor.M
set_option linter.unusedSimpArgs false
set_option linter.unusedVariables false

/-- A number, as it lies in memory. -/
structure NumR where
  ng : Bool
  ao : Option Addr
  n : Nat
  cap : Nat
  d : Nat → Int
  e : Int
instance : Inhabited NumR := ⟨⟨false, none, 0, 0, fun _ => 0, 0⟩⟩
def NumR.v (r : NumR) : Value := .agg #[.bool r.ng, .slice r.ao r.n r.cap, .int .i64 r.e]
structure At3 (w : World) (b o : Nat) (r : NumR) : Prop where
  c0 : w.cell? ⟨b, o, none⟩ = some (.bool r.ng)
  c1 : w.cell? ⟨b, o + 1, none⟩ = some (.slice r.ao r.n r.cap)
  c2 : w.cell? ⟨b, o + 2, none⟩ = some (.int .i64 r.e)
  row : Row w r.ao r.n r.cap r.d
/-- A slice of numbers that is read. -/
structure Nums (w : World) (ao : Option Addr) (n cap : Nat) (r : Nat → NumR) : Prop where
  le : n ≤ cap
  max : cap ≤ 9223372036854775807
  spot : 0 < n → ∃ b off, ao = some ⟨b, off, none⟩ ∧ b < w.heap.size ∧ ∀ i, i < n → At3 w b (off + i * 3) (r i)
theorem At3.keeps {w w' : World} {b o : Nat} {r : NumR} (h : At3 w b o r) (hb : Below w.heap.size w w') (hlt : b < w.heap.size) : At3 w' b o r :=
  ⟨(hb.cell (p := ⟨b, o, none⟩) hlt).trans h.c0, (hb.cell (p := ⟨b, o + 1, none⟩) hlt).trans h.c1, (hb.cell (p := ⟨b, o + 2, none⟩) hlt).trans h.c2, h.row.keeps hb⟩
theorem Nums.keeps {w w' : World} {ao : Option Addr} {n cap : Nat} {r : Nat → NumR} (h : Nums w ao n cap r) (hb : Below w.heap.size w w') : Nums w' ao n cap r :=
  ⟨h.le, h.max, fun hn => by
    obtain ⟨b, off, rfl, hlt, hc⟩ := h.spot hn
    exact ⟨b, off, rfl, Nat.lt_of_lt_of_le hlt hb.size, fun i hi => (hc i hi).keeps hb hlt⟩⟩
def okR (r : NumR) : Bool := okN r.ng r.d r.n r.e
/-- Are all valid? -/
def allOk (r : Nat → NumR) (n : Nat) : Bool := decide (∀ i, i < n → okR (r i) = true)
end Go.Proofs.YtjlmpgbadgkgmaaDoor

/-
  Package nat: sum, difference, compare, by contracts: for every two lists of digits.
-/
namespace Go.Proofs.YtjlmpgbadgkgmaaDoor
open Go Go.RowKit Go.Proofs.YtjlmpgbadgkgmaaDoor.M
set_option linter.unusedSimpArgs false
set_option linter.unusedVariables false

end Go.Proofs.YtjlmpgbadgkgmaaDoor

/-
  Package nat: product, by its contract: for every two lists of digits.
-/
namespace Go.Proofs.YtjlmpgbadgkgmaaDoor
open Go Go.RowKit Go.Proofs.YtjlmpgbadgkgmaaDoor.M
set_option linter.unusedSimpArgs false
set_option linter.unusedVariables false

end Go.Proofs.YtjlmpgbadgkgmaaDoor

/-
  Package nat: Cmp, Add, Sub, Mul, by contracts: for every two lists.
-/
namespace Go.Proofs.YtjlmpgbadgkgmaaDoor
open Go Go.RowKit Go.Proofs.YtjlmpgbadgkgmaaDoor.M
set_option linter.unusedSimpArgs false
set_option linter.unusedVariables false

theorem ord_ge {a b : Int} (h : b ≤ a) : ¬ ord a b < 0 := by
  rcases Int.lt_or_eq_of_le h with h1 | h1
  · rw [ord_gt h1]; decide
  · rw [ord_eq h1.symm]; decide
theorem ord_len {d e : Nat → Int} {n m : Nat} (hd : Nrm d n) (he : Nrm e m) (h : n ≠ m) : ord n m = ord (val d n) (val e m) := by
  rcases Nat.lt_or_gt_of_ne h with h1 | h1
  · rw [ord_lt (by omega), ord_lt (nrm_lt hd.1 he h1)]
  · rw [ord_gt (by omega), ord_gt (nrm_lt he.1 hd h1)]
theorem ord_top {d e : Nat → Int} {n k : Nat} (hd : Dig d n) (he : Dig e n) (hk : k < n) (hs : ∀ i, k < i → i < n → d i = e i) (hne : d k ≠ e k) : ord (d k) (e k) = ord (val d n) (val e n) := by
  rcases Int.lt_or_gt_of_ne hne with h1 | h1
  · rw [ord_lt h1, ord_lt (cmp_top hd he hk hs h1)]
  · rw [ord_gt h1, ord_gt (cmp_top he hd hk (fun i a b => (hs i a b).symm) h1)]

/-- What fit hands on. -/
def fitV (ao : Option Addr) (t cap : Nat) : Value := if 2000 < t then .slice none 0 0 else .slice ao t cap
def fitE (t : Nat) : Int := if 2000 < t then 2 else 0
theorem Fit.of {w w' : World} {V : Int} {ao : Option Addr} {t cap : Nat} {d : Nat → Int} (h1 : Out w.heap.size w' (.slice ao t cap) t d) (h2 : Nrm d t) (h3 : val d t = V) (hb : Below w.heap.size w w') : Fit w w' V (fitV ao t cap) (fitE t) := by
  refine ⟨hb, ?_⟩
  by_cases h : 2000 < t
  · refine .inr ⟨?_, by simp [fitE, h], by simp [fitV, h]⟩
    have a := val_top h2.1 (by omega) h2.2
    have b := P_le (show 2000 ≤ t - 1 by omega)
    omega
  · refine .inl ⟨?_, by simp [fitE, h], ?_⟩
    · have a := val_lt h2.1
      have b := P_le (show t ≤ 2000 by omega)
      omega
    · rw [show fitV ao t cap = .slice ao t cap by simp [fitV, h]]
      exact ⟨t, d, h1, h2, h3, hb⟩

/-- The two lists of a call, as they lie. -/
structure Two (w : World) (ao bo : Option Addr) (n m ca cb : Nat) (a b : Nat → Int) : Prop where
  ra : Row w ao n ca a
  rb : Row w bo m cb b
theorem Two.keeps {w w' : World} {ao bo : Option Addr} {n m ca cb : Nat} {a b : Nat → Int} (h : Two w ao bo n m ca cb a b) (hb : Below w.heap.size w w') : Two w' ao bo n m ca cb a b := ⟨h.ra.keeps hb, h.rb.keeps hb⟩

end Go.Proofs.YtjlmpgbadgkgmaaDoor

/-
  The statements' own helpers: Same, digits, alive, by contracts.
-/
namespace Go.Proofs.YtjlmpgbadgkgmaaDoor
open Go Go.RowKit Go.Proofs.YtjlmpgbadgkgmaaDoor.M
set_option linter.unusedSimpArgs false
set_option linter.unusedVariables false

instance (n : Nat) (a b : Nat → Int) : Decidable (∀ i, i < n → a i = b i) := by infer_instance
/-- Are two lists one? -/
def sameB (a b : Nat → Int) (n m : Nat) : Bool := decide (n = m ∧ ∀ i, i < n → a i = b i)
theorem sameB_of {a b : Nat → Int} {n m : Nat} (ha : Nrm a n) (hb : Nrm b m) (h : val a n = val b m) : sameB a b n m = true := by
  unfold sameB; exact decide_eq_true (nrm_inj ha hb h)
set_option maxHeartbeats 1000000 in
theorem same_any (ao bo : Option Addr) (n m ca cb : Nat) (a b : Nat → Int) (w : World) (ha : Row w ao n ca a) (hb : Row w bo m cb b) :
    Calls Tryd.prog 19 #[.slice ao n ca, .slice bo m cb] w fun e w' => e = .returned (.bool (sameB a b n m)) ∧ Below w.heap.size w w' := by
  have hla := ha.le
  have hma := ha.max
  have hlb := hb.le
  have hmb := hb.max
  by_cases hnm : n = m
  · subst hnm
    go_enter Tryd.func19, Tryd.ntmps19
    go_wp2
    go_loopw [5] (fun i wr => ∃ k : Nat, k ≤ n ∧ i = .int .i64 k ∧ Hid (∀ i, i < k → a i = b i) ∧ Below w.heap.size w wr) (fun i _ => n - (intOf i).toNat)
    case atStart => exact ⟨0, Nat.zero_le _, rfl, fun i _ => by omega, bel_refl _⟩
    case round =>
      obtain ⟨k, hk, rfl, HS, hbw⟩ := hrel
      by_cases hlt : k < n
      · obtain ⟨ba, fa, rfl, hba, hca⟩ := ha.spot (by omega)
        obtain ⟨bb, fb, rfl, hbb, hcb⟩ := hb.spot (by omega)
        have c1 := (hbw.cell (p := ⟨ba, fa + k, none⟩) hba).trans (hca k hlt)
        have c2 := (hbw.cell (p := ⟨bb, fb + k, none⟩) hbb).trans (hcb k hlt)
        by_cases he : a k = b k
        · have he' : (a k != b k) = false := by simp [he]
          have HE : Hid (a k = b k) := he
          clear he
          go_wp2
          go_quiet (fail)
          go_wp2
          go_roundw
          case rel => exact ⟨k + 1, by omega, by go_num, fun i x => by by_cases e : i = k; (· rw [e]; exact HE.out); (· exact HS.out i (by omega)), bDrewN hbw _⟩
          case measure => simp [intOf]; omega
        · have he' : (a k != b k) = true := by simp [he]
          go_wp2
          go_quiet (fail)
          go_wp2
          go_ret
          exact ⟨ret_bool (decide_eq_false (fun q => he (q.2 k hlt))).symm, bDrewN hbw _⟩
      · obtain rfl : k = n := by omega
        go_wp2
        go_ret
        exact ⟨ret_bool (decide_eq_true (⟨rfl, HS.out⟩ : k = k ∧ ∀ i, i < k → a i = b i)).symm, hbw⟩
  · go_enter Tryd.func19, Tryd.ntmps19
    go_wp2
    go_ret
    exact ⟨ret_bool (decide_eq_false (fun q => hnm q.1)).symm, bel_refl _⟩
theorem same_yes (ao bo : Option Addr) (n m ca cb : Nat) (a b : Nat → Int) (w : World) (ha : Row w ao n ca a) (hb : Row w bo m cb b) (na : Nrm a n) (nb : Nrm b m) (hv : val a n = val b m) :
    Calls Tryd.prog 19 #[.slice ao n ca, .slice bo m cb] w fun e w' => e = .returned (.bool true) ∧ Below w.heap.size w w' := by
  refine (same_any ao bo n m ca cb a b w ha hb).mono ?_
  rintro e w' ⟨rfl, h⟩
  exact ⟨ret_bool (sameB_of na nb hv), h⟩
theorem same_num {w : World} {x y : Value} {V : Int} (hx : Num w x V) (hy : Num w y V) :
    Calls Tryd.prog 19 #[x, y] w fun e w' => e = .returned (.bool true) ∧ Below w.heap.size w w' := by
  obtain ⟨ao, n, ca, d, rfl, hR, h2, h3⟩ := hx
  obtain ⟨bo, m, cb, e, rfl, kR, k2, k3⟩ := hy
  exact same_yes _ _ _ _ _ _ _ _ _ hR kR h2 k2 (h3.trans k3.symm)
theorem Num.ok {d : Nat → Int} {n : Nat} (h : Nrm d n) (hV : val d n < P 2000) : okB d n = true := by
  refine okB_yes ?_ h
  by_cases hk : n ≤ 2000
  · exact hk
  · have a := val_top h.1 (by omega) h.2
    have b := P_le (show 2000 ≤ n - 1 by omega)
    omega
theorem Fit.ans {w w' : World} {V er : Int} {v : Value} (h : Fit w w' V v er) (hV : V < P 2000) : er = 0 ∧ Ans w w' V v := by
  rcases h.2 with ⟨_, h1, h2⟩ | ⟨h1, _⟩
  · exact ⟨h1, h2⟩
  · omega
theorem P2000_big : 1152921504606846976 < P 2000 := by
  have h1 := P_le (show 3 ≤ 2000 by decide)
  have h2 : P 3 = 1073741824 * 1073741824 * 1073741824 := by decide
  omega

end Go.Proofs.YtjlmpgbadgkgmaaDoor

/-
  Package nat: slices.Clone at ints, digits, shorten, guess, by contracts.
-/
namespace Go.Proofs.YtjlmpgbadgkgmaaDoor
open Go Go.RowKit Go.Proofs.YtjlmpgbadgkgmaaDoor.M
set_option linter.unusedSimpArgs false
set_option linter.unusedVariables false

/-- A copy in new memory. -/
def Cpy (w w' : World) (v : Value) (n : Nat) (d : Nat → Int) : Prop := Out w.heap.size w' v n d ∧ Below w.heap.size w w'
theorem out_empty (w : World) (d : Nat → Int) {g : Nat} (hg : g = w.heap.size) : Out w.heap.size (w.alloc (.cells #[] 3)) (.slice (some ⟨g, 0, none⟩) 0 0) 0 d := by
  subst hg
  exact ⟨by simp [vals], .inr ⟨w.heap.size, 0, #[], rfl, Nat.le_refl _, heap_alloc_new w _, Nat.le_refl _, by decide, rfl, rfl⟩⟩
/-- What shorten leaves of a list that lies in the caller's own memory. -/
def Sht (B : Nat) (w w' : World) (v : Value) (n : Nat) (d : Nat → Int) (D left : Int) : Prop :=
  ∃ r, Out B w' v n r ∧ Dig r n ∧ val d n = D * val r n + left ∧ 0 ≤ left ∧ left < D ∧ Below B w w'
end Go.Proofs.YtjlmpgbadgkgmaaDoor

/-
  Package nat: guess and takeOut (one digit of a long division), by contracts.
-/
namespace Go.Proofs.YtjlmpgbadgkgmaaDoor
open Go Go.RowKit Go.Proofs.YtjlmpgbadgkgmaaDoor.M
set_option linter.unusedSimpArgs false
set_option linter.unusedVariables false

/-- A guess: it is the quotient, or one more. -/
def Gs (U V t : Int) : Prop := 0 ≤ t ∧ t < 1073741824 ∧ (t - 1) * V ≤ U ∧ U < (t + 1) * V
/-- What a division's step is about: U has L + 3 digits, V has L + 2, the highest bit of V is set. -/
structure Stp (u v : Nat → Int) (L : Nat) (U V : Int) : Prop where
  du : Dig u (L + 3)
  dv : Dig v (L + 2)
  top : 536870912 ≤ v (L + 1)
  eU : U = val u (L + 3)
  eV : V = val v (L + 2)
  lt : U < 1073741824 * V
theorem Stp.splitV {u v : Nat → Int} {L : Nat} {U V : Int} (h : Stp u v L U V) : V = (v (L + 1) * 1073741824 + v L) * P L + val v L := by
  rw [h.eV, val_succ, val_succ, P_succ]; grind
theorem Stp.splitU {u v : Nat → Int} {L : Nat} {U V : Int} (h : Stp u v L U V) : U = ((u (L + 2) * 1073741824 + u (L + 1)) * 1073741824 + u L) * P L + val u L := by
  rw [h.eU, val_succ, val_succ, val_succ, show P (L + 2) = P L * 1073741824 * 1073741824 from rfl, show P (L + 1) = P L * 1073741824 from rfl]; grind
theorem Stp.topU {u v : Nat → Int} {L : Nat} {U V : Int} (h : Stp u v L U V) : u (L + 2) ≤ v (L + 1) := by
  have h1 : val u (L + 3) = val u (L + 2) + u (L + 2) * P (L + 2) := val_succ _ _
  have h2 : val v (L + 2) = val v (L + 1) + v (L + 1) * P (L + 1) := val_succ _ _
  have a := val_nonneg (h.du.le (show L + 2 ≤ L + 3 by omega))
  have b := val_lt (h.dv.le (show L + 1 ≤ L + 2 by omega))
  have c := h.lt
  rw [h.eU, h.eV, h1, h2] at c
  have p := P_pos (L + 1)
  have e : P (L + 2) = P (L + 1) * 1073741824 := P_succ _
  rw [e] at c
  rcases Int.lt_or_le (v (L + 1)) (u (L + 2)) with q | q
  · have f : (v (L + 1) + 1) * (P (L + 1) * 1073741824) ≤ u (L + 2) * (P (L + 1) * 1073741824) := mul_le_r (by omega) (by omega)
    have g : (v (L + 1) + 1) * (P (L + 1) * 1073741824) = 1073741824 * (v (L + 1) * P (L + 1)) + 1073741824 * P (L + 1) := by grind
    omega
  · exact q
theorem Stp.start {u v : Nat → Int} {L : Nat} {U V : Int} (h : Stp u v L U V) {t l : Int} (ht : 0 ≤ t) (hh : u (L + 2) * 1073741824 + u (L + 1) = t * v (L + 1) + l) (hl : l < v (L + 1)) : U < (t + 1) * V := by
  have sU := h.splitU
  have sV := h.splitV
  have p := P_pos L
  have a := val_lt (h.du.le (show L ≤ L + 3 by omega))
  have b := val_nonneg (h.dv.le (show L ≤ L + 2 by omega))
  have dL := h.du L (by omega)
  have vL := h.dv L (by omega)
  have e1 : (u (L + 2) * 1073741824 + u (L + 1) + 1) * (1073741824 * P L) ≤ (t + 1) * v (L + 1) * (1073741824 * P L) := mul_le_r (by rw [Int.add_mul]; omega) (by omega)
  have e2 : 0 ≤ (t + 1) * (v L * P L + val v L) := Int.mul_nonneg (by omega) (by have := Int.mul_nonneg vL.1 (Int.le_of_lt p); omega)
  have e3 : (t + 1) * V = (t + 1) * v (L + 1) * (1073741824 * P L) + (t + 1) * (v L * P L + val v L) := by rw [sV]; grind
  have e4 : U = (u (L + 2) * 1073741824 + u (L + 1) + 1) * (1073741824 * P L) - 1073741824 * P L + u L * P L + val u L := by rw [sU]; grind
  have e5 : u L * P L ≤ 1073741823 * P L := mul_le_r (by omega) (by omega)
  omega
theorem Stp.dec {u v : Nat → Int} {L : Nat} {U V : Int} (h : Stp u v L U V) {t l : Int} (ht : 0 ≤ t) (hh : u (L + 2) * 1073741824 + u (L + 1) = t * v (L + 1) + l) (hc : l * 1073741824 + u L < t * v L) : U < t * V :=
  knuth_dec h.splitV (val_nonneg (h.dv.le (by omega))) h.splitU (val_lt (h.du.le (by omega))) (P_pos L) hh ht hc
theorem Stp.big {u v : Nat → Int} {L : Nat} {U V : Int} (h : Stp u v L U V) {t : Int} (ht : 1073741823 < t) : U < t * V := by
  have := val_nonneg h.dv
  rw [← h.eV] at this
  have e : 1073741824 * V ≤ t * V := mul_le_r (by omega) this
  have := h.lt
  omega
theorem Stp.small {u v : Nat → Int} {L : Nat} {U V : Int} (h : Stp u v L U V) {t l : Int} (hh : u (L + 2) * 1073741824 + u (L + 1) = t * v (L + 1) + l) (hl : 1073741823 < l) : t < 1073741824 := by
  rcases Int.lt_or_le t 1073741824 with q | q
  · exact q
  · have a := h.topU
    have b := (h.du (L + 1) (by omega)).2
    have c := (h.dv (L + 1) (by omega)).1
    have e : 1073741824 * v (L + 1) ≤ t * v (L + 1) := mul_le_r q c
    omega
theorem Stp.long {u v : Nat → Int} {L : Nat} {U V : Int} (h : Stp u v L U V) {t l : Int} (ht : 0 ≤ t) (hh : u (L + 2) * 1073741824 + u (L + 1) = t * v (L + 1) + l) (hl : 1073741823 < l) (hU : U < (t + 1) * V) : Gs U V t := by
  have a := knuth_long h.splitV (val_lt (h.dv.le (by omega))) (h.dv L (by omega)).2 h.splitU (val_nonneg (h.du.le (by omega))) (h.du L (by omega)).1 (P_pos L) hh ht (h.small hh hl) (by omega)
  have := val_nonneg h.dv
  rw [← h.eV] at this
  exact ⟨ht, h.small hh hl, by rw [Int.sub_mul]; omega, hU⟩
theorem Stp.done {u v : Nat → Int} {L : Nat} {U V : Int} (h : Stp u v L U V) {t l : Int} (ht : 0 ≤ t) (hh : u (L + 2) * 1073741824 + u (L + 1) = t * v (L + 1) + l) (h1 : t < 1073741824) (hc : t * v L ≤ l * 1073741824 + u L) (hU : U < (t + 1) * V) : Gs U V t :=
  ⟨ht, h1, knuth_short h.splitV (val_nonneg (h.dv.le (by omega))) (val_lt (h.dv.le (by omega))) (by have := h.top; omega) (h.dv L (by omega)).1 h.splitU (val_nonneg (h.du.le (by omega))) (P_pos L) hh ht h1 hc, hU⟩

end Go.Proofs.YtjlmpgbadgkgmaaDoor

/-
  Package nat: takeOut (a divisor taken out of the highest digits as often as it goes), by its contract.
-/
namespace Go.Proofs.YtjlmpgbadgkgmaaDoor
open Go Go.RowKit Go.Proofs.YtjlmpgbadgkgmaaDoor.M
set_option linter.unusedSimpArgs false
set_option linter.unusedVariables false

theorem RowX.row {g : Nat} {w : World} {ao : Option Addr} {n cap : Nat} {d : Nat → Int} (h : RowX g w ao n cap d) (hn : 0 < n) : Row w ao n cap d :=
  ⟨h.le, h.max, (fun e => by obtain ⟨b, off, q, _⟩ := h.spot hn; rw [q] at e; cases e), fun _ => by
    obtain ⟨b, off, q, hlt, _, hc⟩ := h.spot hn
    exact ⟨b, off, q, hlt, hc⟩⟩
/-- What takeOut leaves: in the digits from at on a rest below V, t times V less. -/
def Tk (g N at_ M : Nat) (r : Nat → Int) (w w' : World) (U V t : Int) : Prop :=
  ∃ r', Blk w' g N r' ∧ (∀ i, i < at_ ∨ at_ + M < i → r' i = r i) ∧ Dig (fun i => r' (at_ + i)) (M + 1) ∧ U = t * V + val (fun i => r' (at_ + i)) (M + 1) ∧ val (fun i => r' (at_ + i)) (M + 1) < V ∧ 0 ≤ t ∧ t < 1073741824 ∧ Wr g w w'
theorem dig_upd {f : Nat → Int} {k : Nat} {x : Int} (h : Dig f k) (h0 : 0 ≤ x) (h1 : x < 1073741824) : Dig (upd f k x) (k + 1) := fun i hi => by
  by_cases e : i = k
  · rw [e, upd_same]; exact ⟨h0, h1⟩
  · rw [upd_other f x e]; exact h i (by omega)
theorem tk_end {R x p V : Int} (h0 : 0 ≤ R) (h1 : R < p) (hp : 0 < p) (hV : V < p) (h2 : 0 ≤ R + x * p) (h3 : R + x * p < V) : x = 0 := by
  rcases Int.lt_trichotomy x 0 with h | h | h
  · have : x * p ≤ -1 * p := mul_le_r (by omega) (by omega)
    omega
  · exact h
  · have : 1 * p ≤ x * p := mul_le_r (by omega) (by omega)
    omega
theorem Stp.facts {u v : Nat → Int} {L M : Nat} {U V : Int} (hM : M = L + 2) (h : Stp u v L U V) : Dig v M ∧ Dig u (M + 1) ∧ V = val v M ∧ U = val u M + u M * P M ∧ V < P M ∧ 0 ≤ U := by
  subst hM
  have e1 := h.eU
  have e2 := val_nonneg h.du
  have e3 := val_lt h.dv
  have e4 := h.eV
  refine ⟨h.dv, h.du, e4, ?_, by omega, by omega⟩
  rw [e1]; exact val_succ u (L + 2)
theorem Blk.cells {w : World} {g N : Nat} {r : Nat → Int} (h : Blk w g N r) {at_ n : Nat} (hn : at_ + n ≤ N) : ∀ i, i < n → w.cell? ⟨g, at_ + i, none⟩ = some (.int .i64 ((fun j => r (at_ + j)) i)) := fun i hi => h.cell (by omega)
end Go.Proofs.YtjlmpgbadgkgmaaDoor

/-
  The statements' own helper digits: a valid list out of any ints, by its contract.
-/
namespace Go.Proofs.YtjlmpgbadgkgmaaDoor
open Go Go.RowKit Go.Proofs.YtjlmpgbadgkgmaaDoor.M
set_option linter.unusedSimpArgs false
set_option linter.unusedVariables false

theorem Out.cut {B : Nat} {w : World} {ao : Option Addr} {n cap m : Nat} {d : Nat → Int} (h : Out B w (.slice ao n cap) n d) (hm : m ≤ n) : Out B w (.slice ao m cap) m d := by
  refine ⟨by rw [vals_length]; omega, ?_⟩
  rcases h.2 with ⟨hn, h0⟩ | ⟨g, cap', cur, hv, hB, hg, hnc, hcm, hs, ht⟩
  · simp only [Value.slice.injEq] at hn
    obtain ⟨rfl, rfl, rfl⟩ := hn
    obtain rfl : m = 0 := by omega
    exact .inl ⟨rfl, rfl⟩
  · simp only [Value.slice.injEq] at hv
    obtain ⟨rfl, _, rfl⟩ := hv
    refine .inr ⟨g, cap, cur, rfl, hB, hg, by omega, hcm, hs, ?_⟩
    apply vals_ext (by simp; omega)
    intro i hi
    have e : (cur.toList.take (n * 1))[i]? = (vals d n)[i]? := by rw [ht]
    rw [List.getElem?_take, if_pos (by omega), vals_get d (by omega)] at e
    rw [List.getElem?_take, if_pos (by omega)]; exact e

/-- A list of less than N digits. -/
def AnsLt (w w' : World) (N : Nat) (v : Value) : Prop := ∃ V, Ans w w' V v ∧ V < P N
def lenOf : Value → Nat | .slice _ t _ => t | _ => 0
theorem cat_last (f : Nat → Int) (k i : Nat) (hi : i < k + 1) : cat f k (fun _ => f k) i = f i := by
  by_cases h : i < k
  · simp [cat, h]
  · simp [cat, h]; rw [show i = k by omega]
end Go.Proofs.YtjlmpgbadgkgmaaDoor

/-
  Package nat: what stands behind divide's statements; mathematics of long division's rounds.
-/
namespace Go.Proofs.YtjlmpgbadgkgmaaDoor
open Go Go.RowKit Go.Proofs.YtjlmpgbadgkgmaaDoor.M
set_option linter.unusedSimpArgs false
set_option linter.unusedVariables false

theorem bel_undrew {B : Nat} {a w : World} (h : Below B a.drew w) : Below B a w := ⟨h.os, h.tape, h.output, h.size, h.block⟩
theorem Row.drew {w : World} {ao : Option Addr} {n cap : Nat} {d : Nat → Int} (h : Row w ao n cap d) : Row w.drew ao n cap d := ⟨h.le, h.max, h.nl, h.spot⟩
theorem blk_make (w : World) (N : Nat) {g : Nat} (hg : g = w.heap.size) : Blk (w.alloc (.cells (madeCells #[.int .i64 0] N) 3)) g N (fun _ => 0) := by
  subst hg
  refine ⟨_, heap_alloc_new w _, by simp [madeCells], fun i hi => ?_⟩
  rw [← Array.getElem?_toList, toList_madeCells_one]; simp [hi]
/-- What stands behind 'rest, by := make([]int, len(a)+1), raise(b, shift)', in whatever order. -/
def Cut8 (w : World) (n : Nat) (V : Int) (sr sb : Value) (wx : World) : Prop :=
  ∃ g, sr = .slice (some ⟨g, 0, none⟩) (n + 1) (n + 1) ∧ w.heap.size ≤ g ∧ Blk wx g (n + 1) (fun _ => 0) ∧ Below w.heap.size w wx ∧ ∃ bo cb t v, sb = .slice bo t cb ∧ RowX g wx bo t cb v ∧ Nrm v t ∧ val v t = V
theorem cut8_a {w w2 w3 : World} {n : Nat} {V : Int} {v : Value} (b1 : Below w.heap.size w w2) (hv : Ans (w2.alloc (.cells (madeCells #[.int .i64 0] (n + 1)) 3)).drew w3 V v) :
    Cut8 w n V (.slice (some ⟨w2.heap.size, 0, none⟩) (n + 1) (n + 1)) v w3 := by
  have b2 : Below (w2.alloc (.cells (madeCells #[.int .i64 0] (n + 1)) 3)).heap.size (w2.alloc (.cells (madeCells #[.int .i64 0] (n + 1)) 3)) w3 := bel_undrew hv.below
  have hB := (blk_make w2 (n + 1) rfl).keeps b2
  obtain ⟨t, d, hO, hN, hV, _⟩ := hv
  obtain ⟨ao, cap, rfl, hR⟩ := hO.row
  refine ⟨_, rfl, b1.size, hB, bel_trans (bel_trans b1 (bel_alloc _ _)) b2, ao, cap, t, d, rfl, ⟨hR.le, hR.max, fun hn => ?_⟩, hN, hV⟩
  obtain ⟨b, off, rfl, hlt, hc⟩ := hR.spot hn
  obtain ⟨g, hg, hge, _⟩ := hO.spot hn
  simp only [Option.some.injEq, Addr.mk.injEq] at hg
  have e : (w2.alloc (.cells (madeCells #[.int .i64 0] (n + 1)) 3)).drew.heap.size = w2.heap.size + 1 := by show (w2.alloc _).heap.size = _; simp
  rw [e] at hge
  exact ⟨b, off, rfl, hlt, by omega, hc⟩
theorem cut8_b {w w2 w3 : World} {n : Nat} {V : Int} {v : Value} (b1 : Below w.heap.size w w2) (hv : Ans w2.drew w3 V v) {w4 : World} (e4 : w4 = w3.alloc (.cells (madeCells #[.int .i64 0] (n + 1)) 3)) :
    Cut8 w n V (.slice (some ⟨w3.heap.size, 0, none⟩) (n + 1) (n + 1)) v w4 := by
  subst e4
  have b2 : Below w2.heap.size w2 w3 := bel_undrew hv.below
  have b3 := bel_trans b1 b2
  obtain ⟨t, d, hO, hN, hV, _⟩ := hv
  obtain ⟨ao, cap, rfl, hR⟩ := hO.row
  refine ⟨_, rfl, b3.size, blk_make w3 (n + 1) rfl, bel_trans b3 (bel_alloc _ _), ao, cap, t, d, rfl, ⟨hR.le, hR.max, fun hn => ?_⟩, hN, hV⟩
  obtain ⟨b, off, rfl, hlt, hc⟩ := (hR.alloc _).spot hn
  obtain ⟨b', off', q, hlt', _⟩ := hR.spot hn
  simp only [Option.some.injEq, Addr.mk.injEq] at q
  exact ⟨b, off, rfl, hlt, by omega, hc⟩

/-- Digits laid over others. -/
def ov (e : Nat → Int) (m : Nat) (r : Nat → Int) : Nat → Int := fun i => if i < m then e i else r i
/-- 'copy(xs, ys)', xs a block of the call's own, ys not longer, not empty. -/
theorem wpList_cp {w : World} {ops : Array Oper} {rest : List Oper} {o : Oper} {a : Act} {Q : Exit → Act → World → Prop} (hgd : o.guard = none) (d s : Operand)
    (ho : o.op = .call { callee := .builtin .copy, args := #[d, s], argTypes := #[24, 24] }) (g N : Nat) (r : Nat → Int) (hd : a.eval d = .slice (some ⟨g, 0, none⟩) N N) (hB : Blk w g N r)
    (bo : Option Addr) (m cb : Nat) (e : Nat → Int) (hs : a.eval s = .slice bo m cb) (hR : Row w bo m cb e) (hm0 : 0 < m) (hmN : m ≤ N)
    (h : ∀ w', Blk w' g N (ov e m r) → Wr g w w' → wpList Tryd.prog ops Q rest (a.put o.dst (goInt m)) w') : wpList Tryd.prog ops Q (o :: rest) a w := by
  obtain ⟨b, off, rfl, hlt, hc⟩ := hR.spot hm0
  obtain ⟨cur, hg, hsz, hcur⟩ := hB
  have hl : (vals e m).length = m := vals_length e m
  refine wpList_copy_own hgd d s 24 24 ho 3 Tryd.underlying24 (by kernel_rfl) g 0 N N ⟨b, off, none⟩ m cb hd hs cur 3 hg (vals e m) (by rw [hl]; exact (Nat.min_eq_left hmN).symm) ?_ (by omega) (vals_one e m) ?_
  · intro j u hu
    have hj : j < m := by have := (List.getElem?_eq_some_iff.1 hu).1; rwa [hl] at this
    rw [vals_get e hj] at hu
    rw [add_none, hc j hj]; exact hu
  · rw [hl]
    refine h _ ⟨_, setRow_heap w g _ _ _ _ hg, ?_, ?_⟩ ⟨rfl, rfl, rfl, by simp, fun k _ hk => setRow_other w g k _ hk⟩
    · simp [hl]; omega
    · intro i hi
      rw [List.getElem?_toArray, List.take_zero, List.nil_append]
      by_cases him : i < m
      · rw [List.getElem?_append_left (by omega), vals_get e him]; simp [ov, him]
      · rw [List.getElem?_append_right (by omega), hl, List.getElem?_drop, Array.getElem?_toList, show 0 + m + (i - m) = i by omega, hcur i hi]; simp [ov, him]
theorem norm_div {b v : Nat → Int} {m t s : Nat} (nb : Nrm b m) (hm : 0 < m) (hs : s + blen (b (m - 1)) = 30) (nv : Nrm v t) (hv : val v t = val b m * 2 ^ s) : t = m ∧ 536870912 ≤ v (m - 1) := by
  obtain ⟨k, rfl⟩ : ∃ k, m = k + 1 := ⟨m - 1, by omega⟩
  rw [Nat.add_sub_cancel] at hs ⊢
  have hx0 : 0 < b k := by
    have h1 := nb.1 k (by omega)
    rcases nb.2 with e | e
    · omega
    · rw [Nat.add_sub_cancel] at e; omega
  obtain ⟨c1, c2⟩ := blen_pos hx0
  have c3 := blen_lt (b k)
  have lo0 := val_nonneg (nb.1.le (Nat.le_succ k))
  have lo1 := val_lt (nb.1.le (Nat.le_succ k))
  have pk := P_pos k
  have ps := two_pos s
  have e29 : (2 : Int) ^ (blen (b k) - 1) * 2 ^ s = 536870912 := by rw [← Int.pow_add, show blen (b k) - 1 + s = 29 by omega]; rfl
  have e30 : (2 : Int) ^ blen (b k) * 2 ^ s = 1073741824 := by rw [← Int.pow_add, show blen (b k) + s = 30 by omega]; rfl
  have f1 : (2 : Int) ^ (blen (b k) - 1) * 2 ^ s ≤ b k * 2 ^ s := mul_le_r c2 (by omega)
  have f2 : (b k + 1) * 2 ^ s ≤ 2 ^ blen (b k) * 2 ^ s := mul_le_r (by omega) (by omega)
  rw [e29] at f1
  rw [e30] at f2
  have g1 : 536870912 * P k ≤ b k * 2 ^ s * P k := mul_le_r f1 (by omega)
  have g2 : (b k + 1) * 2 ^ s * P k ≤ 1073741824 * P k := mul_le_r f2 (by omega)
  have g3 : 0 ≤ val b k * 2 ^ s := Int.mul_nonneg lo0 (by omega)
  have g4 : (val b k + 1) * 2 ^ s ≤ P k * 2 ^ s := mul_le_r (by omega) (by omega)
  have eV : val v t = val b k * 2 ^ s + b k * 2 ^ s * P k := by rw [hv, val_succ]; grind
  have g5 : (b k + 1) * 2 ^ s * P k = b k * 2 ^ s * P k + P k * 2 ^ s := by grind
  rw [Int.add_mul, Int.one_mul] at g4
  have V1 : 536870912 * P k ≤ val v t := by omega
  have V2 : val v t < P (k + 1) := by rw [P_succ]; omega
  have t1 : t ≤ k + 1 := by
    by_cases h : t ≤ k + 1
    · exact h
    · have a := val_top nv.1 (by omega) nv.2
      have b := P_le (show k + 1 ≤ t - 1 by omega)
      omega
  have t2 : k + 1 ≤ t := by
    by_cases h : k + 1 ≤ t
    · exact h
    · have a := val_lt nv.1
      have b := P_le (show t ≤ k by omega)
      omega
  obtain rfl : t = k + 1 := by omega
  refine ⟨rfl, ?_⟩
  rw [val_succ] at V1
  have w1 := val_lt (nv.1.le (Nat.le_succ k))
  rcases Int.lt_or_le (v k) 536870912 with q | q
  · have : (v k + 1) * P k ≤ 536870912 * P k := mul_le_r (by omega) (by omega)
    rw [Int.add_mul] at this
    omega
  · exact q
theorem dig_zero {f : Nat → Int} {N M : Nat} (h : Dig f N) (hM : M ≤ N) (hv : val f N < P M) : ∀ i, M ≤ i → i < N → f i = 0 := by
  have e := val_split f M (N - M)
  rw [show M + (N - M) = N by omega] at e
  have a := val_nonneg (h.le hM)
  have dh : Dig (fun i => f (M + i)) (N - M) := fun i hi => h (M + i) (by omega)
  have b := val_nonneg dh
  have pm := P_pos M
  have z : val (fun i => f (M + i)) (N - M) = 0 := by
    rcases Int.lt_or_eq_of_le b with q | q
    · have : P M * 1 ≤ P M * val (fun i => f (M + i)) (N - M) := mul_le_l (by omega) (by omega)
      omega
    · exact q.symm
  have z2 : val (fun _ : Nat => (0 : Int)) (N - M) = 0 := val_zeros (Nat.zero_le _) (fun _ _ _ => rfl)
  intro i hi hiN
  have := val_inj dh (zero_dig (N - M)) (z.trans z2.symm) (i - M) (by omega)
  rwa [show M + (i - M) = i by omega] at this
theorem val_mid {r : Nat → Int} {at_ M N : Nat} (h : at_ + M ≤ N) (hz : ∀ i, at_ + M ≤ i → i < N → r i = 0) : val r N = val r at_ + P at_ * val (fun i => r (at_ + i)) M := by
  rw [val_zeros h hz, val_split]
/-- The highest digits, of which a divisor is taken out. -/
theorem div_round {r : Nat → Int} {at_ m N : Nat} {V : Int} (hd : Dig r N) (h : at_ + (m + 1) ≤ N) (hV : V < P m) (hlt : val r N < V * P (at_ + 1)) :
    (∀ i, at_ + (m + 1) ≤ i → i < N → r i = 0) ∧ val r N = val r at_ + P at_ * val (fun i => r (at_ + i)) (m + 1) ∧ val (fun i => r (at_ + i)) (m + 1) < 1073741824 * V := by
  have pa := P_pos at_
  have h1 : V * P (at_ + 1) ≤ P m * P (at_ + 1) := mul_le_r (by omega) (Int.le_of_lt (P_pos _))
  rw [← P_add, show m + (at_ + 1) = at_ + (m + 1) by omega] at h1
  have hz := dig_zero hd h (by omega)
  have e := val_mid h hz
  refine ⟨hz, e, ?_⟩
  have lo := val_nonneg (hd.le (show at_ ≤ N by omega))
  rcases Int.lt_or_le (val (fun i => r (at_ + i)) (m + 1)) (1073741824 * V) with q | q
  · exact q
  · have : P at_ * (1073741824 * V) ≤ P at_ * val (fun i => r (at_ + i)) (m + 1) := mul_le_l q (by omega)
    rw [P_succ] at hlt
    have e2 : V * (P at_ * 1073741824) = P at_ * (1073741824 * V) := by grind
    omega
theorem Num.cut_row {w : World} {ao : Option Addr} {n cap t : Nat} {d : Nat → Int} (h : Row w ao n cap d) (ht : t ≤ n) : ∃ ao' cap', cutV ao t cap = .slice ao' t cap' ∧ Row w ao' t cap' d := by
  unfold cutV
  split
  · rename_i e; subst e; exact ⟨none, 0, rfl, Row.nil _ _⟩
  · exact ⟨ao, cap, rfl, ⟨by have := h.le; omega, h.max, h.nl, fun hn => by
      obtain ⟨b, off, rfl, hlt, hc⟩ := h.spot (by omega)
      exact ⟨b, off, rfl, hlt, fun i hi => hc i (by omega)⟩⟩⟩
theorem cut_block {g t N k : Nat} (h : (cutV (some ⟨g, 0, none⟩) t N).ownBlock = some k) : k = g := by
  unfold cutV at h
  split at h
  · simp [Value.ownBlock] at h
  · simp [Value.ownBlock] at h; exact h.symm
/-- Two answers, in memory of their own each. -/
def Ans2 (w w' : World) (V1 : Int) (v1 : Value) (V2 : Int) (v2 : Value) : Prop := Ans w w' V1 v1 ∧ Ans w w' V2 v2 ∧ ∀ k, v1.ownBlock = some k → v2.ownBlock ≠ some k
/-- A quotient of shifted numbers, and its rest shifted back. -/
theorem div_back {A B Q X : Int} {s : Nat} (h : A * 2 ^ s = Q * (B * 2 ^ s) + X) (h0 : 0 ≤ X) (h1 : X < B * 2 ^ s) : Q = A / B ∧ X / 2 ^ s = A % B := by
  have ps := two_pos s
  have e1 : X = (A - Q * B) * 2 ^ s := by rw [Int.sub_mul]; grind
  have hR : X / 2 ^ s = A - Q * B := by rw [e1, Int.mul_ediv_cancel _ (by omega)]
  have r0 : 0 ≤ A - Q * B := by rw [← hR]; exact Int.ediv_nonneg h0 (by omega)
  have r1 : A - Q * B < B := by
    rcases Int.lt_or_le (A - Q * B) B with q | q
    · exact q
    · have : B * 2 ^ s ≤ (A - Q * B) * 2 ^ s := mul_le_r q (by omega)
      omega
  have := div_of (a := A) (b := B) (q := Q) (r := A - Q * B) (by omega) r0 r1
  exact ⟨this.1, by rw [hR]; exact this.2⟩

/-- Behind k rounds of a long division: the quotient's highest k digits stand, the rest is that much less. -/
def DivR (w0 : World) (g gq n t K : Nat) (v : Nat → Int) (byo : Option Addr) (bcap : Nat) (AA V : Int) (k : Nat) (wr : World) : Prop :=
  ∃ r qf, Blk wr g (n + 1) r ∧ Dig r (n + 1) ∧ Blk wr gq K qf ∧ Dig qf K ∧ (∀ i, i < K - k → qf i = 0) ∧ AA = val qf K * V + val r (n + 1) ∧ val r (n + 1) < V * P (K - k) ∧ RowX g wr byo t bcap v ∧ Below w0.heap.size w0 wr
theorem stp_of {r v : Nat → Int} {n t K L at_ k : Nat} {V : Int} (hK : K = at_ + 1 + k) (hL : t = L + 2) (hK1 : K + t ≤ n + 1) (hDr : Dig r (n + 1)) (hlt : val r (n + 1) < V * P (K - k)) (hV : V = val v t) (hv : Nrm v t) (htop : 536870912 ≤ v (t - 1)) :
    Stp (fun i => r (at_ + i)) v L (val (fun i => r (at_ + i)) (t + 1)) V := by
  subst hL
  have h := div_round (at_ := at_) (m := L + 2) (V := V) hDr (by omega) (by rw [hV]; exact val_lt hv.1) (by rwa [show at_ + 1 = K - k by omega])
  exact ⟨fun i hi => hDr (at_ + i) (by omega), hv.1, htop, rfl, hV, h.2.2⟩
theorem DivR.step {w0 : World} {g gq n t K : Nat} {v r qf : Nat → Int} {byo : Option Addr} {bcap : Nat} {AA V q : Int} {k at_ : Nat} {wr w7 : World} (hK : K = at_ + 1 + k) (hK1 : K + t ≤ n + 1)
    (hBr : Blk wr g (n + 1) r) (hDr : Dig r (n + 1)) (hBq : Blk wr gq K qf) (hDq : Dig qf K) (hzq : ∀ i, i < K - k → qf i = 0) (hA : AA = val qf K * V + val r (n + 1)) (hlt : val r (n + 1) < V * P (K - k)) (hX : RowX g wr byo t bcap v) (hbw : Below w0.heap.size w0 wr)
    (hVt : V < P t) (hne : gq ≠ g) (hg : w0.heap.size ≤ g) (hgq : w0.heap.size ≤ gq) (hne2 : 0 < t → ∀ b off, byo = some ⟨b, off, none⟩ → b ≠ gq) (hT : Tk g (n + 1) at_ t r wr w7 (val (fun i => r (at_ + i)) (t + 1)) V q) :
    DivR w0 g gq n t K v byo bcap AA V (k + 1) (w7.setCell ⟨gq, at_, none⟩ (.int .i64 q)) := by
  obtain ⟨r', hB7, hS7, hD7, hU7, hlt7, hq0, hq1, hw7⟩ := hT
  obtain ⟨hz, e, _⟩ := div_round (at_ := at_) (m := t) hDr (by omega) hVt (by rwa [show at_ + 1 = K - k by omega])
  have hBq7 : Blk w7 gq K qf := hBq.of_block (hw7.block gq hBq.lt hne)
  have hz' : ∀ i, at_ + (t + 1) ≤ i → i < n + 1 → r' i = 0 := fun i a b => by rw [hS7 i (by omega)]; exact hz i a b
  have e' := val_mid (r := r') (show at_ + (t + 1) ≤ n + 1 by omega) hz'
  have elo : val r' at_ = val r at_ := val_congr fun i hi => hS7 i (by omega)
  have hD' : Dig r' (n + 1) := fun i hi => by
    by_cases c : i < at_ ∨ at_ + t < i
    · rw [hS7 i c]; exact hDr i hi
    · have := hD7 (i - at_) (by omega)
      simp only [show at_ + (i - at_) = i by omega] at this
      exact this
  have lo0 := val_lt (hDr.le (show at_ ≤ n + 1 by omega))
  refine ⟨r', upd qf at_ q, hB7.apart (by simpa using hne.symm) _, hD', hBq7.store at_ q, hDq.upd _ ⟨hq0, hq1⟩, fun i hi => ?_, ?_, ?_, ?_, ?_⟩
  · rw [upd_other qf _ (by omega)]; exact hzq i (by omega)
  · rw [hA, val_upd qf q (show at_ < K by omega), hzq at_ (by omega), e, e', elo, hU7]; grind
  · rw [show K - (k + 1) = at_ by omega, e', elo]
    have h1 : (val (fun i => r' (at_ + i)) (t + 1) + 1) * P at_ ≤ V * P at_ := mul_le_r (by omega) (Int.le_of_lt (P_pos _))
    rw [Int.add_mul] at h1
    have h2 : P at_ * val (fun i => r' (at_ + i)) (t + 1) = val (fun i => r' (at_ + i)) (t + 1) * P at_ := Int.mul_comm _ _
    omega
  · have hx := hX.keeps hw7
    refine ⟨hx.le, hx.max, fun hn => ?_⟩
    obtain ⟨b, off, eb, hlt, hbg, hc⟩ := hx.spot hn
    exact ⟨b, off, eb, by simpa using hlt, hbg, fun i hi => by
      have := World.cell?_of_block (w := w7) (a := ⟨b, off + i, none⟩) (heap_setCell_other w7 ⟨gq, at_, none⟩ b (.int .i64 q) (hne2 hn b off eb))
      rw [this]; exact hc i hi⟩
  · exact (hw7.below hbw (by exact hbw.size) hg).setCell hgq _
theorem DivR.done {w0 : World} {g gq n t K : Nat} {v : Nat → Int} {byo : Option Addr} {bcap : Nat} {AA V : Int} {wr : World} (h : DivR w0 g gq n t K v byo bcap AA V K wr) :
    ∃ r qf, Blk wr g (n + 1) r ∧ Dig r (n + 1) ∧ Blk wr gq K qf ∧ Dig qf K ∧ AA = val qf K * V + val r (n + 1) ∧ val r (n + 1) < V ∧ Below w0.heap.size w0 wr := by
  obtain ⟨r, qf, h1, h2, h3, h4, _, h5, h6, _, h7⟩ := h
  rw [Nat.sub_self] at h6
  have e : V * P 0 = V := by show V * 1 = V; omega
  exact ⟨r, qf, h1, h2, h3, h4, h5, by omega, h7⟩
theorem ov_val {d : Nat → Int} {t N : Nat} (h : t ≤ N) : val (ov d t (fun _ => 0)) N = val d t := by
  rw [val_zeros h (fun i a _ => by simp [ov]; omega)]
  exact val_congr fun i hi => by simp [ov, hi]
theorem ov_dig {d : Nat → Int} {t N : Nat} (h : Dig d t) : Dig (ov d t (fun _ => 0)) N := fun i _ => by
  by_cases e : i < t
  · simp only [ov, e, if_true]; exact h i e
  · simp only [ov, e, if_false]; omega
end Go.Proofs.YtjlmpgbadgkgmaaDoor
