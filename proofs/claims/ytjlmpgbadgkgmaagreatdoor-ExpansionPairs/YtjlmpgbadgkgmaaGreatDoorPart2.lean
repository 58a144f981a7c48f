/-
  Parts of the proof, one behind another.
-/
import Derived.Test.YtjlmpgbadgkgmaaGreatDoorPart1
import Derived.Deep.AppendLies
import Derived.Deep.RegionHeld3
import Derived.Deep.RegionLaw
import Derived.Lib.AppendZerosOnto
/-
  Plain mathematics of long division (a digit guessed from the highest ones), of square roots from above, of common divisors from the highest bits. No Go text in sight.
-/
namespace Go.Proofs.YtjlmpgbadgkgmaaGreatDoor.M
open Go
set_option linter.unusedSimpArgs false
set_option linter.unusedVariables false

theorem mul_le_r {a b c : Int} (h : a ≤ b) (hc : 0 ≤ c) : a * c ≤ b * c := Int.mul_le_mul_of_nonneg_right h hc
theorem mul_le_l {a b c : Int} (h : a ≤ b) (hc : 0 ≤ c) : c * a ≤ c * b := Int.mul_le_mul_of_nonneg_left h hc

/-- A guess whose rest is a digit too long is not too great. -/
theorem knuth_long {U V p v1 v2 vl head u2 ul times left : Int} (hV : V = (v1 * 1073741824 + v2) * p + vl) (hvl : vl < p) (hv2 : v2 < 1073741824) (hU : U = (head * 1073741824 + u2) * p + ul) (hul : 0 ≤ ul) (hu2 : 0 ≤ u2)
    (hp : 0 < p) (hh : head = times * v1 + left) (ht : 0 ≤ times) (ht2 : times < 1073741824) (h : 1073741824 ≤ left) : times * V ≤ U := by
  have h0 : v2 * p ≤ 1073741823 * p := mul_le_r (by omega) (by omega)
  have e0 : (v1 + 1) * (1073741824 * p) = v1 * 1073741824 * p + 1073741823 * p + p := by grind
  have e1 : V = v1 * 1073741824 * p + v2 * p + vl := by rw [hV]; grind
  have h1 : times * V ≤ times * ((v1 + 1) * (1073741824 * p)) := mul_le_l (by omega) ht
  have h2 : (times * v1 + times) * (1073741824 * p) ≤ head * (1073741824 * p) := mul_le_r (by omega) (by omega)
  have h3 : 0 ≤ u2 * p := Int.mul_nonneg hu2 (by omega)
  have e2 : U = head * (1073741824 * p) + u2 * p + ul := by rw [hU]; grind
  have e3 : times * ((v1 + 1) * (1073741824 * p)) = (times * v1 + times) * (1073741824 * p) := by grind
  omega
/-- A guess that the second digit lets stand is too great by one at most. -/
theorem knuth_short {U V p v1 v2 vl head u2 ul times left : Int} (hV : V = (v1 * 1073741824 + v2) * p + vl) (hvl0 : 0 ≤ vl) (hvl : vl < p) (hv1 : 1 ≤ v1) (hv2 : 0 ≤ v2) (hU : U = (head * 1073741824 + u2) * p + ul) (hul : 0 ≤ ul)
    (hp : 0 < p) (hh : head = times * v1 + left) (ht : 0 ≤ times) (ht2 : times < 1073741824) (h : times * v2 ≤ left * 1073741824 + u2) : (times - 1) * V ≤ U := by
  have h1 : times * vl ≤ times * p := mul_le_l (by omega) ht
  have h2 : times * v2 * p ≤ (left * 1073741824 + u2) * p := mul_le_r h (by omega)
  have h3 : times * p ≤ 1073741824 * p := mul_le_r (by omega) (by omega)
  have h4 : 1 * (1073741824 * p) ≤ v1 * (1073741824 * p) := mul_le_r hv1 (by omega)
  have h5 : 0 ≤ v2 * p := Int.mul_nonneg hv2 (by omega)
  have e0 : V = v1 * (1073741824 * p) + v2 * p + vl := by rw [hV]; grind
  have e1 : (times - 1) * V = times * v1 * 1073741824 * p + times * v2 * p + times * vl - V := by rw [hV]; grind
  have e2 : U = times * v1 * 1073741824 * p + (left * 1073741824 + u2) * p + ul := by rw [hU, hh]; grind
  omega

/-- Euclid's steps put together (sg is 1 or -1): what they say of x and y, the heads x0 and y0. -/
structure Steps (x0 y0 x y fA fB nA nB sg : Int) : Prop where
  sgn : sg = 1 ∨ sg = -1
  ex : x = sg * (fA * x0 - fB * y0)
  ey : y = sg * (nB * y0 - nA * x0)
  det : fA * nB - fB * nA = sg
  fA0 : 0 ≤ fA
  fB0 : 0 ≤ fB
  nA0 : 0 ≤ nA
  nB1 : 1 ≤ nB
theorem Steps.start (x0 y0 : Int) : Steps x0 y0 x0 y0 1 0 0 1 1 := ⟨.inl rfl, by omega, by omega, by omega, by omega, by omega, by omega, by omega⟩
theorem Steps.step {x0 y0 x y fA fB nA nB sg : Int} (h : Steps x0 y0 x y fA fB nA nB sg) {q : Int} (hq : 1 ≤ q) :
    Steps x0 y0 y (x - q * y) nA nB (fA + q * nA) (fB + q * nB) (-sg) := by
  have h1 := Int.mul_nonneg (show 0 ≤ q by omega) h.nA0
  have h2 : 1 * nB ≤ q * nB := mul_le_r hq (by have := h.nB1; omega)
  have hf := h.fA0
  have hg := h.fB0
  have hn := h.nB1
  refine ⟨by rcases h.sgn with e | e <;> omega, ?_, ?_, ?_, h.nA0, by omega, by omega, by omega⟩
  · rw [h.ey]; grind
  · rw [h.ey, h.ex]; grind
  · have := h.det; grind
/-- What is sure of the heads is sure of the whole numbers. -/
theorem Steps.whole {x0 y0 x y fA fB nA nB sg S al be : Int} (h : Steps x0 y0 x y fA fB nA nB sg) (hS : 0 < S) (ha0 : 0 ≤ al) (ha : al < S) (hb0 : 0 ≤ be) (hb : be < S)
    (hab : nA ≤ nB) (hfb : fA ≤ fB) (hy : nB ≤ y) (hx : nB + fB ≤ x - y) :
    0 < sg * (nB * (y0 * S + be) - nA * (x0 * S + al)) ∧ sg * (nB * (y0 * S + be) - nA * (x0 * S + al)) < sg * (fA * (x0 * S + al) - fB * (y0 * S + be)) := by
  have hn := h.nB1
  have hf := h.fB0
  have k1 : nB * be ≤ nB * (S - 1) := mul_le_l (by omega) (by omega)
  have k2 : nA * al ≤ nA * (S - 1) := mul_le_l (by omega) h.nA0
  have k3 : nA * (S - 1) ≤ nB * (S - 1) := mul_le_r hab (by omega)
  have k4 : 0 ≤ nB * be := Int.mul_nonneg (by omega) hb0
  have k5 : 0 ≤ nA * al := Int.mul_nonneg h.nA0 ha0
  have k6 : nB * S ≤ y * S := mul_le_r hy (by omega)
  have k7 : (nB + fB) * S ≤ (x - y) * S := mul_le_r hx (by omega)
  have m1 : fB * be ≤ fB * (S - 1) := mul_le_l (by omega) hf
  have m2 : fA * al ≤ fA * (S - 1) := mul_le_l (by omega) h.fA0
  have m3 : fA * (S - 1) ≤ fB * (S - 1) := mul_le_r hfb (by omega)
  have m4 : 0 ≤ fB * be := Int.mul_nonneg hf hb0
  have m5 : 0 ≤ fA * al := Int.mul_nonneg h.fA0 ha0
  have ex := h.ex
  have ey := h.ey
  have e1 : nB * (y0 * S + be) - nA * (x0 * S + al) = (nB * y0 - nA * x0) * S + nB * be - nA * al := by grind
  have e2 : fA * (x0 * S + al) - fB * (y0 * S + be) = (fA * x0 - fB * y0) * S + fA * al - fB * be := by grind
  have e3 : nB * (S - 1) = nB * S - nB := by grind
  have e4 : fB * (S - 1) = fB * S - fB := by grind
  have e5 : (nB + fB) * S = nB * S + fB * S := by grind
  have e6 : (x - y) * S = x * S - y * S := by grind
  rw [e1, e2]
  rcases h.sgn with rfl | rfl
  · have e7 : (nB * y0 - nA * x0) * S = y * S := by rw [ey]; grind
    have e8 : (fA * x0 - fB * y0) * S = x * S := by rw [ex]; grind
    constructor <;> omega
  · have e7 : (nB * y0 - nA * x0) * S = - (y * S) := by rw [ey]; grind
    have e8 : (fA * x0 - fB * y0) * S = - (x * S) := by rw [ex]; grind
    constructor <;> omega
end Go.Proofs.YtjlmpgbadgkgmaaGreatDoor.M

/-
  A call that writes one block of its caller's (Wr), and what stays; slices that are written in their place.
-/
namespace Go.Proofs.YtjlmpgbadgkgmaaGreatDoor
open Go Go.RowKit Go.Proofs.YtjlmpgbadgkgmaaGreatDoor.M
set_option linter.unusedSimpArgs false
set_option linter.unusedVariables false

/-- w' is w with new blocks, and with writes to block g alone. -/
structure Wr (g : Nat) (w w' : World) : Prop where
  os : w'.os = w.os
  tape : w'.tape = w.tape
  output : w'.output = w.output
  size : w.heap.size ≤ w'.heap.size
  block : ∀ k, k < w.heap.size → k ≠ g → w'.heap[k]? = w.heap[k]?
theorem Wr.refl (g : Nat) (w : World) : Wr g w w := ⟨rfl, rfl, rfl, Nat.le_refl _, fun _ _ _ => rfl⟩
theorem Wr.trans {g : Nat} {a b c : World} (h : Wr g a b) (k : Wr g b c) : Wr g a c :=
  ⟨k.os.trans h.os, k.tape.trans h.tape, k.output.trans h.output, Nat.le_trans h.size k.size, fun i hi hg => (k.block i (Nat.lt_of_lt_of_le hi h.size) hg).trans (h.block i hi hg)⟩
theorem Wr.setCell {g : Nat} {a w : World} (h : Wr g a w) (o : Nat) (u : Value) : Wr g a (w.setCell ⟨g, o, none⟩ u) :=
  ⟨h.os, h.tape, h.output, by simp [World.setCell]; exact h.size, fun k hk hg => (Below.heap_setCell _ _ _ _ hg).trans (h.block k hk hg)⟩
theorem Wr.drew {g : Nat} {a w : World} (h : Wr g a w) : Wr g a w.drew := ⟨h.os, h.tape, h.output, h.size, h.block⟩
theorem Wr.drewN {g : Nat} {a w : World} (h : Wr g a w) (n : Nat) : Wr g a (w.drewN n) := ⟨h.os, h.tape, h.output, h.size, h.block⟩
theorem Below.wr {B g : Nat} {a w : World} (h : Below B a w) (hB : w.heap.size ≤ B) : Wr g w w → Below B a w := fun _ => h
theorem wr_of {g : Nat} {a w : World} (h : Below a.heap.size a w) : Wr g a w := ⟨h.os, h.tape, h.output, h.size, fun k hk _ => h.block k hk⟩
theorem Wr.below {B g : Nat} {a w w' : World} (h : Wr g w w') (hb : Below B a w) (hB : B ≤ w.heap.size) (hg : B ≤ g) : Below B a w' :=
  hb.trans ⟨h.os, h.tape, h.output, h.size, fun k hk => h.block k (by omega) (by omega)⟩
theorem Wr.cell {g : Nat} {w w' : World} (h : Wr g w w') {p : Addr} (hp : p.block < w.heap.size) (hg : p.block ≠ g) : w'.cell? p = w.cell? p := World.cell?_of_block (w := w) (h.block p.block hp hg)
/-- A slice that is read, not of block g. -/
structure RowX (g : Nat) (w : World) (ao : Option Addr) (n cap : Nat) (d : Nat → Int) : Prop where
  le : n ≤ cap
  max : cap ≤ 9223372036854775807
  spot : 0 < n → ∃ b off, ao = some ⟨b, off, none⟩ ∧ b < w.heap.size ∧ b ≠ g ∧ ∀ i, i < n → w.cell? ⟨b, off + i, none⟩ = some (.int .i64 (d i))
theorem RowX.keeps {g : Nat} {w w' : World} {ao : Option Addr} {n cap : Nat} {d : Nat → Int} (h : RowX g w ao n cap d) (hw : Wr g w w') : RowX g w' ao n cap d :=
  ⟨h.le, h.max, fun hn => by
    obtain ⟨b, off, rfl, hlt, hg, hc⟩ := h.spot hn
    exact ⟨b, off, rfl, Nat.lt_of_lt_of_le hlt hw.size, hg, fun i hi => (hw.cell (p := ⟨b, off + i, none⟩) hlt hg).trans (hc i hi)⟩⟩
theorem RowX.of {g : Nat} {w : World} {ao : Option Addr} {n cap : Nat} {d : Nat → Int} (h : Row w ao n cap d) (hg : w.heap.size ≤ g) : RowX g w ao n cap d :=
  ⟨h.le, h.max, fun hn => by
    obtain ⟨b, off, rfl, hlt, hc⟩ := h.spot hn
    exact ⟨b, off, rfl, hlt, by omega, hc⟩⟩
theorem Out.store {B : Nat} {w : World} {g n cap : Nat} {d : Nat → Int} (h : Out B w (.slice (some ⟨g, 0, none⟩) n cap) n d) {i : Nat} (hi : i < n) (x : Int) :
    Out B (w.setCell ⟨g, i, none⟩ (.int .i64 x)) (.slice (some ⟨g, 0, none⟩) n cap) n (upd d i x) := by
  have h1 := (World.ownsRow.stored h i (.int .i64 x)).1
  unfold Out
  have e : vals (upd d i x) n = (vals d n).set i (.int .i64 x) := by
    refine (vals_ext (by simp [vals_length]) fun j hj => ?_).symm
    by_cases hji : j = i
    · subst hji; rw [upd_same, List.getElem?_set_self (by rw [vals_length]; exact hj)]
    · rw [upd_other d x hji, List.getElem?_set_ne (by omega), vals_get d hj]
  rw [e]; exact h1
theorem Out.spot {B : Nat} {w : World} {ao : Option Addr} {n cap : Nat} {d : Nat → Int} (h : Out B w (.slice ao n cap) n d) (hn : 0 < n) : ∃ g, ao = some ⟨g, 0, none⟩ ∧ B ≤ g ∧ g < w.heap.size := by
  rcases h.2 with ⟨_, h0⟩ | ⟨g, cap', cur, hv, hB, hg, _⟩
  · omega
  · simp only [Value.slice.injEq] at hv
    exact ⟨g, hv.1, hB, (Array.getElem?_eq_some_iff.1 hg).1⟩
theorem Out.cell {B : Nat} {w : World} {g n cap : Nat} {d : Nat → Int} (h : Out B w (.slice (some ⟨g, 0, none⟩) n cap) n d) {i : Nat} (hi : i < n) : w.cell? ⟨g, i, none⟩ = some (.int .i64 (d i)) := by
  rw [World.ownsRow.cellAt h i (by omega), vals_get d hi]
theorem Out.frozen {B : Nat} {w : World} {g n cap : Nat} {d : Nat → Int} (h : Out B w (.slice (some ⟨g, 0, none⟩) n cap) n d) (i : Nat) : w.frozen? ⟨g, i, none⟩ = false := World.ownsRow.frozenAt h i

end Go.Proofs.YtjlmpgbadgkgmaaGreatDoor

/-
  plumblaw2's Keep: lists of answers that are kept, in memory: what it is (Kp), Add, by its contract.
-/
namespace Go.Proofs.YtjlmpgbadgkgmaaGreatDoor
open Go Go.RowKit Go.Proofs.YtjlmpgbadgkgmaaGreatDoor.M
set_option linter.unusedSimpArgs false
set_option linter.unusedVariables false

/-- One put in another's place. -/
def updV {α : Type} (v : Nat → α) (i : Nat) (x : α) : Nat → α := fun j => if j = i then x else v j
theorem updV_same {α : Type} (v : Nat → α) (i : Nat) (x : α) : updV v i x i = x := by simp [updV]
theorem updV_other {α : Type} (v : Nat → α) {i j : Nat} (x : α) (h : j ≠ i) : updV v i x j = v j := by simp [updV, h]
/-- The first m of v. -/
def valsV (v : Nat → Value) (m : Nat) : List Value := (List.range m).map v
theorem valsV_length (v : Nat → Value) (m : Nat) : (valsV v m).length = m := by simp [valsV]
theorem valsV_get (v : Nat → Value) {m i : Nat} (h : i < m) : (valsV v m)[i]? = some (v i) := by simp [valsV, h]
theorem valsV_snoc (v : Nat → Value) (m : Nat) (x : Value) : valsV v m ++ [x] = valsV (updV v m x) (m + 1) := by
  apply List.ext_getElem?
  intro i
  by_cases h : i < m
  · rw [List.getElem?_append_left (by rw [valsV_length]; exact h), valsV_get v h, valsV_get _ (by omega), updV_other v x (by omega)]
  · by_cases e : i = m
    · subst e; rw [List.getElem?_append_right (by rw [valsV_length]; omega), valsV_length, valsV_get _ (by omega), updV_same]; simp
    · rw [List.getElem?_eq_none (by simp [valsV_length]; omega), List.getElem?_eq_none (by rw [valsV_length]; omega)]
/-- A list of slices that is the call's own. -/
def OutV (B : Nat) (w : World) (x : Value) (m : Nat) (v : Nat → Value) : Prop := w.ownsRow B 22 1 x m (valsV v m)
theorem OutV.shape {B : Nat} {w : World} {x : Value} {m : Nat} {v : Nat → Value} (h : OutV B w x m v) : ∃ xo xc, x = .slice xo m xc ∧ m ≤ xc ∧ xc ≤ 9223372036854775807 ∧ (0 < m → ∃ g, xo = some ⟨g, 0, none⟩) := by
  rcases h.2 with ⟨rfl, rfl⟩ | ⟨g, cap, cur, rfl, hb, hg, hn, hm, _⟩
  · exact ⟨none, 0, rfl, Nat.le_refl _, by decide, fun h => by omega⟩
  · exact ⟨_, cap, rfl, hn, by unfold maxLen at hm; exact hm, fun _ => ⟨g, rfl⟩⟩
theorem OutV.of_block {B : Nat} {w w' : World} {x : Value} {m : Nat} {v : Nat → Value} (h : OutV B w x m v) (hb : ∀ g, x.ownBlock = some g → w'.heap[g]? = w.heap[g]?) : OutV B w' x m v := by
  refine ⟨h.1, ?_⟩
  rcases h.2 with hn | ⟨g, cap, cur, rfl, hbb, hg, rest⟩
  · exact .inl hn
  · exact .inr ⟨g, cap, cur, rfl, hbb, (hb g rfl).trans hg, rest⟩
theorem Out.of_block {B : Nat} {w w' : World} {x : Value} {n : Nat} {d : Nat → Int} (h : Out B w x n d) (hb : ∀ g, x.ownBlock = some g → w'.heap[g]? = w.heap[g]?) : Out B w' x n d := by
  refine ⟨h.1, ?_⟩
  rcases h.2 with hn | ⟨g, cap, cur, rfl, hbb, hg, rest⟩
  · exact .inl hn
  · exact .inr ⟨g, cap, cur, rfl, hbb, (hb g rfl).trans hg, rest⟩
theorem Out.typed {B : Nat} {w : World} {x : Value} {n : Nat} {d : Nat → Int} (h : Out B w x n d) {g : Nat} (hg : x.ownBlock = some g) : ∃ cur z, w.heap[g]? = some (.cells cur 3 z) := by
  rcases h.2 with ⟨rfl, _⟩ | ⟨g', cap, cur, rfl, hbb, hg', rest⟩
  · simp [Value.ownBlock] at hg
  · simp only [Value.ownBlock, Option.some.injEq] at hg; subst hg; exact ⟨cur, _, hg'⟩
theorem OutV.typed {B : Nat} {w : World} {x : Value} {n : Nat} {v : Nat → Value} (h : OutV B w x n v) {g : Nat} (hg : x.ownBlock = some g) : ∃ cur z, w.heap[g]? = some (.cells cur 22 z) := by
  rcases h.2 with ⟨rfl, _⟩ | ⟨g', cap, cur, rfl, hbb, hg', rest⟩
  · simp [Value.ownBlock] at hg
  · simp only [Value.ownBlock, Option.some.injEq] at hg; subst hg; exact ⟨cur, _, hg'⟩
theorem OutV.ge {B : Nat} {w : World} {x : Value} {n : Nat} {v : Nat → Value} (h : OutV B w x n v) {g : Nat} (hg : x.ownBlock = some g) : B ≤ g ∧ g < w.heap.size := by
  rcases h.2 with ⟨rfl, _⟩ | ⟨g', cap, cur, rfl, hbb, hg', rest⟩
  · simp [Value.ownBlock] at hg
  · simp only [Value.ownBlock, Option.some.injEq] at hg; subst hg; exact ⟨hbb, (Array.getElem?_eq_some_iff.1 hg').1⟩
theorem Out.ge {B : Nat} {w : World} {x : Value} {n : Nat} {v : Nat → Int} (h : Out B w x n v) {g : Nat} (hg : x.ownBlock = some g) : B ≤ g ∧ g < w.heap.size := by
  rcases h.2 with ⟨rfl, _⟩ | ⟨g', cap, cur, rfl, hbb, hg', rest⟩
  · simp [Value.ownBlock] at hg
  · simp only [Value.ownBlock, Option.some.injEq] at hg; subst hg; exact ⟨hbb, (Array.getElem?_eq_some_iff.1 hg').1⟩
/-- All blocks are left as they are but those of lists of slices and of Keep itself. -/
structure Ik (B : Nat) (w w' : World) : Prop where
  below : Below B w w'
  block : ∀ (g : Nat) (cur : Array Value) (t : TypeId) z, t ≠ 22 → t ≠ 26 → w.heap[g]? = some (Obj.cells cur t z) → w'.heap[g]? = w.heap[g]?
theorem Ik.refl (B : Nat) (w : World) : Ik B w w := ⟨Below.refl _ _, fun _ _ _ _ _ _ _ => rfl⟩
theorem Ik.trans {B : Nat} {a b c : World} (h : Ik B a b) (k : Ik B b c) : Ik B a c :=
  ⟨h.below.trans k.below, fun g cur t z t1 t2 hg => (k.block g cur t z t1 t2 ((h.block g cur t z t1 t2 hg).trans hg)).trans (h.block g cur t z t1 t2 hg)⟩
theorem Ik.of {B : Nat} {a b : World} (h : Below a.heap.size a b) (hB : B ≤ a.heap.size) : Ik B a b :=
  ⟨h.mono hB, fun g cur t z _ _ hg => h.block g (Array.getElem?_eq_some_iff.1 hg).1⟩
theorem Out.ik {B B' : Nat} {w w' : World} {x : Value} {n : Nat} {d : Nat → Int} (h : Out B w x n d) (k : Ik B' w w') : Out B w' x n d :=
  h.of_block fun g hg => by obtain ⟨cur, z, hc⟩ := h.typed hg; exact k.block g cur _ z (by decide) (by decide) hc
/-- Blocks that were there are left, but those of lists of slices and of Keep itself. -/
def Fr (w w' : World) : Prop := ∀ (g : Nat) (cur : Array Value) (t : TypeId) z, t ≠ 22 → t ≠ 26 → w.heap[g]? = some (Obj.cells cur t z) → w'.heap[g]? = w.heap[g]?
theorem Ik.fr {B : Nat} {w w' : World} (h : Ik B w w') : Fr w w' := h.block
theorem Fr.of {w w' : World} (h : Below w.heap.size w w') : Fr w w' := fun g cur t z _ _ hg => h.block g (Array.getElem?_eq_some_iff.1 hg).1
theorem Fr.trans {a b c : World} (h : Fr a b) (k : Fr b c) : Fr a c := fun g cur t z t1 t2 hg => (k g cur t z t1 t2 ((h g cur t z t1 t2 hg).trans hg)).trans (h g cur t z t1 t2 hg)
theorem Fr.wr {w w' w'' : World} {g : Nat} (h : Fr w w') (hw : Wr g w' w'') (hg : w.heap.size ≤ g) (hs : w.heap.size ≤ w'.heap.size) : Fr w w'' := fun k cur t z t1 t2 hk => by
  have hlt := (Array.getElem?_eq_some_iff.1 hk).1
  exact (hw.block k (by omega) (by omega)).trans (h k cur t z t1 t2 hk)
/-- What is kept: m answers v, what they were (u), of n digits d. -/
structure Kp (B : Nat) (w : World) (k m : Nat) (v u : Nat → Value) (n : Nat → Nat) (d : Nat → Nat → Int) : Prop where
  blk : ∃ x y, w.heap[k]? = some (Obj.cells #[x, y] 26 (0, 0)) ∧ OutV B w x m v ∧ OutV B w y m u ∧ ∀ g, x.ownBlock = some g → y.ownBlock ≠ some g
  ge : B ≤ k
  ans : ∀ i, i < m → Out B w (v i) (n i) (d i)
  was : ∀ i, i < m → Out B w (u i) (n i) (d i)
  len : ∀ i, i < m → n i ≤ 100000
  apart : ∀ i j, i < m → j < m → i ≠ j → ∀ g, (v i).ownBlock = some g → (v j).ownBlock ≠ some g
theorem Kp.keeps {B : Nat} {w w' : World} {k m : Nat} {v u : Nat → Value} {n : Nat → Nat} {d : Nat → Nat → Int} (h : Kp B w k m v u n d) (hb : Below w.heap.size w w') : Kp B w' k m v u n d := by
  obtain ⟨⟨x, y, hk, hx, hy, hxy⟩, hge, hans, hwas, hlen, hapart⟩ := h
  exact ⟨⟨x, y, (hb.block k (Array.getElem?_eq_some_iff.1 hk).1).trans hk, hx.of_block fun g hg => hb.block g (hx.ge hg).2, hy.of_block fun g hg => hb.block g (hy.ge hg).2, hxy⟩, hge, fun i hi => (hans i hi).stays hb, fun i hi => (hwas i hi).stays hb, hlen, hapart⟩
theorem info_slice : (Tryz.prog.info? 22).map (fun i => (i.zero, i.size, i.bytes)) = some (some (.slice none 0 0), 1, 24) := by kernel_rfl
theorem cell_one (w : World) (x : Value) (t : TypeId) {g : Nat} (hg : g = w.heap.size) : (w.alloc (.cells #[x] t)).cell? ⟨g, 0, none⟩ = some x := by
  subst hg
  rw [cell_of_row _ _ 0 _ _ _ (heap_alloc_new w _)]; rfl
/-- 'append(xs, x)' of a list of slices. -/
theorem wpList_appV {w : World} {ops : Array Oper} {rest : List Oper} {o : Oper} {a : Act} {Q : Exit → Act → World → Prop} (hgd : o.guard = none) (s x : Operand)
    (ho : o.op = .call { callee := .builtin .append, args := #[s, x], argTypes := #[24, 24] }) (B : Nat) (v : Value) (m : Nat) (f : Nat → Value) (hs : a.eval s = v) (hO : OutV B w v m f)
    (g : Nat) (y : Value) (hx : a.eval x = .slice (some ⟨g, 0, none⟩) 1 1) (hy : w.cell? ⟨g, 0, none⟩ = some y) (h1 : y.oneCell' = true) (hlen : m ≤ 1000) (hB : B ≤ w.heap.size)
    (h : ∀ v' w', OutV B w' v' (m + 1) (updV f m y) → w.grownBy w' v.ownBlock → (v'.ownBlock = v.ownBlock ∨ v'.ownBlock = some w.heap.size) → wpList Tryz.prog ops Q rest (a.put o.dst v') w') : wpList Tryz.prog ops Q (o :: rest) a w := by
  obtain ⟨i0, hi, hz0, hz1, hz2⟩ := info_parts info_slice
  refine wpList_append_own_at w hgd s x 24 ho B 22 i0 (.slice none 0 0) 1 24 Tryz.underlying24 hi hz0 hz1 hz2 rfl (by decide) v m (valsV f m) hs hO ⟨g, 0, none⟩ 1 1 [y] hx rfl ?_ (by simpa using h1) (by unfold maxLen; omega) (by omega) hB ?_
  · intro j u hu
    have hj : j = 0 := by have := (List.getElem?_eq_some_iff.1 hu).1; simp at this; exact this
    subst hj
    simp at hu
    subst hu
    rw [add_none]; exact hy
  · intro v' w' h1 h2 _ h3
    rw [valsV_snoc] at h1
    exact h v' w' h1 h2 h3
theorem Ik.grownV {B : Nat} {a w w' : World} {row : Option Nat} (h : Ik B a w) (hg : w.grownBy w' row) (hB : B ≤ w.heap.size) (hr : ∀ g, row = some g → B ≤ g ∧ ∃ (cur : Array Value) (z : Nat × Nat), w.heap[g]? = some (Obj.cells cur 22 z)) : Ik B a w' := by
  refine ⟨h.below.grown hg hB fun k hk => (hr k hk).1, fun g cur t z t1 t2 hc => ?_⟩
  have e := (h.block g cur t z t1 t2 hc).trans hc
  refine (hg.block g (Array.getElem?_eq_some_iff.1 e).1 fun he => ?_).trans (h.block g cur t z t1 t2 hc)
  obtain ⟨_, cur', z', hc'⟩ := hr g he.symm
  rw [e] at hc'
  simp only [Option.some.injEq, Obj.cells.injEq] at hc'
  exact t1 hc'.2.1
theorem Ik.alloc {B : Nat} {a w : World} (h : Ik B a w) (hB : B ≤ w.heap.size) (o : Obj) : Ik B a (w.alloc o) :=
  ⟨h.below.alloc hB o, fun g cur t z t1 t2 hc => by
    have e := (h.block g cur t z t1 t2 hc).trans hc
    exact (Below.heap_alloc _ _ _ (Array.getElem?_eq_some_iff.1 e).1).trans (h.block g cur t z t1 t2 hc)⟩
theorem Ik.setK {B : Nat} {a w : World} (h : Ik B a w) {k : Nat} {cs : Array Value} {z : Nat × Nat} (hk : w.heap[k]? = some (Obj.cells cs 26 z)) (hB : B ≤ k) (o : Nat) (u : Value) : Ik B a (w.setCell ⟨k, o, none⟩ u) :=
  ⟨h.below.setCell hB u, fun g cur t z' t1 t2 hc => by
    have e := (h.block g cur t z' t1 t2 hc).trans hc
    refine (Below.heap_setCell _ _ _ _ fun he => ?_).trans (h.block g cur t z' t1 t2 hc)
    change g = k at he
    subst he
    rw [e] at hk
    simp only [Option.some.injEq, Obj.cells.injEq] at hk
    exact t2 hk.2.1⟩
theorem grown_out {B : Nat} {w w' : World} {row : Option Nat} {x : Value} {m : Nat} {v : Nat → Value} (h : OutV B w x m v) (hg : w.grownBy w' row) (hne : ∀ g, x.ownBlock = some g → row ≠ some g) : OutV B w' x m v :=
  h.of_block fun g hgx => hg.block g (h.ge hgx).2 fun e => hne g hgx e.symm
theorem OutV.alloc {B : Nat} {w : World} {x : Value} {m : Nat} {v : Nat → Value} (h : OutV B w x m v) (o : Obj) : OutV B (w.alloc o) x m v := h.of_block fun g hg => Below.heap_alloc _ _ _ (h.ge hg).2
theorem OutV.setK {B : Nat} {w : World} {x : Value} {m : Nat} {v : Nat → Value} (h : OutV B w x m v) {k : Nat} {cs : Array Value} {z : Nat × Nat} (hk : w.heap[k]? = some (Obj.cells cs 26 z)) (o : Nat) (u : Value) : OutV B (w.setCell ⟨k, o, none⟩ u) x m v :=
  h.of_block fun g hg => Below.heap_setCell _ _ _ _ fun he => by
    change g = k at he
    subst he
    obtain ⟨cur, z', hc⟩ := h.typed hg
    rw [hk] at hc
    simp at hc
theorem keep_at {w : World} {k : Nat} {x y : Value} (hk : w.heap[k]? = some (Obj.cells #[x, y] 26 (0, 0))) : w.cell? ⟨k, 0, none⟩ = some x ∧ w.cell? ⟨k, 1, none⟩ = some y ∧ w.frozen? ⟨k, 0, none⟩ = false ∧ w.frozen? ⟨k, 1, none⟩ = false :=
  ⟨by rw [cell_of_row w k 0 _ _ _ hk]; rfl, by rw [cell_of_row w k 1 _ _ _ hk]; rfl, frozen_of_row w k 0 _ _ hk, frozen_of_row w k 1 _ _ hk⟩

/-- The two lists of what is kept, as they lie: x of m, y of m'. -/
structure KX (B : Nat) (w : World) (k : Nat) (x y : Value) (m : Nat) (v : Nat → Value) (m' : Nat) (u : Nat → Value) : Prop where
  blk : w.heap[k]? = some (Obj.cells #[x, y] 26 (0, 0))
  ox : OutV B w x m v
  oy : OutV B w y m' u
  ne : ∀ g, x.ownBlock = some g → y.ownBlock ≠ some g
  ge : B ≤ k
theorem KX.keeps {B : Nat} {w w' : World} {k : Nat} {x y : Value} {m : Nat} {v : Nat → Value} {m' : Nat} {u : Nat → Value} (h : KX B w k x y m v m' u) (hb : Below w.heap.size w w') : KX B w' k x y m v m' u :=
  ⟨(hb.block k (Array.getElem?_eq_some_iff.1 h.blk).1).trans h.blk, h.ox.of_block fun g hg => hb.block g (h.ox.ge hg).2, h.oy.of_block fun g hg => hb.block g (h.oy.ge hg).2, h.ne, h.ge⟩
theorem KX.lt {B : Nat} {w : World} {k : Nat} {x y : Value} {m : Nat} {v : Nat → Value} {m' : Nat} {u : Nat → Value} (h : KX B w k x y m v m' u) : k < w.heap.size := (Array.getElem?_eq_some_iff.1 h.blk).1
theorem set_keep0 {w : World} {k : Nat} {x y x' : Value} (hk : w.heap[k]? = some (Obj.cells #[x, y] 26 (0, 0))) : (w.setCell ⟨k, 0, none⟩ x').heap[k]? = some (Obj.cells #[x', y] 26 (0, 0)) := by
  rw [heap_setCell_same w k 0 _ _ _ hk]; rfl
theorem set_keep1 {w : World} {k : Nat} {x y y' : Value} (hk : w.heap[k]? = some (Obj.cells #[x, y] 26 (0, 0))) : (w.setCell ⟨k, 1, none⟩ y').heap[k]? = some (Obj.cells #[x, y'] 26 (0, 0)) := by
  rw [heap_setCell_same w k 1 _ _ _ hk]; rfl
theorem KX.stepX {B : Nat} {w w2 : World} {k : Nat} {x y x' : Value} {m : Nat} {v v' : Nat → Value} {m' : Nat} {u : Nat → Value} (h : KX B w k x y m v m' u) (hB : B ≤ w.heap.size)
    (hg : w.grownBy w2 x.ownBlock) (hX : OutV B w2 x' (m + 1) v') (hat : x'.ownBlock = x.ownBlock ∨ x'.ownBlock = some w.heap.size) :
    w2.heap[k]? = some (Obj.cells #[x, y] 26 (0, 0)) ∧ KX B (w2.setCell ⟨k, 0, none⟩ x') k x' y (m + 1) v' m' u ∧ Ik B w (w2.setCell ⟨k, 0, none⟩ x') := by
  have hk2 : w2.heap[k]? = some (Obj.cells #[x, y] 26 (0, 0)) := (hg.block k h.lt fun e => by
    obtain ⟨cur, z, hc⟩ := h.ox.typed e.symm
    rw [h.blk] at hc
    simp at hc).trans h.blk
  have oy2 := grown_out h.oy hg fun g hgy e => h.ne g e hgy
  refine ⟨hk2, ⟨set_keep0 hk2, hX.setK hk2 _ _, oy2.setK hk2 _ _, fun g e => ?_, h.ge⟩, ((Ik.refl B w).grownV hg hB fun g e => ⟨(h.ox.ge e).1, h.ox.typed e⟩).setK hk2 h.ge _ _⟩
  rcases hat with q | q
  · exact h.ne g (q.symm.trans e)
  · intro hy'
    rw [e] at q
    have := (h.oy.ge hy').2
    simp at q
    omega
theorem KX.stepY {B : Nat} {w w2 : World} {k : Nat} {x y y' : Value} {m : Nat} {v : Nat → Value} {m' : Nat} {u u' : Nat → Value} (h : KX B w k x y m v m' u) (hB : B ≤ w.heap.size)
    (hg : w.grownBy w2 y.ownBlock) (hY : OutV B w2 y' (m' + 1) u') (hat : y'.ownBlock = y.ownBlock ∨ y'.ownBlock = some w.heap.size) :
    w2.heap[k]? = some (Obj.cells #[x, y] 26 (0, 0)) ∧ KX B (w2.setCell ⟨k, 1, none⟩ y') k x y' m v (m' + 1) u' ∧ Ik B w (w2.setCell ⟨k, 1, none⟩ y') := by
  have hk2 : w2.heap[k]? = some (Obj.cells #[x, y] 26 (0, 0)) := (hg.block k h.lt fun e => by
    obtain ⟨cur, z, hc⟩ := h.oy.typed e.symm
    rw [h.blk] at hc
    simp at hc).trans h.blk
  have ox2 := grown_out h.ox hg fun g hgx e => h.ne g hgx e
  refine ⟨hk2, ⟨set_keep1 hk2, ox2.setK hk2 _ _, hY.setK hk2 _ _, fun g e e' => ?_, h.ge⟩, ((Ik.refl B w).grownV hg hB fun g e => ⟨(h.oy.ge e).1, h.oy.typed e⟩).setK hk2 h.ge _ _⟩
  rcases hat with q | q
  · exact h.ne g e (q.symm.trans e')
  · rw [e'] at q
    have := (h.ox.ge e).2
    simp at q
    omega
/-- 'append' of ints, as it runs, and where the new slice lies. -/
theorem run_app {w : World} (ty : TypeId) (B : Nat) (v : Value) (n : Nat) (d : Nat → Int) (hO : Out B w v n d) (bo : Option Addr) (m cb : Nat) (e : Nat → Int) (hR : Row w bo m cb e) (hlen : n + m ≤ 1000000) (hB : B ≤ w.heap.size) :
    ∃ v' w', (Builtin.append_ #[22, 22] ty #[v, .slice bo m cb]).run Tryz.prog w = .ok v' w' ∧ Out B w' v' (n + m) (cat d n e) ∧ w.grownBy w' v.ownBlock ∧ (v'.ownBlock = v.ownBlock ∨ v'.ownBlock = some w.heap.size) := by
  obtain ⟨i0, hi, hz0, hz1, hz2⟩ := info_parts info_int
  cases bo with
  | none =>
    have hc := hR.nl rfl
    have hl := hR.le
    subst hc
    obtain rfl : m = 0 := by omega
    have hr := run_append_owned_none (P := Tryz.prog) w B 22 ty 3 i0 1 Tryz.underlying22 hi v n (vals d n) hO
    exact ⟨v, w, hr, hO.congr fun i hi => by simp [cat]; omega, ⟨rfl, rfl, rfl, Nat.le_refl _, fun _ _ _ => rfl⟩, .inl rfl⟩
  | some ad =>
    obtain ⟨v', w', hr, h2, h3, _, h5⟩ := run_append_own_at (P := Tryz.prog) w B 22 ty 3 i0 (.int .i64 0) 1 8 Tryz.underlying22 hi hz0 hz1 hz2 rfl (by decide) v n (vals d n) hO ad m cb (vals e m) (by rw [vals_length]; omega)
      (fun j u hu => by
        have hj : j < m := by have := (List.getElem?_eq_some_iff.1 hu).1; rwa [vals_length] at this
        obtain ⟨b, off, hb, _, hc⟩ := hR.spot (by omega)
        obtain rfl := Option.some.inj hb
        rw [vals_get e hj] at hu
        rw [add_none, hc j hj]; exact hu) (vals_one e m) (by unfold maxLen; omega) (by omega) hB
    rw [vals_cat] at h2
    exact ⟨v', w', hr, h2, h3, h5⟩
theorem wp_app {w : World} {o : Oper} {a : Act} {K : Act → World → Prop} {Q : Exit → Act → World → Prop} (s x : Operand) (ho : o.op = .call { callee := .builtin .append, args := #[s, x], argTypes := #[22, 22] })
    (B : Nat) (v : Value) (n : Nat) (d : Nat → Int) (hs : a.eval s = v) (hO : Out B w v n d) (bo : Option Addr) (m cb : Nat) (e : Nat → Int) (hx : a.eval x = .slice bo m cb) (hR : Row w bo m cb e) (hlen : n + m ≤ 1000000) (hB : B ≤ w.heap.size)
    (h : ∀ v' w', Out B w' v' (n + m) (cat d n e) → w.grownBy w' v.ownBlock → (v'.ownBlock = v.ownBlock ∨ v'.ownBlock = some w.heap.size) → K (a.put o.dst v') w') : o.wp Tryz.prog a w K Q := by
  obtain ⟨v', w', hr, h2, h3, h4⟩ := run_app o.type B v n d hO bo m cb e hR hlen hB
  unfold Oper.wp execOp
  simp only [ho, resolve, invoke, builtin, Sem.run_bind, Sem.run_pure, Result.andThen_ok, List.map_toArray, List.map_cons, List.map_nil, hs, hx, hr]
  exact h v' w' h2 h3 h4
theorem step_app {w : World} {ops : Array Oper} {o : Oper} {a : Act} {K : Act → World → Prop} {Q : Exit → Act → World → Prop} {E : Prop} (hgd : o.guard = none) (s x : Operand) (ho : o.op = .call { callee := .builtin .append, args := #[s, x], argTypes := #[22, 22] })
    (B : Nat) (v : Value) (n : Nat) (d : Nat → Int) (hs : a.eval s = v) (hO : Out B w v n d) (bo : Option Addr) (m cb : Nat) (e : Nat → Int) (hx : a.eval x = .slice bo m cb) (hR : Row w bo m cb e) (hlen : n + m ≤ 1000000) (hB : B ≤ w.heap.size)
    (h : ∀ v' w', Out B w' v' (n + m) (cat d n e) → w.grownBy w' v.ownBlock → (v'.ownBlock = v.ownBlock ∨ v'.ownBlock = some w.heap.size) → K (a.put o.dst v') w') : if Region.wanted o (yielded ops a.tmps) = true then Oper.wp Tryz.prog o a w K Q else E := by
  rw [if_pos (show Region.wanted o (yielded ops a.tmps) = true by simp [Region.wanted, hgd])]
  exact wp_app s x ho B v n d hs hO bo m cb e hx hR hlen hB h
theorem step_appV {w : World} {ops : Array Oper} {o : Oper} {a : Act} {K : Act → World → Prop} {Q : Exit → Act → World → Prop} {E : Prop} (hgd : o.guard = none) (s x : Operand)
    (ho : o.op = .call { callee := .builtin .append, args := #[s, x], argTypes := #[24, 24] }) (B : Nat) (v : Value) (m : Nat) (f : Nat → Value) (hs : a.eval s = v) (hO : OutV B w v m f)
    (g : Nat) (y : Value) (hx : a.eval x = .slice (some ⟨g, 0, none⟩) 1 1) (hy : w.cell? ⟨g, 0, none⟩ = some y) (h1 : y.oneCell' = true) (hlen : m ≤ 1000) (hB : B ≤ w.heap.size)
    (h : ∀ v' w', OutV B w' v' (m + 1) (updV f m y) → w.grownBy w' v.ownBlock → (v'.ownBlock = v.ownBlock ∨ v'.ownBlock = some w.heap.size) → K (a.put o.dst v') w') : if Region.wanted o (yielded ops a.tmps) = true then Oper.wp Tryz.prog o a w K Q else E := by
  rw [if_pos (show Region.wanted o (yielded ops a.tmps) = true by simp [Region.wanted, hgd])]
  obtain ⟨i0, hi, hz0, hz1, hz2⟩ := info_parts info_slice
  obtain ⟨v', w', hr, h2, h3, _, h5⟩ := run_append_own_at (P := Tryz.prog) w B 24 o.type 22 i0 (.slice none 0 0) 1 24 Tryz.underlying24 hi hz0 hz1 hz2 rfl (by decide) v m (valsV f m) hO ⟨g, 0, none⟩ 1 1 [y] rfl
    (fun j u hu => by
      have hj : j = 0 := by have := (List.getElem?_eq_some_iff.1 hu).1; simp at this; exact this
      subst hj
      simp at hu
      subst hu
      rw [add_none]; exact hy) (by simpa using h1) (by unfold maxLen; omega) (by omega) hB
  rw [valsV_snoc] at h2
  unfold Oper.wp execOp
  simp only [ho, resolve, invoke, builtin, Sem.run_bind, Sem.run_pure, Result.andThen_ok, List.map_toArray, List.map_cons, List.map_nil, hs, hx, hr]
  exact h v' w' h2 h3 h5

theorem Kp.more {B : Nat} {w w7 : World} {k m ln : Nat} {v u : Nat → Value} {n : Nat → Nat} {d : Nat → Nat → Int} {x y l c : Value} {ld : Nat → Int} (h : Kp B w k m v u n d) (hi : Ik B w w7)
    (hk : KX B w7 k x y (m + 1) (updV v m l) (m + 1) (updV u m c)) (hl : Out B w l ln ld) (hc : Out B w7 c ln ld) (hn : ln ≤ 100000) (hap : ∀ i, i < m → ∀ g, (v i).ownBlock = some g → l.ownBlock ≠ some g) :
    Kp B w7 k (m + 1) (updV v m l) (updV u m c) (updV n m ln) (updV d m ld) := by
  refine ⟨⟨x, y, hk.blk, hk.ox, hk.oy, hk.ne⟩, hk.ge, fun i hi' => ?_, fun i hi' => ?_, fun i hi' => ?_, fun i j hi' hj hij g => ?_⟩
  · by_cases e : i = m
    · subst e; simp only [updV_same]; exact hl.ik hi
    · rw [updV_other _ _ e, updV_other _ _ e, updV_other _ _ e]; exact (h.ans i (by omega)).ik hi
  · by_cases e : i = m
    · subst e; simp only [updV_same]; exact hc
    · rw [updV_other _ _ e, updV_other _ _ e, updV_other _ _ e]; exact (h.was i (by omega)).ik hi
  · by_cases e : i = m
    · subst e; simp only [updV_same]; exact hn
    · rw [updV_other _ _ e]; exact h.len i (by omega)
  · by_cases e : i = m
    · subst e
      rw [updV_same, updV_other _ _ (fun q => hij q.symm)]
      exact fun hg hg' => hap j (by omega) g hg' hg
    · rw [updV_other _ _ e]
      by_cases e' : j = m
      · subst e'; rw [updV_same]; exact hap i (by omega) g
      · rw [updV_other _ _ e']; exact h.apart i j (by omega) (by omega) hij g
/-- A list that is read, whatever is kept besides. -/
def Rd (B : Nat) (w : World) (xo : Option Addr) (n xc : Nat) (d : Nat → Int) : Prop := ∀ w', Ik B w w' → Row w' xo n xc d
theorem Out.rd {B : Nat} {w : World} {xo : Option Addr} {n xc : Nat} {d : Nat → Int} (h : Out B w (.slice xo n xc) n d) : Rd B w xo n xc d := fun w' k => by
  obtain ⟨_, _, e, hR⟩ := (h.ik k).row
  simp only [Value.slice.injEq] at e
  obtain ⟨rfl, _, rfl⟩ := e
  exact hR
theorem Rd.ik {B : Nat} {w w' : World} {xo : Option Addr} {n xc : Nat} {d : Nat → Int} (h : Rd B w xo n xc d) (k : Ik B w w') : Rd B w' xo n xc d := fun w2 k2 => h w2 (k.trans k2)
theorem Rd.row {B : Nat} {w : World} {xo : Option Addr} {n xc : Nat} {d : Nat → Int} (h : Rd B w xo n xc d) : Row w xo n xc d := h w (Ik.refl _ _)
theorem Rd.of0 {w0 w : World} {xo : Option Addr} {n xc : Nat} {d : Nat → Int} (h : Row w0 xo n xc d) (hb : Below w0.heap.size w0 w) : Rd w0.heap.size w xo n xc d := fun w' k => h.keeps (hb.trans k.below)
theorem Rd.congr {B : Nat} {w : World} {xo : Option Addr} {n xc : Nat} {d e : Nat → Int} (h : Rd B w xo n xc d) (he : ∀ i, i < n → d i = e i) : Rd B w xo n xc e := fun w' k => (h w' k).congr he

end Go.Proofs.YtjlmpgbadgkgmaaGreatDoor

/-
  plumblaw2's Keep: Apart, by its contract: what is kept lies apart, each answer in memory of its own.
-/
namespace Go.Proofs.YtjlmpgbadgkgmaaGreatDoor
open Go Go.RowKit Go.Proofs.YtjlmpgbadgkgmaaGreatDoor.M
set_option linter.unusedSimpArgs false
set_option linter.unusedVariables false

theorem zero_cells (L : Nat) : (Builtin.zeroCells (Value.int .i64 0).cells L).toList = vals (fun _ => 0) L := by
  apply vals_ext
  · rw [Array.length_toList, size_zeroCells]; show L * 1 = L; omega
  · intro i hi
    rw [Array.getElem?_toList]
    show ((Array.range (L * 1)).map fun i => (#[Value.int .i64 0] : Array Value)[i % 1]!)[i]? = _
    simp [Nat.mod_one, hi]
theorem run_append_room_zeros {P : Program} (w : World) (t tn ty e : TypeId) (i : TypeInfo) (z : Value) (kq kn : IntKind) (ht : P.underlying t = some (.slice e)) (htn : P.underlying tn = some (.int kn)) (hi : P.info? e = some i) (hz : i.zero = some z)
    (g sLen sCap : Nat) (cur : Array Value) (hg : w.heap[g]? = some (.cells cur e (0, 0))) (k : Nat) (h0 : 0 < k) (hs : 0 < i.size) (h1 : ∀ u ∈ (Builtin.zeroCells z.cells k).toList, u.oneCell' = true) (h63 : (k : Int) ≤ 9223372036854775807) (h48 : k * i.bytes ≤ 281474976710656)
    (hroom : sLen + k ≤ sCap) (hfit : sLen * i.size + (Builtin.zeroCells z.cells k).toList.length ≤ cur.size) :
    (Builtin.append_ #[t, tn] ty #[.slice (some ⟨g, 0, none⟩) sLen sCap, .int kq k]).run P w =
      .ok (.slice (some ⟨g, 0, none⟩) (sLen + k) sCap) (w.setRow g (cur.toList.take (sLen * i.size) ++ (Builtin.zeroCells z.cells k).toList ++ cur.toList.drop (sLen * i.size + (Builtin.zeroCells z.cells k).toList.length)).toArray) := by
  have hst := run_storeCells_at P g (sLen * i.size) e (Builtin.zeroCells z.cells k).toList 0 cur w hg (by simpa using hfit) h1
  simp only [Nat.add_zero] at hst
  have hk : k ≠ 0 := by omega
  have hw : IntKind.i64.wrap (k : Int) = k := by rw [IntKind.wrap_i64]; omega
  have h48i : ¬ (281474976710656 < (k : Int) * (i.bytes : Int)) := by
    rw [← Int.natCast_mul]
    omega
  have hneg : ¬ ((k : Int) < 0) := by omega
  have hns : ¬ (k * i.size = 0) := Nat.mul_ne_zero hk (by omega)
  simp [Builtin.append_, run_underlying ht, run_underlying htn, sizeOf, typeInfo, zeroValue, hi, hz, asInt, asIntOf, hw, hneg, hns, hroom, h48i, Addr.add_lit, hst]
/-- 'append(xs, make([]int, L)...)', L at least 1: the old slice reads as it did. -/
theorem run_zeros_keep {w : World} (ty : TypeId) (B : Nat) (v : Value) (n : Nat) (d : Nat → Int) (hO : Out B w v n d) (L : Nat) (hL : 0 < L) (hlen : n + L ≤ 1000000) (hB : B ≤ w.heap.size) :
    ∃ g cap w', (Builtin.append_ #[22, 3] ty #[v, .int .i64 L]).run Tryz.prog w = .ok (.slice (some ⟨g, 0, none⟩) (n + L) cap) w' ∧ Out B w' (.slice (some ⟨g, 0, none⟩) (n + L) cap) (n + L) (cat d n fun _ => 0) ∧ Out B w' v n d ∧ w.grownBy w' v.ownBlock ∧ (v.ownBlock = some g ∨ g = w.heap.size) := by
  obtain ⟨i0, hi, hz0, hz1, hz2⟩ := info_parts info_int
  have hone : ∀ u ∈ (Builtin.zeroCells (Value.int .i64 0).cells L).toList, u.oneCell' = true := by rw [zero_cells]; exact vals_one _ _
  have hzl : (Builtin.zeroCells (Value.int .i64 0).cells L).toList.length = L := by rw [zero_cells, vals_length]
  have fresh : ∀ (bo : Option Addr) (cap0 : Nat) (_ : v = .slice bo n cap0) (_ : cap0 < n + L) (_ : (Builtin.firstCells i0.size n (.slice bo n cap0)).run Tryz.prog w.drew = .ok (vals d n).toArray w.drew),
      ∃ g cap w', (Builtin.append_ #[22, 3] ty #[v, .int .i64 L]).run Tryz.prog w = .ok (.slice (some ⟨g, 0, none⟩) (n + L) cap) w' ∧ Out B w' (.slice (some ⟨g, 0, none⟩) (n + L) cap) (n + L) (cat d n fun _ => 0) ∧ Out B w' v n d ∧ w.grownBy w' v.ownBlock ∧ (v.ownBlock = some g ∨ g = w.heap.size) := by
    intro bo cap0 hv hcap hfc
    have hr := Lib.run_append_grow_zeros (P := Tryz.prog) w 22 3 ty 3 i0 (.int .i64 0) .i64 .i64 Tryz.underlying22 Tryz.underlying3 hi hz0 bo n cap0 (vals d n) hfc L hL (by rw [hz1]; decide) hcap (by omega) (by rw [hz2]; omega) (growslice_fits hcap (by rw [hz2]; omega))
    have hge := grownCap_ge w (n + L) cap0 3
    have hcm := grownCap_le_maxLen w (n + L) cap0 3 (by unfold maxLen; omega)
    refine ⟨_, _, _, by rw [hv]; exact hr, ⟨by rw [vals_length]; omega, .inr ⟨w.heap.size, _, _, rfl, hB, heap_alloc_new w.drew _, hge, hcm, ?_, ?_⟩⟩, ?_, ?_, .inr rfl⟩
    · simp only [Array.size_append, List.size_toArray, size_zeroCells, vals_length]
      show n + L * 1 + _ * 1 = _
      omega
    · simp only [Array.toList_append, zero_cells]
      rw [vals_cat, Nat.mul_one]
      exact List.take_left' (vals_length _ _)
    · exact Out.of_block hO fun g hg => Below.heap_alloc w.drew _ g (hO.ge hg).2
    · exact ⟨rfl, rfl, rfl, by simp, fun k hk _ => Below.heap_alloc w.drew _ k hk⟩
  rcases hO.2 with ⟨rfl, rfl⟩ | ⟨g0, cap0, cur, rfl, hbb, hg0, hn, hcm, hcs, htake⟩
  · exact fresh none 0 rfl (by omega) (by simp [run_firstCells_none, vals])
  · by_cases hroom : n + L ≤ cap0
    · have hr2 := run_append_room_zeros (P := Tryz.prog) w 22 3 ty 3 i0 (.int .i64 0) .i64 .i64 Tryz.underlying22 Tryz.underlying3 hi hz0 g0 n cap0 cur hg0 L hL (by rw [hz1]; decide) hone (by omega) (by rw [hz2]; omega) hroom (by rw [hzl, hz1]; omega)
      rw [hzl, hz1, zero_cells, Nat.mul_one] at hr2
      simp only [Nat.mul_one] at htake
      rw [htake] at hr2
      refine ⟨g0, cap0, _, hr2, ⟨by rw [vals_length]; omega, .inr ⟨g0, cap0, _, rfl, hbb, setRow_heap w g0 cur _ _ _ hg0, hroom, hcm, ?_, ?_⟩⟩, ⟨hO.1, .inr ⟨g0, cap0, _, rfl, hbb, setRow_heap w g0 cur _ _ _ hg0, hn, hcm, ?_, ?_⟩⟩, ⟨rfl, rfl, rfl, by simp, fun k _ hk => setRow_other w g0 k _ (fun e => hk (by simp [Value.ownBlock, e]))⟩, .inl rfl⟩
      · simp only [List.size_toArray, List.length_append, List.length_drop, Array.length_toList, vals_length]
        omega
      · rw [vals_cat, Nat.mul_one]
        exact List.take_left' (vals_length _ _)
      · simp only [List.size_toArray, List.length_append, List.length_drop, Array.length_toList, vals_length]
        omega
      · rw [List.append_assoc, Nat.mul_one]
        exact List.take_left' (vals_length _ _)
    · refine fresh _ cap0 rfl (by omega) ?_
      exact run_firstCells_some (P := Tryz.prog) w.drew i0.size n ⟨g0, 0, none⟩ n cap0 (vals d n) (by rw [vals_length, hz1]; omega) (hO.cells (g := g0) rfl)
/-- A store elsewhere, or behind its end. -/
theorem Out.far {B : Nat} {w : World} {v : Value} {n : Nat} {d : Nat → Int} (h : Out B w v n d) (g j : Nat) (x : Int) (hj : v.ownBlock = some g → n ≤ j) : Out B (w.setCell ⟨g, j, none⟩ (.int .i64 x)) v n d := by
  rcases h.2 with ⟨rfl, rfl⟩ | ⟨g0, cap0, cur, rfl, hbb, hg0, hn, hcm, hcs, htake⟩
  · exact Out.nil _ _ _
  · by_cases e : g0 = g
    · subst e
      refine ⟨h.1, .inr ⟨g0, cap0, _, rfl, hbb, heap_setCell_same w g0 j cur _ _ hg0, hn, hcm, by simpa using hcs, ?_⟩⟩
      have hj := hj rfl
      rw [← htake]
      apply List.ext_getElem?
      intro i
      rw [List.getElem?_take, List.getElem?_take]
      split
      · rw [Array.getElem?_toList, Array.getElem?_toList, Array.getElem?_setIfInBounds_ne (by omega)]
      · rfl
    · exact h.of_block fun k hk => by
        simp only [Value.ownBlock, Option.some.injEq] at hk
        subst hk
        exact Below.heap_setCell _ _ _ _ e
/-- What is kept, as Apart turns it: m answers v of n digits d. -/
structure Ka (B : Nat) (w : World) (k m : Nat) (x y : Value) (v : Nat → Value) (n : Nat → Nat) (d : Nat → Nat → Int) : Prop where
  blk : w.heap[k]? = some (Obj.cells #[x, y] 26 (0, 0))
  ox : OutV B w x m v
  ge : B ≤ k
  ans : ∀ i, i < m → Out B w (v i) (n i) (d i)
  len : ∀ i, i < m → n i ≤ 100000
  apart : ∀ i j, i < m → j < m → i ≠ j → ∀ g, (v i).ownBlock = some g → (v j).ownBlock ≠ some g
theorem Ka.keeps {B : Nat} {w w' : World} {k m : Nat} {x y : Value} {v : Nat → Value} {n : Nat → Nat} {d : Nat → Nat → Int} (h : Ka B w k m x y v n d) (hb : Below w.heap.size w w') : Ka B w' k m x y v n d :=
  ⟨(hb.block k (Array.getElem?_eq_some_iff.1 h.blk).1).trans h.blk, h.ox.of_block fun g hg => hb.block g (h.ox.ge hg).2, h.ge, fun i hi => (h.ans i hi).stays hb, h.len, h.apart⟩
theorem Ka.step {B : Nat} {w w' : World} {k m : Nat} {x y : Value} {v : Nat → Value} {n : Nat → Nat} {d : Nat → Nat → Int} (h : Ka B w k m x y v n d) {i : Nat} (hi : i < m) {e : Nat → Int} (hg : w.grownBy w' (v i).ownBlock) (hO : Out B w' (v i) (n i) e) : Ka B w' k m x y v n (updV d i e) := by
  refine ⟨(hg.block k (Array.getElem?_eq_some_iff.1 h.blk).1 fun q => ?_).trans h.blk, h.ox.of_block fun g hgx => hg.block g (h.ox.ge hgx).2 fun q => ?_, h.ge, fun j hj => ?_, h.len, h.apart⟩
  · obtain ⟨cur, z, hc⟩ := (h.ans i hi).typed q.symm
    rw [h.blk] at hc
    simp at hc
  · obtain ⟨cur, z, hc⟩ := (h.ans i hi).typed q.symm
    obtain ⟨cur', z', hc'⟩ := h.ox.typed hgx
    rw [hc'] at hc
    simp at hc
  · by_cases q : j = i
    · subst q; rw [updV_same]; exact hO
    · rw [updV_other _ _ q]
      exact (h.ans j hj).of_block fun g hgj => hg.block g ((h.ans j hj).ge hgj).2 fun p => h.apart j i hj hi q g hgj p.symm
theorem grown_set (w : World) (g j : Nat) (x : Value) : w.grownBy (w.setCell ⟨g, j, none⟩ x) (some g) :=
  ⟨rfl, rfl, rfl, by simp [World.setCell], fun k hk hne => Below.heap_setCell _ _ _ _ fun e => hne (by change k = g at e; rw [e])⟩
theorem grown_more {w w' : World} {r : Option Nat} {g : Nat} (h : w.grownBy w' r) (hat : r = some g ∨ g = w.heap.size) (j : Nat) (x : Value) : w.grownBy (w'.setCell ⟨g, j, none⟩ x) r :=
  ⟨h.os, h.tape, h.output, by simp [World.setCell]; exact h.size, fun k hk hne => (Below.heap_setCell _ _ _ _ fun e => by
    change k = g at e
    rcases hat with q | q
    · exact hne (by rw [q, e])
    · omega).trans (h.block k hk hne)⟩
theorem World.ownsRow.capLe {w : World} {B : Nat} {e : TypeId} {ao : Option Addr} {n cap : Nat} {xs : List Value} (h : w.ownsRow B e 1 (.slice ao n cap) n xs) : n ≤ cap ∧ cap ≤ 9223372036854775807 := by
  rcases h.2 with ⟨q, _⟩ | ⟨g, cap', cur, q, _, _, hn, hm, _⟩
  · simp only [Value.slice.injEq] at q; omega
  · simp only [Value.slice.injEq] at q; unfold maxLen at hm; omega
theorem updV_self {α : Type} (v : Nat → α) (i : Nat) : updV v i (v i) = v := by
  funext j
  by_cases h : j = i
  · subst h; rw [updV_same]
  · rw [updV_other _ _ h]
theorem Ka.at {B : Nat} {w : World} {k m gx xc : Nat} {y : Value} {v : Nat → Value} {n : Nat → Nat} {d : Nat → Nat → Int} (h : Ka B w k m (.slice (some ⟨gx, 0, none⟩) m xc) y v n d) {p : Nat} (hp : p < m) :
    ∃ vo vc, v p = .slice vo (n p) vc ∧ n p ≤ vc ∧ vc ≤ 9223372036854775807 ∧ w.cell? ⟨gx, p, none⟩ = some (.slice vo (n p) vc) ∧ w.cell? ⟨k, 0, none⟩ = some (.slice (some ⟨gx, 0, none⟩) m xc) ∧ (0 < n p → ∃ g, vo = some ⟨g, 0, none⟩) := by
  obtain ⟨vo, vc, hv, rv⟩ := (h.ans p hp).row
  refine ⟨vo, vc, hv, rv.le, rv.max, ?_, (keep_at h.blk).1, fun hn => ?_⟩
  · rw [World.ownsRow.cellAt h.ox p (by omega), valsV_get v hp, hv]
  · have := h.ans p hp
    rw [hv] at this
    obtain ⟨g, e, _⟩ := this.spot hn
    exact ⟨g, e⟩
theorem Ka.cellAt {B : Nat} {w : World} {k m : Nat} {x y : Value} {v : Nat → Value} {n : Nat → Nat} {d : Nat → Nat → Int} (h : Ka B w k m x y v n d) {p s g vc : Nat} (hp : p < m) (hs : s < n p) (hv : v p = .slice (some ⟨g, 0, none⟩) (n p) vc) :
    w.cell? ⟨g, s, none⟩ = some (.int .i64 (d p s)) ∧ w.frozen? ⟨g, s, none⟩ = false := by
  have := h.ans p hp
  rw [hv] at this
  exact ⟨this.cell hs, this.frozen s⟩
theorem Ka.put {B : Nat} {w : World} {k m : Nat} {x y : Value} {v : Nat → Value} {n : Nat → Nat} {d : Nat → Nat → Int} (h : Ka B w k m x y v n d) {p s g vc : Nat} (hp : p < m) (hs : s < n p) (hv : v p = .slice (some ⟨g, 0, none⟩) (n p) vc) (z : Int) :
    Ka B (w.setCell ⟨g, s, none⟩ (.int .i64 z)) k m x y v n (updV d p (upd (d p) s z)) ∧ B ≤ g := by
  have h0 := h.ans p hp
  have h1 := h0
  rw [hv] at h0
  refine ⟨h.step hp (by rw [hv]; exact grown_set w g s _) (by rw [hv]; exact h0.store hs z), (h1.ge (g := g) (by rw [hv]; rfl)).1⟩
theorem same_self (ao bo : Option Addr) (n ca cb : Nat) (a : Nat → Int) (w : World) (ha : Row w ao n ca a) (hb : Row w bo n cb a) :
    Calls Tryz.prog 11 #[.slice ao n ca, .slice bo n cb] w fun e w' => e = .returned (.bool true) ∧ Below w.heap.size w w' := by
  refine (same_any ao bo n n ca cb a a w ha hb).mono ?_
  rintro e w' ⟨rfl, h⟩
  exact ⟨ret_bool (decide_eq_true ⟨rfl, fun _ _ => rfl⟩), h⟩
end Go.Proofs.YtjlmpgbadgkgmaaGreatDoor

/-
  The statements' own helper digits: a valid list out of any ints, by its contract.
-/
namespace Go.Proofs.YtjlmpgbadgkgmaaGreatDoor
open Go Go.RowKit Go.Proofs.YtjlmpgbadgkgmaaGreatDoor.M
set_option linter.unusedSimpArgs false
set_option linter.unusedVariables false

theorem Out.cut {B : Nat} {w : World} {ao : Option Addr} {n cap m : Nat} {d : Nat → Int} (h : Out B w (.slice ao n cap) n d) (hm : m ≤ n) : Out B w (.slice ao m cap) m d := by
  refine ⟨by rw [vals_length]; omega, ?_⟩
  rcases h.2 with ⟨hn, h0⟩ | ⟨g, cap', cur, hv, hB, hg, hnc, hcm, hs, ht⟩
  · simp only [Value.slice.injEq] at hn
    obtain ⟨rfl, rfl, rfl⟩ := hn
    obtain rfl : m = 0 := by omega
    exact .inl ⟨rfl, rfl⟩
  · simp only [Value.slice.injEq] at hv
    obtain ⟨rfl, _, rfl⟩ := hv
    refine .inr ⟨g, cap, cur, rfl, hB, hg, by omega, hcm, hs, ?_⟩
    apply vals_ext (by simp; omega)
    intro i hi
    have e : (cur.toList.take (n * 1))[i]? = (vals d n)[i]? := by rw [ht]
    rw [List.getElem?_take, if_pos (by omega), vals_get d (by omega)] at e
    rw [List.getElem?_take, if_pos (by omega)]; exact e

def lenOf : Value → Nat | .slice _ t _ => t | _ => 0
end Go.Proofs.YtjlmpgbadgkgmaaGreatDoor

/-
  The document's own answers (plumbref2): Valid, trim, Two, Answer, Cmp, Add, Sub, by contracts over the same values.
-/
namespace Go.Proofs.YtjlmpgbadgkgmaaGreatDoor
open Go Go.RowKit Go.Proofs.YtjlmpgbadgkgmaaGreatDoor.M
set_option linter.unusedSimpArgs false
set_option linter.unusedVariables false

set_option maxHeartbeats 400000 in
theorem rtrim_any (g n cap : Nat) (d : Nat → Int) (w : World) (h : Row w (some ⟨g, 0, none⟩) n cap d) :
    Calls Tryz.prog 110 #[.slice (some ⟨g, 0, none⟩) n cap] w fun e w' => ∃ t : Nat, t ≤ n ∧ Top d t ∧ (∀ i, t ≤ i → i < n → d i = 0) ∧ e = .returned (.slice (some ⟨g, 0, none⟩) t cap) ∧ w' = w := by
  have hl := h.le
  have hm := h.max
  go_enter Tryz.func110, Tryz.ntmps110
  go_wp2
  go_loop [3] (fun i => ∃ k : Nat, k ≤ n ∧ i = .int .i64 k ∧ ∀ i, k ≤ i → i < n → d i = 0) (fun i => (intOf i).toNat)
  case atStart => exact ⟨n, Nat.le_refl _, rfl, fun i a b => by omega⟩
  case round =>
    obtain ⟨k, hk, rfl, hz⟩ := hrel
    have HZ : Hid (∀ i, k ≤ i → i < n → d i = 0) := hz
    clear hz
    by_cases h0 : k = 0
    · subst h0
      go_wp2
      go_ret
      exact ⟨0, by omega, .inl rfl, HZ.out, by simp, rfl⟩
    · obtain ⟨b, off, eb, hb, hc⟩ := h.spot (by omega)
      simp only [Option.some.injEq, Addr.mk.injEq, and_true] at eb
      obtain ⟨rfl, rfl⟩ := eb
      have c := hc (k - 1) (by omega)
      rw [Nat.zero_add] at c
      by_cases h1 : d (k - 1) = 0
      · go_wp2
        go_round
        case rel => exact ⟨k - 1, by omega, by go_num, fun i a b => by by_cases e : i = k - 1; (· rw [e]; exact h1); (· exact HZ.out i (by omega) b)⟩
        case measure => simp [intOf]; omega
      · go_wp2
        go_ret
        exact ⟨k, hk, .inr h1, HZ.out, by simp, rfl⟩
theorem top_of {d : Nat → Int} {t : Nat} (hd : Dig d t) (h : 0 < t → P (t - 1) ≤ val d t) : Top d t := by
  by_cases h0 : t = 0
  · exact .inl h0
  · refine .inr fun e => ?_
    obtain ⟨k, rfl⟩ : ∃ k, t = k + 1 := ⟨t - 1, by omega⟩
    rw [Nat.add_sub_cancel] at e h
    have h1 := h (by omega)
    rw [val_succ, e] at h1
    have h2 := val_lt (hd.le (Nat.le_succ k))
    omega
theorem cat_upd (r : Nat → Int) (k : Nat) (x : Int) : ∀ i, i < k + 1 → cat r k (fun _ => x) i = upd r k x i := fun i hi => by
  by_cases e : i < k
  · simp [cat, e, upd_other r _ (show i ≠ k by omega)]
  · obtain rfl : i = k := by omega
    simp [cat, upd_same]
theorem dig_upd2 {r : Nat → Int} {k : Nat} {x : Int} (h : Dig r k) (hx : 0 ≤ x ∧ x < 1073741824) : Dig (upd r k x) (k + 1) := fun i hi => by
  by_cases e : i = k
  · rw [e, upd_same]; exact hx
  · rw [upd_other r x e]; exact h i (by omega)
set_option maxHeartbeats 1000000 in
theorem radd_any (ao bo : Option Addr) (n m ca cb : Nat) (a b : Nat → Int) (w : World) (ha : Row w ao n ca a) (hb : Row w bo m cb b) (na : Nrm a n) (nb : Nrm b m) (hn : n ≤ 100000) (hm : m ≤ 100000) :
    Calls Tryz.prog 98 #[.slice ao n ca, .slice bo m cb] w fun e w' => ∃ v, e = .returned v ∧ Ans w w' (val a n + val b m) v := by
  have hla := ha.le
  have hma := ha.max
  have hlb := hb.le
  have hmb := hb.max
  have da := na.1
  have db := nb.1
  obtain ⟨M, hM1, hM2, hM3⟩ : ∃ M, n ≤ M ∧ m ≤ M ∧ (M ≤ n ∨ M ≤ m) := ⟨max n m, by omega, by omega, by omega⟩
  go_enter Tryz.func98, Tryz.ntmps98
  go_wp2
  go_loopw [5, 6, 7] (fun l c i wr => ∃ (k : Nat) (q : Int) (r : Nat → Int), (k ≤ M ∨ (k = M + 1 ∧ q = 0)) ∧ i = .int .i64 k ∧ c = .int .i64 q ∧ 0 ≤ q ∧ q ≤ 1 ∧ Out w.heap.size wr l k r ∧ Dig r k ∧ Hid (val r k + q * P k = val (ext a n) k + val (ext b m) k) ∧ Hid (k = M + 1 → P M ≤ val a n + val b m) ∧ Below w.heap.size w wr) (fun _ _ i _ => M + 1 - (intOf i).toNat)
  case atStart => exact ⟨0, 0, fun _ => 0, .inl (Nat.zero_le _), rfl, rfl, by omega, by omega, Out.nil _ _ _, fun i hi => by omega, by show _ = _; rfl, fun h => by omega, bel_refl _⟩
  case round =>
    obtain ⟨k, q, r, hk, rfl, rfl, hq0, hq1, hO, hD, HV, HT, hbw⟩ := hrel
    have hkM : k ≤ M + 1 := by omega
    by_cases hkn : k < n
    · by_cases hkm : k < m
      · obtain ⟨ba, fa, rfl, hba, hca⟩ := ha.spot (by omega)
        have c1 := (hbw.cell (p := ⟨ba, fa + k, none⟩) hba).trans (hca k hkn)
        have dk := da k hkn
        obtain ⟨bb, fb, rfl, hbb, hcb⟩ := hb.spot (by omega)
        have c2 := (hbw.cell (p := ⟨bb, fb + k, none⟩) hbb).trans (hcb k hkm)
        have dbk := db k hkm
        have HX : Hid (q + a k + b k = q + (ext a n k + ext b m k)) := by show _ = _; rw [ext_lt a hkn, ext_lt b hkm]; omega
        go_wp2_with (at_builtin; refine wpList_app rfl _ _ rfl w.heap.size _ k r rfl (hO.stays (bel_alloc _ _)) _ 1 1 (fun _ => (q + a k + b k) % 1073741824) rfl (row1 _ _ rfl) (by omega) (by have := hbw.size; simp; omega) ?_; intro v' w1 hO1 hg1)
        have hb1 : Below w.heap.size w w1 := (hbw.alloc hbw.size _).grown hg1 (by have := hbw.size; simp; omega) (own_ge hO)
        have hs := sum_step (x := ext a n k + ext b m k) HV.out
        rw [← HX.out] at hs
        go_roundw
        case rel => exact ⟨k + 1, (q + a k + b k) / 1073741824, upd r k ((q + a k + b k) % 1073741824), by omega, by go_num, rfl, by omega, by omega, hO1.congr (cat_upd r k _), dig_upd2 hD (mod_dig _), by show _ = _; rw [hs, val_succ, val_succ]; grind, fun h => by omega, hb1⟩
        case measure => simp [intOf]; omega
      · obtain ⟨ba, fa, rfl, hba, hca⟩ := ha.spot (by omega)
        have c1 := (hbw.cell (p := ⟨ba, fa + k, none⟩) hba).trans (hca k hkn)
        have dk := da k hkn
        have HX : Hid (q + a k = q + (ext a n k + ext b m k)) := by show _ = _; rw [ext_lt a hkn, ext_ge b (by omega)]; omega
        go_wp2_with (at_builtin; refine wpList_app rfl _ _ rfl w.heap.size _ k r rfl (hO.stays (bel_alloc _ _)) _ 1 1 (fun _ => (q + a k) % 1073741824) rfl (row1 _ _ rfl) (by omega) (by have := hbw.size; simp; omega) ?_; intro v' w1 hO1 hg1)
        have hb1 : Below w.heap.size w w1 := (hbw.alloc hbw.size _).grown hg1 (by have := hbw.size; simp; omega) (own_ge hO)
        have hs := sum_step (x := ext a n k + ext b m k) HV.out
        rw [← HX.out] at hs
        go_roundw
        case rel => exact ⟨k + 1, (q + a k) / 1073741824, upd r k ((q + a k) % 1073741824), by omega, by go_num, rfl, by omega, by omega, hO1.congr (cat_upd r k _), dig_upd2 hD (mod_dig _), by show _ = _; rw [hs, val_succ, val_succ]; grind, fun h => by omega, hb1⟩
        case measure => simp [intOf]; omega
    · by_cases hkm : k < m
      · obtain ⟨bb, fb, rfl, hbb, hcb⟩ := hb.spot (by omega)
        have c2 := (hbw.cell (p := ⟨bb, fb + k, none⟩) hbb).trans (hcb k hkm)
        have dbk := db k hkm
        have HX : Hid (q + b k = q + (ext a n k + ext b m k)) := by show _ = _; rw [ext_ge a (by omega), ext_lt b hkm]; omega
        go_wp2_with (at_builtin; refine wpList_app rfl _ _ rfl w.heap.size _ k r rfl (hO.stays (bel_alloc _ _)) _ 1 1 (fun _ => (q + b k) % 1073741824) rfl (row1 _ _ rfl) (by omega) (by have := hbw.size; simp; omega) ?_; intro v' w1 hO1 hg1)
        have hb1 : Below w.heap.size w w1 := (hbw.alloc hbw.size _).grown hg1 (by have := hbw.size; simp; omega) (own_ge hO)
        have hs := sum_step (x := ext a n k + ext b m k) HV.out
        rw [← HX.out] at hs
        go_roundw
        case rel => exact ⟨k + 1, (q + b k) / 1073741824, upd r k ((q + b k) % 1073741824), by omega, by go_num, rfl, by omega, by omega, hO1.congr (cat_upd r k _), dig_upd2 hD (mod_dig _), by show _ = _; rw [hs, val_succ, val_succ]; grind, fun h => by omega, hb1⟩
        case measure => simp [intOf]; omega
      · by_cases hq : 0 < q
        · have hkE : k = M := by omega
          have HTT : Hid (P M ≤ val a n + val b m) := by
            show _ ≤ _
            have h := HV.out
            rw [val_ext a (by omega), val_ext b (by omega), show q = 1 by omega, hkE] at h
            have := val_nonneg hD
            rw [hkE] at this
            omega
          have HX : Hid (q = q + (ext a n k + ext b m k)) := by show _ = _; rw [ext_ge a (by omega), ext_ge b (by omega)]; omega
          go_wp2_with (at_builtin; refine wpList_app rfl _ _ rfl w.heap.size _ k r rfl (hO.stays (bel_alloc _ _)) _ 1 1 (fun _ => (q) % 1073741824) rfl (row1 _ _ rfl) (by omega) (by have := hbw.size; simp; omega) ?_; intro v' w1 hO1 hg1)
          have hb1 : Below w.heap.size w w1 := (hbw.alloc hbw.size _).grown hg1 (by have := hbw.size; simp; omega) (own_ge hO)
          have hs := sum_step (x := ext a n k + ext b m k) HV.out
          rw [← HX.out] at hs
          go_roundw
          case rel => exact ⟨k + 1, (q) / 1073741824, upd r k ((q) % 1073741824), by omega, by go_num, rfl, by omega, by omega, hO1.congr (cat_upd r k _), dig_upd2 hD (mod_dig _), by show _ = _; rw [hs, val_succ, val_succ]; grind, fun h => HTT.out, hb1⟩
          case measure => simp [intOf]; omega
        · obtain rfl : q = 0 := by omega
          have hkMM : M ≤ k := by omega
          have hcd : decide ((0 : Int) < 0) = false := by decide
          go_wp2
          go_ret
          have hv : val r k = val a n + val b m := by
            have h := HV.out
            rw [val_ext a (by omega), val_ext b (by omega)] at h
            omega
          refine ⟨_, rfl, k, r, hO, ⟨hD, top_of hD fun hk0 => ?_⟩, hv, hbw⟩
          rw [hv]
          have A0 := val_nonneg da
          have B0 := val_nonneg db
          rcases hk with h | ⟨h, _⟩
          · obtain rfl : k = M := by omega
            rcases hM3 with q | q
            · obtain rfl : k = n := by omega
              have := val_top da hk0 na.2
              omega
            · obtain rfl : k = m := by omega
              have := val_top db hk0 nb.2
              omega
          · rw [h, Nat.add_sub_cancel]; exact HT.out h
end Go.Proofs.YtjlmpgbadgkgmaaGreatDoor
