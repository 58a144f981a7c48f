/-
  Parts of the proof, one behind another.
-/
import Derived.Test.YtmjdlcbiaglkeaaDoorPart6
import Derived.Test.YtmjdlcbiaglkeaaDoorPart5
import Derived.Test.YtmjdlcbiaglkeaaDoorPart3
import Derived.Deep.RegionHeld3
import Derived.Test.YtmjdlcbiaglkeaaDoorPart2
import Derived.Deep.LoopGhost
/-
  Package dyadic: settle by the number that it is about; Make.
-/
namespace Go.Proofs.YtmjdlcbiaglkeaaDoor
open Go Go.RowKit Go.Proofs.YtmjdlcbiaglkeaaDoor.M
set_option linter.unusedSimpArgs false
set_option linter.unusedVariables false

theorem low_ex : ∀ (n : Nat) (M : Int), M.natAbs ≤ n → 0 < M → ∃ l, IsLow M l := by
  intro n
  induction n with
  | zero => intro M h h0; omega
  | succ n ih =>
    intro M h h0
    by_cases hp : M % 2 = 1
    · exact ⟨0, M / 2, by rw [Int.pow_zero]; omega⟩
    · obtain ⟨l, m, hm⟩ := ih (M / 2) (by omega) (by omega)
      refine ⟨l + 1, m, ?_⟩
      rw [Int.pow_succ, ← Int.mul_assoc, ← hm]; omega
theorem isLow_ex {M : Int} (h : 0 < M) : ∃ l, IsLow M l := low_ex M.natAbs M (Nat.le_refl _) h
/-- The panic of a number too long. -/
def gaveUp : Ending := .panicked [{ v := .iface 27 (.int .i64 2), recovered := false }]
theorem settle_ok {ng : Bool} {ao : Option Addr} {n cap : Nat} {d : Nat → Int} {e : Int} {w : World} (h : Row w ao n cap d) (hd : Dig d n) (hn : n ≤ 100000) (hT : Tab w) (he : -4194304 ≤ e) {V : Int} (hV : V = sg ng (val d n) * pw e) (hok : Dok V) :
    Calls Tryd.prog 23 #[.agg #[.bool ng, .slice ao n cap, .int .i64 e]] w fun r w' => ∃ v, r = .returned v ∧ DAns w w' V v := by
  by_cases h0 : val d n = 0
  · refine (settle_zero ng ao n cap d e w h hd h0).mono ?_
    rintro r w' ⟨rfl, hb⟩
    exact ⟨_, rfl, by rw [hV, h0, sg_zero, Int.zero_mul]; exact DAns.zero hb⟩
  · have hp : 0 < val d n := by have := val_nonneg hd; omega
    obtain ⟨l, hl⟩ := isLow_ex hp
    have hy := Dy.of ng hl hp he
    rw [← hV] at hy
    obtain ⟨o1, o2, o3⟩ := hy.ok.1 hok
    refine (settle_yes ng ao n cap d e w h hd hn hT hp l hl o2 o3 o1).mono ?_
    rintro r w' ⟨s, rfl, hA⟩
    exact ⟨_, rfl, _, _, _, _, rfl, hy, hA⟩
theorem settle_long {ng : Bool} {ao : Option Addr} {n cap : Nat} {d : Nat → Int} {e : Int} {w : World} (h : Row w ao n cap d) (hd : Dig d n) (hn : n ≤ 100000) (hT : Tab w) (he : -4194304 ≤ e) {V : Int} (hV : V = sg ng (val d n) * pw e) (hok : ¬ Dok V) :
    Calls Tryd.prog 23 #[.agg #[.bool ng, .slice ao n cap, .int .i64 e]] w fun r w' => r = gaveUp ∧ Below w.heap.size w w' := by
  by_cases h0 : val d n = 0
  · exact absurd (by rw [hV, h0, sg_zero, Int.zero_mul]; exact dok_zero) hok
  · have hp : 0 < val d n := by have := val_nonneg hd; omega
    obtain ⟨l, hl⟩ := isLow_ex hp
    have hy := Dy.of ng hl hp he
    rw [← hV] at hy
    have hno := fun x => hok (hy.ok.2 x)
    refine settle_no ng ao n cap d e w h hd hn hT hp l hl ?_
    by_cases c1 : e + l < -1048576
    · exact .inl c1
    · by_cases c2 : 1048576 < e + l
      · exact .inr (.inl c2)
      · exact .inr (.inr (by
          by_cases c3 : P 2000 ≤ val d n / 2 ^ l
          · exact c3
          · exact absurd ⟨by omega, by omega, by omega⟩ hno))
/-- Far below: whatever the list (of at most 100,000 digits), it gives up. -/
theorem settle_deep {ng : Bool} {ao : Option Addr} {n cap : Nat} {d : Nat → Int} {e : Int} {w : World} (h : Row w ao n cap d) (hd : Dig d n) (hn : n ≤ 100000) (hT : Tab w) (he : e < -4194304) (h0 : 0 < val d n) :
    Calls Tryd.prog 23 #[.agg #[.bool ng, .slice ao n cap, .int .i64 e]] w fun r w' => r = gaveUp ∧ Below w.heap.size w w' := by
  obtain ⟨l, hl⟩ := isLow_ex h0
  have := isLow_lt hd h0 hl
  exact settle_no ng ao n cap d e w h hd hn hT h0 l hl (.inl (by omega))
theorem DFit.shape {w w' : World} {V er : Int} {v : Value} (h : DFit w w' V v er) : ∃ ng so sn sc e, v = .agg #[.bool ng, .slice so sn sc, .int .i64 e] := by
  rcases h.2 with ⟨_, _, ng, s, m, e, h1, _, hA⟩ | ⟨_, _, h1⟩
  · obtain ⟨so, sn, sc, rfl⟩ := hA.num.shape
    exact ⟨_, _, _, _, _, h1⟩
  · exact ⟨_, _, _, _, _, h1⟩
theorem dans_res3 {w W w3 : World} {V : Int} {v : Value} (hv : DAns W w3 V v) (hb : Below w.heap.size w W) {g : Nat} (h0 : w.heap.size ≤ g) (h1 : g < W.heap.size) (a b c : Value) :
    DAns w (((w3.setCell ⟨g, 0, none⟩ a).setCell ⟨g, 1, none⟩ b).setCell ⟨g, 2, none⟩ c) V v := by
  obtain ⟨ng, s, m, e, h2, h3, hA⟩ := hv
  exact ⟨ng, s, m, e, h2, h3, ans_res hA hb h0 h1 a b c⟩
theorem dfit_res {w W w3 : World} {V er : Int} {v : Value} (hv : DFit W w3 V v er) (hb : Below w.heap.size w W) {g : Nat} (h0 : w.heap.size ≤ g) (h1 : g < W.heap.size) (a b c : Value) :
    DFit w (((w3.setCell ⟨g, 0, none⟩ a).setCell ⟨g, 1, none⟩ b).setCell ⟨g, 2, none⟩ c) V v er := by
  refine ⟨(((hb.trans (hv.1.mono hb.size)).setCell (p := ⟨g, 0, none⟩) h0 a).setCell (p := ⟨g, 1, none⟩) h0 b).setCell (p := ⟨g, 2, none⟩) h0 c, ?_⟩
  rcases hv.2 with ⟨o1, o2, o3⟩ | o
  · exact .inl ⟨o1, o2, dans_res3 o3 hb h0 h1 a b c⟩
  · exact .inr o
theorem heap_a1 (w : World) (a : Obj) : (w.alloc a).heap[w.heap.size]? = some a := by
  show (w.heap.push a)[w.heap.size]? = some a
  simp
theorem size1 (w : World) (a : Obj) : (w.alloc a).heap.size = w.heap.size + 1 := by
  show (w.heap.push a).size = _
  simp
theorem cell_keeps {w w' : World} {p : Addr} {v : Value} (h : w.cell? p = some v) (hb : Below w.heap.size w w') : w'.cell? p = some v :=
  (hb.cell (World.block_lt_of_cell? w _ h)).trans h
theorem size_alloc (w : World) (a : Obj) : (w.alloc a).heap.size = w.heap.size + 1 := size1 w a
theorem heap_past {w : World} {k : Nat} {x : Obj} (o : Obj) (h : w.heap[k]? = some x) : (w.alloc o).heap[k]? = some x :=
  (Below.heap_alloc w o k (Array.getElem?_eq_some_iff.1 h).1).trans h
theorem heap_new {w : World} {k : Nat} (o : Obj) (h : k = w.heap.size) : (w.alloc o).heap[k]? = some o := by rw [h]; exact heap_a1 w o
theorem h4_0 (w : World) (a b c d : Obj) : ((((w.alloc a).alloc b).alloc c).alloc d).heap[w.heap.size]? = some a := heap_past _ (heap_past _ (heap_past _ (heap_a1 w a)))
theorem h4_1 (w : World) (a b c d : Obj) : ((((w.alloc a).alloc b).alloc c).alloc d).heap[w.heap.size + 1]? = some b := heap_past _ (heap_past _ (heap_new _ (by rw [size_alloc])))
theorem h4_2 (w : World) (a b c d : Obj) : ((((w.alloc a).alloc b).alloc c).alloc d).heap[w.heap.size + 2]? = some c := heap_past _ (heap_new _ (by rw [size_alloc, size_alloc]))
theorem h4_3 (w : World) (a b c d : Obj) : ((((w.alloc a).alloc b).alloc c).alloc d).heap[w.heap.size + 3]? = some d := heap_new _ (by rw [size_alloc, size_alloc, size_alloc])
theorem h3_0 (w : World) (a b c : Obj) : (((w.alloc a).alloc b).alloc c).heap[w.heap.size]? = some a := heap_past _ (heap_past _ (heap_a1 w a))
theorem h3_1 (w : World) (a b c : Obj) : (((w.alloc a).alloc b).alloc c).heap[w.heap.size + 1]? = some b := heap_past _ (heap_new _ (by rw [size_alloc]))
theorem h3_2 (w : World) (a b c : Obj) : (((w.alloc a).alloc b).alloc c).heap[w.heap.size + 2]? = some c := heap_new _ (by rw [size_alloc, size_alloc])
theorem bel_a3 (w : World) (a b c : Obj) : Below w.heap.size w (((w.alloc a).alloc b).alloc c) := (bel_alloc2 w a b).alloc (by rw [size2]; omega) _
theorem size3 (w : World) (a b c : Obj) : (((w.alloc a).alloc b).alloc c).heap.size = w.heap.size + 3 := by rw [size_alloc, size2]
theorem bel_a4 (w : World) (a b c d : Obj) : Below w.heap.size w ((((w.alloc a).alloc b).alloc c).alloc d) := (bel_a3 w a b c).alloc (by rw [size3]; omega) _
theorem size4 (w : World) (a b c d : Obj) : ((((w.alloc a).alloc b).alloc c).alloc d).heap.size = w.heap.size + 4 := by rw [size_alloc, size3]
end Go.Proofs.YtmjdlcbiaglkeaaDoor

/-
  Package dyadic: reach, by its contract.
-/
namespace Go.Proofs.YtmjdlcbiaglkeaaDoor
open Go Go.RowKit Go.Proofs.YtmjdlcbiaglkeaaDoor.M
set_option linter.unusedSimpArgs false
set_option linter.unusedVariables false

/-- A number's own block, behind a call. -/
theorem keepB {W w' : World} {g : Nat} {a b c : Value} (h : W.cell? ⟨g, 0, none⟩ = some a ∧ W.cell? ⟨g, 1, none⟩ = some b ∧ W.cell? ⟨g, 2, none⟩ = some c) (hb : Below W.heap.size W w') :
    w'.cell? ⟨g, 0, none⟩ = some a ∧ w'.cell? ⟨g, 1, none⟩ = some b ∧ w'.cell? ⟨g, 2, none⟩ = some c := ⟨cell_keeps h.1 hb, cell_keeps h.2.1 hb, cell_keeps h.2.2 hb⟩
theorem keepW {W w' : World} {g o : Nat} {a b c : Value} (h : W.cell? ⟨g, 0, none⟩ = some a ∧ W.cell? ⟨g, 1, none⟩ = some b ∧ W.cell? ⟨g, 2, none⟩ = some c) (hw : Wr o W w') (hg : g ≠ o) :
    w'.cell? ⟨g, 0, none⟩ = some a ∧ w'.cell? ⟨g, 1, none⟩ = some b ∧ w'.cell? ⟨g, 2, none⟩ = some c :=
  ⟨(hw.cell (World.block_lt_of_cell? W _ h.1) hg).trans h.1, (hw.cell (World.block_lt_of_cell? W _ h.2.1) hg).trans h.2.1, (hw.cell (World.block_lt_of_cell? W _ h.2.2) hg).trans h.2.2⟩
theorem keepS {W : World} {g o : Nat} {a b c : Value} (h : W.cell? ⟨g, 0, none⟩ = some a ∧ W.cell? ⟨g, 1, none⟩ = some b ∧ W.cell? ⟨g, 2, none⟩ = some c) (hg : g ≠ o) (x y z : Value) :
    (((W.setCell ⟨o, 0, none⟩ x).setCell ⟨o, 1, none⟩ y).setCell ⟨o, 2, none⟩ z).cell? ⟨g, 0, none⟩ = some a ∧ (((W.setCell ⟨o, 0, none⟩ x).setCell ⟨o, 1, none⟩ y).setCell ⟨o, 2, none⟩ z).cell? ⟨g, 1, none⟩ = some b ∧ (((W.setCell ⟨o, 0, none⟩ x).setCell ⟨o, 1, none⟩ y).setCell ⟨o, 2, none⟩ z).cell? ⟨g, 2, none⟩ = some c :=
  keepW h (((Wr.refl o W).setCell 0 x |>.setCell 1 y).setCell 2 z) hg
/-- Numbers that can be summed: lists without zeros on top, not too long, exponents not too far. -/
def Sane (r : NumR) : Prop := Nrm r.d r.n ∧ r.n ≤ 5000 ∧ -1100000 ≤ r.e ∧ r.e ≤ 1100000
/-- The exponents between which the bits of the first k numbers lie. -/
structure Rch (r : Nat → NumR) (k : Nat) (low high : Int) : Prop where
  none : (∀ i, i < k → (r i).n = 0) → low = 9223372036854775807 ∧ high = -9223372036854775808
  some : (∃ i, i < k ∧ 0 < (r i).n) → -1100000 ≤ low ∧ low ≤ 1100000 ∧ -1100000 ≤ high ∧ high ≤ 1250000
  all : ∀ i, i < k → 0 < (r i).n → low ≤ (r i).e ∧ (r i).e + blen (val (r i).d (r i).n) ≤ high
theorem Sane.len {x : NumR} (h : Sane x) : blen (val x.d x.n) ≤ 150000 := by
  have := blen_le (V := val x.d x.n) (k := 30 * x.n) (by rw [← P_two]; exact val_lt h.1.1)
  have := h.2.1
  omega
theorem Rch.zero {r : Nat → NumR} {k : Nat} {low high : Int} (h : Rch r k low high) (h0 : (r k).n = 0) : Rch r (k + 1) low high :=
  ⟨fun hx => h.none fun i hi => hx i (by omega), fun ⟨i, hi, hp⟩ => h.some ⟨i, by
    by_cases e : i = k
    · subst e; omega
    · omega, hp⟩, fun i hi hp => by
    by_cases e : i = k
    · subst e; omega
    · exact h.all i (by omega) hp⟩
theorem Rch.step {r : Nat → NumR} {k : Nat} {low high : Int} (h : Rch r k low high) (h0 : 0 < (r k).n) (hs : Sane (r k)) : Rch r (k + 1) (min low (r k).e) (max high ((r k).e + blen (val (r k).d (r k).n))) := by
  obtain ⟨s1, s2, s3, s4⟩ := id hs
  have s5 := hs.len
  refine ⟨fun hx => by have := hx k (by omega); omega, fun _ => ?_, fun i hi hp => ?_⟩
  · by_cases hx : ∀ i, i < k → (r i).n = 0
    · obtain ⟨a, b⟩ := h.none hx
      subst a b
      omega
    · have : ∃ i, i < k ∧ 0 < (r i).n := by
        simp only [Classical.not_forall] at hx
        obtain ⟨i, hi, hp⟩ := hx
        exact ⟨i, hi, by omega⟩
      have := h.some this
      omega
  · by_cases e : i = k
    · subst e; omega
    · have := h.all i (by omega) hp; omega
end Go.Proofs.YtmjdlcbiaglkeaaDoor

/-
  Package digits: Carry, by its contract: columns become digits, in their place.
-/
namespace Go.Proofs.YtmjdlcbiaglkeaaDoor
open Go Go.RowKit Go.Proofs.YtmjdlcbiaglkeaaDoor.M
set_option linter.unusedSimpArgs false
set_option linter.unusedVariables false

theorem carry_sign {S R o Pn : Int} (hP : 0 < Pn) (h0 : 0 ≤ R) (h1 : R < Pn) (e : R + o * Pn = S) (hS : -Pn < S ∧ S < Pn) : (0 ≤ S ∧ o = 0 ∧ R = S) ∨ (S < 0 ∧ o = -1 ∧ R = S + Pn) := by
  by_cases ho : 0 ≤ o
  · by_cases ho1 : o = 0
    · subst ho1; left; omega
    · have : 1 * Pn ≤ o * Pn := Int.mul_le_mul_of_nonneg_right (by omega) (by omega)
      omega
  · by_cases ho1 : o = -1
    · subst ho1; right; omega
    · have : o * Pn ≤ (-2) * Pn := Int.mul_le_mul_of_nonneg_right (by omega) (by omega)
      omega
theorem val_neg (r : Nat → Int) (n : Nat) : val (fun i => -r i) n = -val r n := by
  induction n with
  | zero => rfl
  | succ n ih => rw [val_succ, val_succ, ih, Int.neg_mul]; omega
end Go.Proofs.YtmjdlcbiaglkeaaDoor

/-
  Package dyadic: total, by its contract: the sum of all, or it gives up.
-/
namespace Go.Proofs.YtmjdlcbiaglkeaaDoor
open Go Go.RowKit Go.Proofs.YtmjdlcbiaglkeaaDoor.M
set_option linter.unusedSimpArgs false
set_option linter.unusedVariables false

/-- The sum of the first k, in the scale. -/
def sumV (r : Nat → NumR) : Nat → Int | 0 => 0 | k + 1 => sumV r k + sg (r k).ng (val (r k).d (r k).n) * pw (r k).e
/-- A number that is reckoned out, or it gives up. -/
def DOut (w : World) (V : Int) (x : Ending) (w' : World) : Prop := (Dok V ∧ ∃ v, x = .returned v ∧ DAns w w' V v) ∨ (¬ Dok V ∧ x = gaveUp ∧ Below w.heap.size w w')
theorem settle_any {ng : Bool} {ao : Option Addr} {n cap : Nat} {d : Nat → Int} {e : Int} {w : World} (h : Row w ao n cap d) (hd : Dig d n) (hn : n ≤ 100000) (hT : Tab w) (he : -4194304 ≤ e) {V : Int} (hV : V = sg ng (val d n) * pw e) :
    Calls Tryd.prog 23 #[.agg #[.bool ng, .slice ao n cap, .int .i64 e]] w (DOut w V) := by
  by_cases hok : Dok V
  · refine (settle_ok h hd hn hT he hV hok).mono ?_
    rintro x w' ⟨v, rfl, hD⟩
    exact .inl ⟨hok, v, rfl, hD⟩
  · refine (settle_long h hd hn hT he hV hok).mono ?_
    rintro x w' ⟨rfl, hb⟩
    exact .inr ⟨hok, rfl, hb⟩
theorem sumV_zero {r : Nat → NumR} : ∀ {n : Nat}, (∀ i, i < n → (r i).n = 0) → sumV r n = 0
  | 0, _ => rfl
  | n + 1, h => by
    show sumV r n + _ = 0
    rw [sumV_zero fun i hi => h i (by omega), h n (by omega)]
    show 0 + sg _ 0 * _ = 0
    rw [sg_zero, Int.zero_mul, Int.add_zero]
/-- Each number's bits, brought to the lowest exponent. -/
theorem sum_bound {r : Nat → NumR} {k : Nat} {low high : Int} (hs : Sane (r k)) (ha : low ≤ (r k).e ∧ (r k).e + blen (val (r k).d (r k).n) ≤ high) :
    val (r k).d (r k).n * 2 ^ ((r k).e - low).toNat < 2 ^ (high - low).toNat ∧ 0 ≤ val (r k).d (r k).n * 2 ^ ((r k).e - low).toNat := by
  have hv := val_nonneg hs.1.1
  obtain ⟨a, b⟩ := ha
  have h1 := blen_lt (val (r k).d (r k).n)
  have h2 : val (r k).d (r k).n * 2 ^ ((r k).e - low).toNat < 2 ^ blen (val (r k).d (r k).n) * 2 ^ ((r k).e - low).toNat := Int.mul_lt_mul_of_pos_right h1 (two_pos _)
  rw [← Int.pow_add] at h2
  have h3 : (2 : Int) ^ (blen (val (r k).d (r k).n) + ((r k).e - low).toNat) ≤ 2 ^ (high - low).toNat := two_le (by omega)
  exact ⟨by omega, Int.mul_nonneg hv (Int.le_of_lt (two_pos _))⟩
/-- The columns when the first k numbers were put onto them. -/
structure TotP (r : Nat → NumR) (low high : Int) (N k : Nat) (c : Nat → Int) : Prop where
  sum : val c N * pw low = sumV r k
  bnd : ∀ i, i < N → -((k : Int) * 1073741823) ≤ c i ∧ c i ≤ k * 1073741823
  lo : -((k : Int) * 2 ^ (high - low).toNat) ≤ val c N
  hi : val c N ≤ k * 2 ^ (high - low).toNat
theorem TotP.start (r : Nat → NumR) (low high : Int) (N : Nat) : TotP r low high N 0 (fun _ => 0) := by
  have e : val (fun _ => 0) N = 0 := val_zeros (Nat.zero_le _) (fun _ _ _ => rfl)
  exact ⟨by rw [e, Int.zero_mul]; rfl, fun i _ => ⟨by omega, by omega⟩, by rw [e]; simp, by rw [e]; simp⟩
theorem TotP.skip {r : Nat → NumR} {low high : Int} {N k : Nat} {c : Nat → Int} (h : TotP r low high N k c) (h0 : (r k).n = 0) : TotP r low high N (k + 1) c := by
  have e : sumV r (k + 1) = sumV r k := by
    show sumV r k + _ = _
    rw [h0]
    show sumV r k + sg _ 0 * _ = _
    rw [sg_zero, Int.zero_mul, Int.add_zero]
  have hp := two_pos (high - low).toNat
  have e2 : ((k + 1 : Nat) : Int) * 2 ^ (high - low).toNat = k * 2 ^ (high - low).toNat + 2 ^ (high - low).toNat := by rw [Int.natCast_add, Int.add_mul]; simp
  refine ⟨by rw [e]; exact h.sum, fun i hi => ?_, ?_, ?_⟩
  · have := h.bnd i hi; omega
  · have := h.lo; omega
  · have := h.hi; omega
theorem sgn_sg (ng : Bool) {n : Nat} (h : 0 < n) (x : Int) : sgn ng n * x = sg ng x ∧ (sgn ng n = 1 ∨ sgn ng n = -1) := by
  have : n ≠ 0 := by omega
  cases ng <;> simp [sgn, sg, this]
theorem TotP.put {r : Nat → NumR} {low high : Int} {N k q p : Nat} {c c' : Nat → Int} (h : TotP r low high N k c) (hs : Sane (r k)) (h0 : 0 < (r k).n) (ha : low ≤ (r k).e ∧ (r k).e + blen (val (r k).d (r k).n) ≤ high) (hl : -4194304 ≤ low) (hqp : (r k).e - low = 30 * q + p) (hp : p < 30)
    (hP : Piled N c (sgn (r k).ng (r k).n) (P q * (2 ^ p * val (r k).d (r k).n)) c') : TotP r low high N (k + 1) c' := by
  obtain ⟨b1, b0⟩ := sum_bound hs ha
  obtain ⟨a1, a2⟩ := ha
  have e1 : (2 : Int) ^ ((r k).e - low).toNat = P q * 2 ^ p := by
    rw [show ((r k).e - low).toNat = 30 * q + p by omega, Int.pow_add, P_two]
  have e2 : P q * (2 ^ p * val (r k).d (r k).n) = val (r k).d (r k).n * 2 ^ ((r k).e - low).toNat := by rw [e1]; grind
  rw [e2] at hP
  generalize hX : val (r k).d (r k).n * 2 ^ ((r k).e - low).toNat = X at *
  obtain ⟨s1, s2⟩ := sgn_sg (r k).ng h0 X
  have hsum := hP.sum
  rw [s1] at hsum
  have hpp := two_pos (high - low).toNat
  have e3 : ((k + 1 : Nat) : Int) * 2 ^ (high - low).toNat = k * 2 ^ (high - low).toNat + 2 ^ (high - low).toNat := by rw [Int.natCast_add, Int.add_mul]; simp
  have hsx : -X ≤ sg (r k).ng X ∧ sg (r k).ng X ≤ X := by cases (r k).ng <;> simp [sg] <;> omega
  refine ⟨?_, fun i hi => ?_, ?_, ?_⟩
  · rw [hsum, Int.add_mul, h.sum]
    show _ = sumV r k + sg (r k).ng (val (r k).d (r k).n) * pw (r k).e
    rw [pw_sub hl a1, ← hX, sg_sgn, sg_sgn]; grind
  · have h1 := h.bnd i hi
    have h2 := pile_near s2 (hP.near i) (C := k * 1073741823) h1
    omega
  · have := h.lo; omega
  · have := h.hi; omega
theorem len_blen {d : Nat → Int} {n : Nat} (h : Nrm d n) (h0 : 0 < n) : 30 * (n - 1) + 1 ≤ blen (val d n) := by
  obtain ⟨m, rfl⟩ : ∃ m, n = m + 1 := ⟨n - 1, by omega⟩
  rw [blen_val h]
  have hd := h.1 m (by omega)
  have ht : d m ≠ 0 := by
    rcases h.2 with h1 | h1
    · omega
    · rwa [Nat.add_sub_cancel] at h1
  have := (blen_pos (show 0 < d m by omega)).1
  omega
end Go.Proofs.YtmjdlcbiaglkeaaDoor

/-
  Package dyadic: Add, Sub, by contracts.
-/
namespace Go.Proofs.YtmjdlcbiaglkeaaDoor
open Go Go.RowKit Go.Proofs.YtmjdlcbiaglkeaaDoor.M
set_option linter.unusedSimpArgs false
set_option linter.unusedVariables false

/-- What a number is worth, in the scale. -/
def NumR.V (r : NumR) : Int := sg r.ng (val r.d r.n) * pw r.e
def pair2 (x y : NumR) : Nat → NumR := fun i => if i = 0 then x else y
theorem nums2 {w : World} {g : Nat} {x y : NumR} {t : TypeId} (h : w.heap[g]? = some (.cells #[.bool x.ng, .slice x.ao x.n x.cap, .int .i64 x.e, .bool y.ng, .slice y.ao y.n y.cap, .int .i64 y.e] t (0, 0))) (hx : Row w x.ao x.n x.cap x.d) (hy : Row w y.ao y.n y.cap y.d) :
    Nums w (some ⟨g, 0, none⟩) 2 2 (pair2 x y) :=
  ⟨Nat.le_refl _, by decide, fun _ => ⟨g, 0, rfl, (Array.getElem?_eq_some_iff.1 h).1, fun i hi => by
    match i, hi with
    | 0, _ => exact ⟨blkC h 0 rfl, blkC h 1 rfl, blkC h 2 rfl, hx⟩
    | 1, _ => exact ⟨blkC h 3 rfl, blkC h 4 rfl, blkC h 5 rfl, hy⟩⟩⟩
theorem allOk2 (x y : NumR) : allOk (pair2 x y) 2 = (okR x && okR y) := by
  unfold allOk
  by_cases hx : okR x = true
  · by_cases hy : okR y = true
    · rw [hx, hy]
      exact decide_eq_true fun i hi => by
        match i, hi with
        | 0, _ => exact hx
        | 1, _ => exact hy
    · have : okR y = false := by simpa using hy
      rw [hx, this]
      exact decide_eq_false fun h => hy (h 1 (by omega))
  · have : okR x = false := by simpa using hx
    rw [this, Bool.false_and]
    exact decide_eq_false fun h => hx (h 0 (by omega))
theorem sumV2 (x y : NumR) : sumV (pair2 x y) 2 = x.V + y.V := by
  show 0 + x.V + y.V = _
  rw [Int.zero_add]
theorem okR_sane {x : NumR} (h : okR x = true) : Sane x := by
  rcases of_decide_eq_true h with ⟨h1, h2, h3⟩ | ⟨h1, ⟨h2, h3⟩, h4, h5, h6⟩
  · exact ⟨⟨fun i hi => by omega, .inl h1⟩, by omega, by omega, by omega⟩
  · exact ⟨h3, by omega, by omega, by omega⟩
theorem okR_dy {x : NumR} (h : okR x = true) : Dy x.V x.ng (val x.d x.n) x.e ∧ val x.d x.n < P 2000 ∧ Dok x.V := by
  have hd : Dy x.V x.ng (val x.d x.n) x.e ∧ val x.d x.n < P 2000 ∧ -1048576 ≤ x.e ∧ x.e ≤ 1048576 := by
    rcases of_decide_eq_true h with ⟨h1, h2, h3⟩ | ⟨h1, ⟨h2, h3⟩, h4, h5, h6⟩
    · exact ⟨⟨rfl, by omega, .inl ⟨by rw [h1]; rfl, h2, h3⟩⟩, by rw [h1]; show (0 : Int) < P 2000; exact P_pos 2000, by omega, by omega⟩
    · refine ⟨⟨rfl, by omega, .inr ⟨val_pos h3 h1, ?_⟩⟩, ?_, h5, h6⟩
      · obtain ⟨m, hm⟩ : ∃ m, x.n = m + 1 := ⟨x.n - 1, by omega⟩
        have := val_split x.d 1 m
        rw [show 1 + m = x.n by omega] at this
        rw [this]
        rw [show val x.d 1 = x.d 0 by show 0 + x.d 0 * 1 = _; omega, show P 1 = 1073741824 from rfl]
        omega
      · exact Int.lt_of_lt_of_le (val_lt h3.1) (P_le h2)
  exact ⟨hd.1, hd.2.1, hd.1.ok.2 hd.2⟩
theorem bel_set3 {w w1 : World} (h : Below w.heap.size w w1) {g : Nat} (hg : w.heap.size ≤ g) (a b c : Value) : Below w.heap.size w (((w1.setCell ⟨g, 0, none⟩ a).setCell ⟨g, 1, none⟩ b).setCell ⟨g, 2, none⟩ c) :=
  ((h.setCell (p := ⟨g, 0, none⟩) hg a).setCell (p := ⟨g, 1, none⟩) hg b).setCell (p := ⟨g, 2, none⟩) hg c
theorem heap_set {w : World} {g : Nat} {xs : Array Value} {t : TypeId} (h : w.heap[g]? = some (.cells xs t (0, 0))) (i : Nat) (v : Value) : (w.setCell ⟨g, i, none⟩ v).heap[g]? = some (.cells (xs.setIfInBounds i v) t (0, 0)) := by
  simp [World.setCell, Array.getElem?_modify, h]
end Go.Proofs.YtmjdlcbiaglkeaaDoor

/-
  Package dyadic: Make and Scale, whatever the exponent, by contracts.
-/
namespace Go.Proofs.YtmjdlcbiaglkeaaDoor
open Go Go.RowKit Go.Proofs.YtmjdlcbiaglkeaaDoor.M
set_option linter.unusedSimpArgs false
set_option linter.unusedVariables false

/-- A number of any exponent: what is far below has no valid form, as 2^-4194304 has none. -/
def mkV (ng : Bool) (M e : Int) : Int := if M = 0 then 0 else if e < -4194304 then 1 else sg ng M * pw e
theorem not_dok_one : ¬ Dok 1 := by
  have h : Dy 1 false 1 (-4194304) := ⟨by show 1 = 1 * pw (-4194304); rfl, by omega, .inr ⟨by omega, by omega⟩⟩
  intro hk
  have := h.ok.1 hk
  omega
theorem not_dok_high {ng : Bool} {M e : Int} (h : 0 < M) (he : 1048576 < e) : ¬ Dok (sg ng M * pw e) := by
  obtain ⟨l, hl⟩ := isLow_ex h
  have hy := Dy.of ng hl h (show -4194304 ≤ e by omega)
  intro hk
  have := hy.ok.1 hk
  omega
theorem settle_mk {ng : Bool} {ao : Option Addr} {n cap : Nat} {d : Nat → Int} {e : Int} {w : World} (h : Row w ao n cap d) (hd : Dig d n) (hn : n ≤ 100000) (hT : Tab w) {V : Int} (hV : V = mkV ng (val d n) e) :
    Calls Tryd.prog 23 #[.agg #[.bool ng, .slice ao n cap, .int .i64 e]] w (DOut w V) := by
  unfold mkV at hV
  by_cases h0 : val d n = 0
  · rw [if_pos h0] at hV
    refine (settle_zero ng ao n cap d e w h hd h0).mono ?_
    rintro x w' ⟨rfl, hb⟩
    rw [hV]
    exact .inl ⟨dok_zero, _, rfl, DAns.zero hb⟩
  · rw [if_neg h0] at hV
    have hp : 0 < val d n := by have := val_nonneg hd; omega
    by_cases he : e < -4194304
    · rw [if_pos he] at hV
      refine (settle_deep h hd hn hT he hp).mono ?_
      rintro x w' ⟨rfl, hb⟩
      rw [hV]
      exact .inr ⟨not_dok_one, rfl, hb⟩
    · rw [if_neg he] at hV
      exact settle_any h hd hn hT (by omega) hV
/-- An exponent that was wrapped round stays far out. -/
theorem settle_wrap {ng : Bool} {ao : Option Addr} {n cap : Nat} {d : Nat → Int} {e k : Int} {w : World} (h : Row w ao n cap d) (hd : Dig d n) (hn : n ≤ 100000) (hT : Tab w) (he0 : -1048576 ≤ e) (he1 : e ≤ 1048576) (hk : rng k) {V : Int} (hV : V = mkV ng (val d n) (e + k)) :
    Calls Tryd.prog 23 #[.agg #[.bool ng, .slice ao n cap, .int .i64 (wrap64 (e + k))]] w (DOut w V) := by
  unfold rng at hk
  by_cases h0 : val d n = 0
  · refine settle_mk h hd hn hT ?_
    rw [hV]; unfold mkV; rw [if_pos h0, if_pos h0]
  · have hp : 0 < val d n := by have := val_nonneg hd; omega
    have hw : wrap64 (e + k) = (e + k + 9223372036854775808) % 18446744073709551616 - 9223372036854775808 := by
      simp only [wrap64]
    by_cases c1 : e + k < -9223372036854775808
    · have e1 : wrap64 (e + k) = e + k + 18446744073709551616 := by rw [hw]; omega
      have hV1 : V = 1 := by rw [hV]; unfold mkV; rw [if_neg h0, if_pos (by omega)]
      refine (settle_mk h hd hn hT rfl).mono ?_
      have hno : ¬ Dok (mkV ng (val d n) (wrap64 (e + k))) := by
        unfold mkV
        rw [if_neg h0, if_neg (by omega)]
        exact not_dok_high hp (by omega)
      rintro x w' (⟨hy, _⟩ | ⟨_, rfl, hb⟩)
      · exact absurd hy hno
      · exact .inr ⟨by rw [hV1]; exact not_dok_one, rfl, hb⟩
    · by_cases c2 : 9223372036854775807 < e + k
      · have e1 : wrap64 (e + k) = e + k - 18446744073709551616 := by rw [hw]; omega
        have hno : ¬ Dok V := by
          rw [hV]
          unfold mkV
          rw [if_neg h0, if_neg (by omega)]
          exact not_dok_high hp (by omega)
        refine (settle_deep h hd hn hT (by omega) hp).mono ?_
        rintro x w' ⟨rfl, hb⟩
        exact .inr ⟨hno, rfl, hb⟩
      · have e1 : wrap64 (e + k) = e + k := by rw [hw]; omega
        rw [e1]
        exact settle_mk h hd hn hT hV
end Go.Proofs.YtmjdlcbiaglkeaaDoor

/-
  Package nat: Shl, Pow, by contracts: for every number, every exponent.
-/
namespace Go.Proofs.YtmjdlcbiaglkeaaDoor
open Go Go.RowKit Go.Proofs.YtmjdlcbiaglkeaaDoor.M
set_option linter.unusedSimpArgs false
set_option linter.unusedVariables false

theorem P2000_two : P 2000 = 2 ^ 60000 := P_two 2000
theorem shl_long {A : Int} {k : Nat} (hA : 0 < A) (h : 60000 < k + blen A) : P 2000 ≤ A * 2 ^ k := by
  obtain ⟨c1, c2⟩ := blen_pos hA
  rw [P2000_two]
  have h1 : (2 : Int) ^ 60000 ≤ 2 ^ (blen A - 1 + k) := two_le (by omega)
  rw [Int.pow_add] at h1
  exact Int.le_trans h1 (Int.mul_le_mul_of_nonneg_right c2 (Int.le_of_lt (two_pos k)))
theorem shl_short {A : Int} {k : Nat} (h : k + blen A ≤ 60000) : A * 2 ^ k < P 2000 := by
  rw [P2000_two]
  have h1 : (2 : Int) ^ (blen A + k) ≤ 2 ^ 60000 := two_le (by omega)
  rw [Int.pow_add] at h1
  have h2 : A * 2 ^ k < 2 ^ blen A * 2 ^ k := Int.mul_lt_mul_of_pos_right (blen_lt A) (two_pos k)
  exact Int.lt_of_lt_of_le h2 h1
theorem row_drewN {w : World} {ao : Option Addr} {n cap : Nat} {d : Nat → Int} (h : Row w ao n cap d) {q : Nat} : Row (w.drewN q) ao n cap d := h.keeps (bDrewN (bel_refl _) _)
theorem pow_small {A : Int} {k : Nat} (h0 : 0 ≤ A) (h1 : A < 2) (hk : 0 < k) : A ^ k = A := by
  rcases (show A = 0 ∨ A = 1 by omega) with rfl | rfl
  · exact Int.zero_pow (by omega)
  · exact Int.one_pow
theorem two_pow_pow (a b : Nat) : ((2 : Int) ^ a) ^ b = 2 ^ (a * b) := Int.pow_mul.symm
theorem pow_le_base {A B : Int} (h0 : 0 ≤ A) (h : A ≤ B) (k : Nat) : A ^ k ≤ B ^ k := by
  induction k with
  | zero => rw [Int.pow_zero, Int.pow_zero]; omega
  | succ k ih =>
    rw [Int.pow_succ, Int.pow_succ]
    exact Int.mul_le_mul ih h h0 (Int.pow_nonneg (by omega))
theorem pow_long {A : Int} {k L : Nat} (hL : 2 ^ (L - 1) ≤ A) (h : 59999 < (L - 1) * k) : P 2000 ≤ A ^ k := by
  rw [P2000_two]
  have h1 : (2 : Int) ^ 60000 ≤ 2 ^ ((L - 1) * k) := two_le (by omega)
  rw [← two_pow_pow] at h1
  exact Int.le_trans h1 (pow_le_base (Int.le_of_lt (two_pos _)) hL k)
theorem pow_fits {A : Int} {k L : Nat} (h0 : 0 ≤ A) (hL : A < 2 ^ L) (h1 : 2 ≤ L) (h : (L - 1) * k ≤ 59999) : A ^ k < P 5000 := by
  have hk : k ≤ 59999 := by
    have : 1 * k ≤ (L - 1) * k := Nat.mul_le_mul_right k (by omega)
    omega
  have h2 : L * k ≤ 119998 := by
    have : L * k = (L - 1) * k + k := by rw [← Nat.succ_mul]; congr 1; omega
    omega
  have h3 := pow_le_base h0 (Int.le_of_lt hL) k
  rw [two_pow_pow] at h3
  have h4 : (2 : Int) ^ (L * k) < 2 ^ 150000 := two_lt (by omega)
  rw [P_two]
  exact Int.lt_of_le_of_lt h3 h4
end Go.Proofs.YtmjdlcbiaglkeaaDoor

/-
  The document's own answers (plumbref2): Valid, trim, Two, Answer, Cmp, Add, Sub, by contracts over the same values.
-/
namespace Go.Proofs.YtmjdlcbiaglkeaaDoor
open Go Go.RowKit Go.Proofs.YtmjdlcbiaglkeaaDoor.M
set_option linter.unusedSimpArgs false
set_option linter.unusedVariables false

theorem top_of {d : Nat → Int} {t : Nat} (hd : Dig d t) (h : 0 < t → P (t - 1) ≤ val d t) : Top d t := by
  by_cases h0 : t = 0
  · exact .inl h0
  · refine .inr fun e => ?_
    obtain ⟨k, rfl⟩ : ∃ k, t = k + 1 := ⟨t - 1, by omega⟩
    rw [Nat.add_sub_cancel] at e h
    have h1 := h (by omega)
    rw [val_succ, e] at h1
    have h2 := val_lt (hd.le (Nat.le_succ k))
    omega
theorem cat_upd (r : Nat → Int) (k : Nat) (x : Int) : ∀ i, i < k + 1 → cat r k (fun _ => x) i = upd r k x i := fun i hi => by
  by_cases e : i < k
  · simp [cat, e, upd_other r _ (show i ≠ k by omega)]
  · obtain rfl : i = k := by omega
    simp [cat, upd_same]
theorem dig_upd2 {r : Nat → Int} {k : Nat} {x : Int} (h : Dig r k) (hx : 0 ≤ x ∧ x < 1073741824) : Dig (upd r k x) (k + 1) := fun i hi => by
  by_cases e : i = k
  · rw [e, upd_same]; exact hx
  · rw [upd_other r x e]; exact h i (by omega)
end Go.Proofs.YtmjdlcbiaglkeaaDoor

/-
  The document's own answers (plumbref2): fits, Answer, From, Cmp, Sub, Mul, by contracts over the same values.
-/
namespace Go.Proofs.YtmjdlcbiaglkeaaDoor
open Go Go.RowKit Go.Proofs.YtmjdlcbiaglkeaaDoor.M
set_option linter.unusedSimpArgs false
set_option linter.unusedVariables false

end Go.Proofs.YtmjdlcbiaglkeaaDoor

/-
  The document's own answers (plumbref2): From, Bits, Bit, Shl, Shr, by contracts over the same values.
-/
namespace Go.Proofs.YtmjdlcbiaglkeaaDoor
open Go Go.RowKit Go.Proofs.YtmjdlcbiaglkeaaDoor.M
set_option linter.unusedSimpArgs false
set_option linter.unusedVariables false

theorem blen_half {x : Int} (h : 0 < x) : blen x = blen (x / 2) + 1 := by
  obtain ⟨h1, h2⟩ := blen_pos h
  have h3 := blen_lt x
  obtain ⟨k, hk⟩ : ∃ k, blen x = k + 1 := ⟨blen x - 1, by omega⟩
  rw [hk] at h2 h3 ⊢
  rw [Nat.add_sub_cancel] at h2
  rw [Int.pow_succ] at h3
  cases k with
  | zero =>
    have : x = 1 := by simp at h3 h2; omega
    subst this; decide
  | succ j =>
    rw [Int.pow_succ] at h2
    have e1 : (2 : Int) ^ j ≤ x / 2 := by omega
    have e2 : x / 2 < 2 ^ (j + 1) := by omega
    rw [blen_of e1 e2]
end Go.Proofs.YtmjdlcbiaglkeaaDoor

/-
  Package nat: small, combine, heads (what Lehmer's way is made of), by contracts.
-/
namespace Go.Proofs.YtmjdlcbiaglkeaaDoor
open Go Go.RowKit Go.Proofs.YtmjdlcbiaglkeaaDoor.M
set_option linter.unusedSimpArgs false
set_option linter.unusedVariables false

theorem val_mono {d : Nat → Int} {n m : Nat} (h : Dig d n) (hm : m ≤ n) : val d m ≤ val d n := by
  have e := val_split d m (n - m)
  rw [show m + (n - m) = n by omega] at e
  have a := val_nonneg (show Dig (fun i => d (m + i)) (n - m) from fun i hi => h (m + i) (by omega))
  have := Int.mul_nonneg (Int.le_of_lt (P_pos m)) a
  omega
set_option maxHeartbeats 400000 in
theorem small_any (ao : Option Addr) (n cap : Nat) (d : Nat → Int) (w : World) (h : Row w ao n cap d) (hd : Dig d n) (hn : n ≤ 3) (hv : val d n < 9223372036854775808) :
    Calls Tryd.prog 67 #[.slice ao n cap] w fun e w' => e = .returned (.int .i64 (val d n)) ∧ w' = w := by
  have hl := h.le
  have hm := h.max
  have HV : Hid (val d n < 9223372036854775808) := hv
  clear hv
  go_enter Tryd.func67, Tryd.ntmps67
  go_wp2
  go_loop [3, 7] (fun v i => ∃ k : Nat, k ≤ n ∧ i = .int .i64 k ∧ v = .int .i64 (val d k)) (fun _ i => n - (intOf i).toNat)
  case atStart => exact ⟨0, Nat.zero_le _, rfl, rfl⟩
  case round =>
    obtain ⟨k, hk, rfl, rfl⟩ := hrel
    by_cases hlt : k < n
    · obtain ⟨b, off, rfl, hb, hc⟩ := h.spot (by omega)
      have c := hc k hlt
      have dk := hd k hlt
      have v0 := val_nonneg (hd.le (show k ≤ n by omega))
      have v1 := val_lt (hd.le (show k ≤ n by omega))
      have m1 := val_mono hd (show k + 1 ≤ n by omega)
      have hv2 := HV.out
      rw [P_two] at v1
      have e1 : val d (k + 1) = val d k + d k * 2 ^ (30 * k) := by rw [val_succ, P_two]
      have m0 : 0 ≤ d k * 2 ^ (30 * k) := Int.mul_nonneg dk.1 (Int.le_of_lt (two_pos _))
      have hw : wrap64 (d k * 2 ^ (30 * k)) = d k * 2 ^ (30 * k) := IntWalk.wrap64_in _ ⟨by omega, by omega⟩
      have hor : bits .or .i64 (val d k) (d k * 2 ^ (30 * k)) = val d (k + 1) := (or_add _ _ _ v0 v1 dk.1 (by omega)).trans e1.symm
      clear e1 m0 m1 hv2 v0 v1
      go_wp2
      go_round
      case rel => exact ⟨k + 1, by omega, by go_num, rfl⟩
      case measure => simp [intOf]; omega
    · obtain rfl : k = n := by omega
      go_wp2
      go_ret
      exact ⟨rfl, rfl⟩

theorem mul_bnd {x y : Int} (hx : -1073741824 < x ∧ x < 1073741824) (hy : 0 ≤ y ∧ y < 1073741824) : -1152921504606846976 ≤ x * y ∧ x * y ≤ 1152921504606846976 := by
  have h1 : x * y ≤ 1073741824 * y := Int.mul_le_mul_of_nonneg_right (by omega) hy.1
  have h2 : -1073741824 * y ≤ x * y := Int.mul_le_mul_of_nonneg_right (by omega) hy.1
  constructor <;> omega
theorem small_ans {w w' : World} {V : Int} {v : Value} (h : Ans w w' V v) (hV : V < 1152921504606846976) :
    Calls Tryd.prog 67 #[v] w' fun e w'' => e = .returned (.int .i64 V) ∧ w'' = w' := by
  have hn := h.num
  obtain ⟨ao, n, cap, rfl⟩ := hn.shape
  have hl := hn.len (show V < P 2 from hV)
  obtain ⟨ao', n', cap', d, e, hR, h2, rfl⟩ := hn
  simp only [Value.slice.injEq] at e
  obtain ⟨rfl, rfl, rfl⟩ := e
  exact small_any _ _ _ _ _ hR h2.1 (by omega) (by omega)
end Go.Proofs.YtmjdlcbiaglkeaaDoor

/-
  Package nat's calls that take one list and a number: Int, Bit at every number; what they answer on no number and on a negative one.
-/
namespace Go.Proofs.YtmjdlcbiaglkeaaDoor
open Go Go.RowKit Go.Proofs.YtmjdlcbiaglkeaaDoor.M
set_option linter.unusedSimpArgs false
set_option linter.unusedVariables false

/-- A bit, at every int. -/
def bitI (A n : Int) : Bool := if n < 0 then false else bitB A n.toNat
theorem bitI_neg {A n : Int} (h : n < 0) : bitI A n = false := by simp [bitI, h]
theorem bitI_nat (A : Int) (i : Nat) : bitI A i = bitB A i := by simp [bitI]
theorem bitI_big {A n : Int} (h0 : 0 ≤ A) (h : (blen A : Int) ≤ n) : bitI A n = false := by
  unfold bitI
  split
  · rfl
  · exact bit_high h0 (by omega)
theorem blen60 {A : Int} (hA : A < P 2000) : blen A ≤ 60000 := blen_le (by rw [← P2000_two]; exact hA)
/-- The int of a number, and whether it is one. -/
def intV (A : Int) : Int := if blen A ≤ 63 then A else 0
end Go.Proofs.YtmjdlcbiaglkeaaDoor

/-
  Package dyadic: Of, Of32, Float, by contracts.
-/
namespace Go.Proofs.YtmjdlcbiaglkeaaDoor
open Go Go.RowKit Go.Proofs.YtmjdlcbiaglkeaaDoor.M
set_option linter.unusedSimpArgs false
set_option linter.unusedVariables false

/-- The cells of binary64's layout. -/
structure Lay64 (w : World) : Prop where
  a0 : w.cell? ⟨0, 0, none⟩ = some (.int .i64 52)
  a1 : w.cell? ⟨0, 1, none⟩ = some (.int .i64 2047)
  a2 : w.cell? ⟨0, 2, none⟩ = some (.int .i64 (-1074))
theorem Lay64.keeps {w w' : World} (h : Lay64 w) (hb : Below w.heap.size w w') : Lay64 w' := ⟨cell_keeps h.a0 hb, cell_keeps h.a1 hb, cell_keeps h.a2 hb⟩
theorem bitsPartsA (b : Int) (w : World) (L : Lay64 w) :
    Calls Tryd.prog 12 #[.int .i64 b] w fun e w' => e = .returned (.tuple #[.bool (pneg b), .int .i64 (pmag b), .int .i64 (pexp b), .bool (pok b)]) ∧ Below w.heap.size w w' := by
  obtain ⟨a0, a1, a2⟩ := L
  by_cases h : pok b = true
  all_goals
    go_enter Tryd.func12, Tryd.ntmps12
    go_wp2_with (go_at_call 24; refine (parts64 _ _).mono ?_; rintro e w1 ⟨rfl, hg⟩)
    refine bodyPost_ret (v := .tuple #[.bool (pneg b), .int .i64 (pmag b), .int .i64 (pexp b), .bool (pok b)]) (by simp [results, Tryd.results12, go_sem, pneg, h]) rfl ⟨rfl, hg.be⟩
theorem bitsJoinA (neg : Bool) (mag exp : Int) (w : World) (L : Lay64 w) (hT : Tab w) (hm : rng mag) (he : rng exp) :
    Calls Tryd.prog 51 #[.bool neg, .int .i64 mag, .int .i64 exp] w fun e w' => e = .returned (.tuple #[.int .i64 (jp neg mag exp), .bool (jk 52 2047 (-1074) mag exp)]) ∧ Below w.heap.size w w' := by
  obtain ⟨a0, a1, a2⟩ := L
  have hb := jv_le (mag := mag) (exp := exp) hm
  have ho := or_i64_sign (jv 52 2047 (-1074) mag exp) (by omega) (by omega)
  have Ho := keepIt ho
  clear ho
  cases hk : jk 52 2047 (-1074) mag exp
  all_goals
    have HK := keepIt hk
    cases neg
    all_goals
      go_enter Tryd.func51, Tryd.ntmps51
      go_wp2_with (go_at_call 65; refine (join64 _ _ _ hT hm he).mono ?_; rintro e w1 ⟨rfl, hg⟩)
      go_ret2
      exact ⟨ret_ib (by simp [jp, HK.out, Ho.out]) (by simp [HK.out]), hg.be⟩
theorem pmag_in {b : Int} (hp : pok b = true) : 0 ≤ pmag b ∧ pmag b < 9007199254740992 ∧ -1074 ≤ pexp b ∧ pexp b ≤ 971 := by
  have hf := fld_le b
  have hr := frc_le b
  have h1 : fld b ≠ 2047 := by simpa [pok] using hp
  unfold pmag pexp
  rw [if_neg h1, if_neg h1]
  split <;> omega
theorem pmag32_in {b : Int} (hp : pok32 b = true) : 0 ≤ pmag32 b ∧ pmag32 b < 16777216 ∧ -149 ≤ pexp32 b ∧ pexp32 b ≤ 104 := by
  have hf := fld32_le b
  have hr := frc32_le b
  have h1 : fld32 b ≠ 255 := by
    intro h
    simp [pok32, h] at hp
  unfold pmag32 pexp32
  rw [if_pos hp, if_pos hp]
  split <;> omega
theorem ofNat_any (x : Int) (w : World) (h0 : 0 ≤ x) (h1 : x < 9223372036854775808) :
    Calls Tryd.prog 22 #[.int .i64 x] w fun e w' => ∃ v, e = .returned (.tuple #[v, .int .i64 0]) ∧ Ans w w' x v := by
  have HX := digits_nat x w h0 h1
  have HX' : Hid (Calls Tryd.prog 31 #[.int .i64 x] w fun e w' => ∃ v, e = .returned v ∧ Ans w w' x v) := HX
  clear HX h1
  go_enter Tryd.func22, Tryd.ntmps22
  go_wp2_with fail
  refine HX'.out.mono ?_
  rintro e w2 ⟨v, rfl, hA⟩
  go_wp2
  go_ret2
  exact ⟨_, rfl, hA⟩
theorem P2000_big2 : 9223372036854775808 < P 2000 := by
  have := P_le (show 3 ≤ 2000 by omega)
  have e : P 3 = 1237940039285380274899124224 := rfl
  omega
/-- A finite float's worth has a valid form. -/
theorem dok_small {ng : Bool} {M e : Int} (h0 : 0 ≤ M) (h1 : M < 9223372036854775808) (e0 : -1074 ≤ e) (e1 : e ≤ 971) : Dok (sg ng M * pw e) := by
  by_cases hz : M = 0
  · rw [hz, sg_zero, Int.zero_mul]; exact dok_zero
  · obtain ⟨l, hl⟩ := isLow_ex (show 0 < M by omega)
    have hy := Dy.of ng hl (show 0 < M by omega) (show -4194304 ≤ e by omega)
    obtain ⟨c1, c2, c3⟩ := isLow_odd hl (show 0 < M by omega)
    have hp := two_pos l
    have hl63 : l < 63 := by
      have h3 : (1 : Int) * 2 ^ l ≤ M / 2 ^ l * 2 ^ l := Int.mul_le_mul_of_nonneg_right (by omega) (by omega)
      rw [c3] at h3
      refine two_lt_iff ?_
      rw [show (2 : Int) ^ 63 = 9223372036854775808 by decide]
      omega
    refine hy.ok.2 ⟨?_, by omega, by omega⟩
    have : M / 2 ^ l ≤ M := Int.ediv_le_self _ h0
    have := P2000_big2
    omega
set_option maxRecDepth 100000 in
set_option maxHeartbeats 1000000 in
theorem value_yes (ng : Bool) (M e : Int) (w : World) (hT : Tab w) (h0 : 0 ≤ M) (h1 : M < 9223372036854775808) (e0 : -1074 ≤ e) (e1 : e ≤ 971) :
    Calls Tryd.prog 11 #[.bool ng, .int .i64 M, .int .i64 e, .bool true] w fun r w' => ∃ v, r = .returned (.tuple #[v, .int .i64 0]) ∧ DAns w w' (sg ng M * pw e) v := by
  have hok := dok_small (ng := ng) h0 h1 e0 e1
  go_enter Tryd.func11, Tryd.ntmps11
  go_wp2_with fail
  refine (ofNat_any M _ h0 h1).mono ?_
  rintro r w1 ⟨v, rfl, hA⟩
  obtain ⟨so, sn, sc, d, rfl, hR, hN, hv⟩ := hA.num
  have hsn : sn ≤ 100 := hA.num.len (k := 100) (by have := P_le (show 3 ≤ 100 by omega); have : P 3 = 1237940039285380274899124224 := rfl; omega)
  have hbw := bel_trans (bel_alloc w _) hA.below
  go_wp2_with fail
  refine (settle_any (V := sg ng M * pw e) hR hN.1 (by omega) (hT.keeps hbw) (by omega) (by rw [hv])).mono ?_
  rintro r w7 (⟨_, v, rfl, hD⟩ | ⟨hno, _⟩)
  · have hb7 := hD.below
    obtain ⟨ng', s', m', e', rfl, hyy, hA2⟩ := id hD
    obtain ⟨so', sn', sc', rfl⟩ := hA2.num.shape
    have q0 := ((bel_trans hA.below hb7).block w.heap.size (by rw [size1]; omega)).trans (heap_a1 _ _)
    have x0 := blkC q0 0 rfl
    have x1 := blkC q0 1 rfl
    have x2 := blkC q0 2 rfl
    have z0 := blkF q0 0
    have z1 := blkF q0 1
    have z2 := blkF q0 2
    go_wp2
    refine bodyPost_ret (v := .tuple #[.agg #[.bool ng', .slice so' sn' sc', .int .i64 e'], .int .i64 0]) (by simp [results, Tryd.results11, go_sem, x0, x1, x2]) rfl ⟨_, rfl, ?_⟩
    exact dans_res3 (g := w.heap.size) hD hbw (Nat.le_refl _) (Nat.lt_of_lt_of_le (by rw [size1]; omega) hA.below.size) _ _ _
  · exact absurd hok hno
set_option maxRecDepth 100000 in
theorem value_no (ng : Bool) (M e : Int) (w : World) :
    Calls Tryd.prog 11 #[.bool ng, .int .i64 M, .int .i64 e, .bool false] w fun r w' => r = .returned (.tuple #[zeroV, .int .i64 10]) ∧ Below w.heap.size w w' := by
  go_enter Tryd.func11, Tryd.ntmps11
  go_wp2
  refine bodyPost_ret (v := .tuple #[zeroV, .int .i64 10]) (by simp [results, Tryd.results11, go_sem, zeroV]) rfl ⟨rfl, ?_⟩
  exact bel_alloc _ _
set_option maxRecDepth 100000 in
set_option maxHeartbeats 1000000 in
theorem dof_any (b : Int) (w : World) (L : Lay64 w) (hT : Tab w) :
    Calls Tryd.prog 4 #[.int .i64 b] w fun r w' => ∃ v er, r = .returned (.tuple #[v, .int .i64 er]) ∧ Below w.heap.size w w' ∧ ((pok b = true ∧ er = 0 ∧ DAns w w' (sg (pneg b) (pmag b) * pw (pexp b)) v) ∨ (pok b = false ∧ er = 10 ∧ v = zeroV)) := by
  have hVy : pok b = true → ∀ W, Below w.heap.size w W → Calls Tryd.prog 11 #[.bool (pneg b), .int .i64 (pmag b), .int .i64 (pexp b), .bool true] W fun r w' => ∃ v, r = .returned (.tuple #[v, .int .i64 0]) ∧ DAns W w' (sg (pneg b) (pmag b) * pw (pexp b)) v := fun hp W hb => by
    have hi := pmag_in hp
    exact value_yes _ _ _ W (hT.keeps hb) (by omega) (by omega) (by omega) (by omega)
  have hP := fun W hb => bitsPartsA b W (L.keeps hb)
  generalize sg (pneg b) (pmag b) * pw (pexp b) = V at hVy ⊢
  generalize pneg b = ng at *
  generalize pmag b = mg at *
  generalize pexp b = ex at *
  clear L hT
  cases hp : pok b
  · rw [hp] at hP hVy
    go_enter Tryd.func4, Tryd.ntmps4
    go_wp2_with fail
    refine (hP _ (bel_alloc _ _)).mono ?_
    rintro r w1 ⟨rfl, hb1⟩
    go_wp2_with fail
    refine (value_no _ _ _ _).mono ?_
    unfold zeroV
    rintro r w2 ⟨rfl, hb2⟩
    have hbw := bel_trans (bel_alloc w (.cells #[.bool false, .slice none 0 0, .int .i64 0] 26)) (bel_trans hb1 hb2)
    have q0 := ((bel_trans hb1 hb2).block w.heap.size (by rw [size1]; omega)).trans (heap_a1 _ _)
    have x0 := blkC q0 0 rfl
    have x1 := blkC q0 1 rfl
    have x2 := blkC q0 2 rfl
    have z0 := blkF q0 0
    have z1 := blkF q0 1
    have z2 := blkF q0 2
    go_wp2
    refine bodyPost_ret (v := .tuple #[zeroV, .int .i64 10]) (by simp [results, Tryd.results4, go_sem, x0, x1, x2, zeroV]) rfl ⟨_, _, rfl, ?_, .inr ⟨by trivial, rfl, rfl⟩⟩
    exact bel_set3 hbw (Nat.le_refl _) _ _ _
  · rw [hp] at hP hVy
    go_enter Tryd.func4, Tryd.ntmps4
    go_wp2_with fail
    refine (hP _ (bel_alloc _ _)).mono ?_
    rintro r w1 ⟨rfl, hb1⟩
    have hbw := bel_trans (bel_alloc w (.cells #[.bool false, .slice none 0 0, .int .i64 0] 26)) hb1
    go_wp2_with fail
    refine (hVy (by trivial) _ hbw).mono ?_
    rintro r w2 ⟨v, rfl, hD⟩
    obtain ⟨ng', s', m', e', rfl, hyy, hA2⟩ := id hD
    obtain ⟨so', sn', sc', rfl⟩ := hA2.num.shape
    have q0 := ((bel_trans hb1 hD.below).block w.heap.size (by rw [size1]; omega)).trans (heap_a1 _ _)
    have x0 := blkC q0 0 rfl
    have x1 := blkC q0 1 rfl
    have x2 := blkC q0 2 rfl
    have z0 := blkF q0 0
    have z1 := blkF q0 1
    have z2 := blkF q0 2
    go_wp2
    refine bodyPost_ret (v := .tuple #[.agg #[.bool ng', .slice so' sn' sc', .int .i64 e'], .int .i64 0]) (by simp [results, Tryd.results4, go_sem, x0, x1, x2]) rfl ⟨_, _, rfl, ?_, .inl ⟨by trivial, rfl, ?_⟩⟩
    · exact bel_set3 (bel_trans hbw hD.below) (Nat.le_refl _) _ _ _
    · exact dans_res3 (g := w.heap.size) hD hbw (Nat.le_refl _) (Nat.lt_of_lt_of_le (by rw [size1]; omega) hb1.size) _ _ _
end Go.Proofs.YtmjdlcbiaglkeaaDoor

/-
  Package round: way.beyond, value.binary64, by their contracts.
-/
namespace Go.Proofs.YtmjdlcbiaglkeaaDoor
open Go Go.RowKit Go.Proofs.YtmjdlcbiaglkeaaDoor.M
set_option linter.unusedSimpArgs false
set_option linter.unusedVariables false

/-- The rung of what is too great. -/
def bRung (way : Int) (ng : Bool) : Int := if rUp way ng true 3 then 9218868437227405312 else 9218868437227405311
/-- A pattern of a sign and a rung. -/
def patS (ng : Bool) (r : Int) : Int := if ng then r - 9223372036854775808 else r
theorem or_inf : bits BinOp.or IntKind.i64 9218868437227405312 (-9223372036854775808) = -4503599627370496 := by decide +kernel
theorem or_most : bits BinOp.or IntKind.i64 9218868437227405311 (-9223372036854775808) = -4503599627370497 := by decide +kernel
theorem Env.keeps {w w' : World} (h : Env w) (hb : Below w.heap.size w w') : Env w' :=
  ⟨⟨cell_keeps h.lays.a0 hb, cell_keeps h.lays.a1 hb, cell_keeps h.lays.a2 hb, trivial, trivial, trivial⟩, fun j hj => cell_keeps (h.tab j hj) hb⟩
set_option maxRecDepth 100000 in
set_option maxHeartbeats 1000000 in
theorem beyond_any (way : Int) (hw : 0 ≤ way ∧ way ≤ 3) (ng : Bool) (w : World) :
    Calls Tryd.prog 52 #[wayV way, .bool ng, .int .i64 9218868437227405312, .int .i64 (-9223372036854775808)] w fun e w' => e = .returned (.int .i64 (patS ng (bRung way ng))) ∧ Below w.heap.size w w' := by
  have hF := wraise_any way hw
  have hE := wraise_enter way
  unfold wayV bRung
  generalize wayF way = F at hF hE ⊢
  have q0 := heap_alloc_new w (.cells #[.func (.func F) #[] #[]] 89)
  have k0 := blkC q0 0 rfl
  have o1 := or_inf
  have o2 := or_most
  obtain ⟨R, hR⟩ : ∃ R, rUp way ng true 3 = R := ⟨_, rfl⟩
  have hFF := hF ng true 3
  rw [hR] at hFF ⊢
  clear hR hF
  cases ng <;> cases R
  all_goals
    unfold patS
    go_enter Tryd.func52, Tryd.ntmps52
    go_wp2_with (first | (refine (hFF _).mono ?_; rintro _ _ ⟨rfl, rfl⟩))
    all_goals go_ret
    all_goals exact ⟨by simp, bel_alloc _ _⟩
/-- What a value is rounded to. -/
def r64 (way : Int) (ng sd : Bool) (mag : Nat) (exp : Int) (cut : Bool) : Int × Bool :=
  let E := rE 53 (-1074) mag exp
  let u := rU mag (E - exp)
  let left := rL mag cut (E - exp)
  let U := u + (if rUp way ng (decide (u % 2 = 1)) left then 1 else 0)
  let neg := ng && (decide (0 < U) || sd)
  if jk 52 2047 (-1074) U E then (jp neg U E, decide (left ≠ 0)) else (patS neg (bRung way neg), true)
set_option maxRecDepth 100000 in
set_option maxHeartbeats 1000000 in
theorem binary64_any (way : Int) (hw : 0 ≤ way ∧ way ≤ 3) (ng sd : Bool) (mag : Nat) (exp : Int) (cut : Bool) (w : World) (Ev : Env w) (hm : mag < 18446744073709551616) (he : -4500000 ≤ exp ∧ exp ≤ 4500000) :
    Calls Tryd.prog 42 #[valV ng mag exp cut sd, wayV way] w fun e w' => e = .returned (.tuple #[.int .i64 (r64 way ng sd mag exp cut).1, .bool (r64 way ng sd mag exp cut).2]) ∧ Below w.heap.size w w' := by
  have e64 : (2 : Nat) ^ 64 = 18446744073709551616 := by decide
  have e53 : (2 : Nat) ^ (53 : Int).toNat = 9007199254740992 := by decide
  have hE : -5000000 ≤ rE 53 (-1074) mag exp ∧ rE 53 (-1074) mag exp ≤ 5000000 := by
    have hbl : Lib.bitLen mag ≤ 64 := by
      by_cases h0 : mag = 0
      · rw [h0]; decide
      · exact (M.bitLen_spec mag (by omega) h0).2.2.2
    unfold rE
    omega
  have hu : rU mag (rE 53 (-1074) mag exp - exp) ≤ 9007199254740991 := by
    by_cases h0 : mag = 0
    · rw [h0]; unfold rU; split <;> simp
    · have := (rU_bits (size := 53) (low := -1074) (exp := exp) (by decide) (by omega) h0).1
      rw [e53] at this
      omega
  have hUn := fun W => units_any way hw ng mag exp (rE 53 (-1074) mag exp) cut sd W hm hE (by omega) (by omega)
  have HR : r64 way ng sd mag exp cut = (let E := rE 53 (-1074) mag exp
    let u := rU mag (E - exp)
    let left := rL mag cut (E - exp)
    let U := u + (if rUp way ng (decide (u % 2 = 1)) left then 1 else 0)
    let neg := ng && (decide (0 < U) || sd)
    if jk 52 2047 (-1074) U E then (jp neg U E, decide (left ≠ 0)) else (patS neg (bRung way neg), true)) := rfl
  simp only at HR
  have hEE : rE 53 (-1074) mag exp = rE 53 (-1074) mag exp := rfl
  obtain ⟨E, hEq⟩ : ∃ E, rE 53 (-1074) mag exp = E := ⟨_, rfl⟩
  rw [hEq] at hE hu hUn HR
  obtain ⟨left, hleft⟩ : ∃ l, rL mag cut (E - exp) = l := ⟨_, rfl⟩
  rw [hleft] at hUn HR
  obtain ⟨U, hU⟩ : ∃ U, rU mag (E - exp) + (if rUp way ng (decide (rU mag (E - exp) % 2 = 1)) left then 1 else 0) = U := ⟨_, rfl⟩
  rw [hU] at hUn HR
  have hU2 : U ≤ 9007199254740992 := by rw [← hU]; split <;> omega
  obtain ⟨neg, hneg⟩ : ∃ n, (ng && (decide (0 < U) || sd)) = n := ⟨_, rfl⟩
  have hFl := fun W => float_F (wayF way) ng mag exp 53 (-1074) cut sd U E (decide (left ≠ 0)) W hm he (by omega) (by omega) hEq (by omega) hUn
  rw [hneg] at hFl HR
  have hJ := fun W (EW : Env W) => bitsJoin neg (U : Int) E W EW (by unfold rng; omega) (by unfold rng; omega)
  have hB := fun W => beyond_any way hw neg W
  obtain ⟨other, hoth⟩ : ∃ o, decide (left ≠ 0) = o := ⟨_, rfl⟩
  rw [hoth] at hFl HR
  obtain ⟨fin, hfin⟩ : ∃ f, jk 52 2047 (-1074) (U : Int) E = f := ⟨_, rfl⟩
  obtain ⟨pt, hpt⟩ : ∃ p, jp neg (U : Int) E = p := ⟨_, rfl⟩
  rw [hpt] at hJ HR
  rw [hfin] at hJ HR
  obtain ⟨by1, hby⟩ : ∃ b, patS neg (bRung way neg) = b := ⟨_, rfl⟩
  rw [hby] at hB HR
  rw [HR]
  have hUi : ((U : Nat) : Int) = ((U : Nat) : Int) := rfl
  have hb2 := bel_alloc2 w (.cells #[.bool ng, .int .u64 mag, .int .i64 exp, .bool cut, .bool sd] 82) (.cells #[.func (.func (wayF way)) #[] #[]] 89)
  have q1 := heap_b2 w (.cells #[.bool ng, .int .u64 mag, .int .i64 exp, .bool cut, .bool sd] 82) (.cells #[.func (.func (wayF way)) #[] #[]] 89)
  have k1 := blkC q1 0 rfl
  have HEV : Hid (Env w) := Ev
  clear Ev HR hUn hEq hleft hU hneg hoth hfin hpt hby hU2 hu hE hEE hUi e64 e53
  unfold wayV valV at *
  generalize wayF way = F at *
  go_enter Tryd.func42, Tryd.ntmps42
  go_wp2_with fail
  refine (hFl _).mono ?_
  rintro _ w1 ⟨rfl, hb1⟩
  have hbw := bel_trans hb2 hb1
  have p1 := (hb1.block _ (Array.getElem?_eq_some_iff.1 q1).1).trans q1
  have k2 := blkC p1 0 rfl
  clear hFl hb2 hb1 q1 k1
  go_wp2_with fail
  refine (hJ _ (HEV.out.keeps hbw)).mono ?_
  rintro _ w2 ⟨rfl, hg⟩
  have hb2 := hg.be
  have hbw2 := bel_trans hbw hb2
  have p2 := (hb2.block _ (Array.getElem?_eq_some_iff.1 p1).1).trans p1
  have k3 := blkC p2 0 rfl
  clear hJ hg p1 p2 k2 hb2 hbw
  cases fin
  · go_wp2_with fail
    refine (hB _).mono ?_
    rintro _ w3 ⟨rfl, hb3⟩
    go_wp2
    all_goals go_ret2
    all_goals exact ⟨by simp, bel_trans hbw2 hb3⟩
  · go_wp2
    all_goals go_ret2
    all_goals exact ⟨by simp, hbw2⟩
end Go.Proofs.YtmjdlcbiaglkeaaDoor

/-
  Package nat: root, Root, by contracts: for every number.
-/
namespace Go.Proofs.YtmjdlcbiaglkeaaDoor
open Go Go.RowKit Go.Proofs.YtmjdlcbiaglkeaaDoor.M
set_option linter.unusedSimpArgs false
set_option linter.unusedVariables false

/-- The square root, cut: the greatest s with s s <= A. -/
def IsRoot (A s : Int) : Prop := 0 ≤ s ∧ s * s ≤ A ∧ A < (s + 1) * (s + 1)
theorem root_above {A s : Int} (hA : 0 ≤ A) (hs : 0 < s) (h : A < s * s) : ∀ r, r * r ≤ A → r < s := fun r hr => by
  rcases Int.lt_or_le r s with q | q
  · exact q
  · have := Int.mul_le_mul q q (by omega) (by omega)
    omega
/-- s is not below the root. -/
def Abv (A s : Int) : Prop := ∀ r, 0 ≤ r → r * r ≤ A → r ≤ s
theorem abv_start {A : Int} (hA : 0 ≤ A) {k : Nat} (h : A < 2 ^ (2 * k)) : Abv A (2 ^ k) := fun r h0 hr => by
  rcases Int.lt_or_le (2 ^ k) r with q | q
  · have h1 := Int.mul_le_mul (Int.le_of_lt q) (Int.le_of_lt q) (Int.le_of_lt (two_pos k)) h0
    rw [← Int.pow_add, ← Nat.two_mul] at h1
    omega
  · exact q
theorem abv_next {A s : Int} (hs : 0 < s) (h : Abv A s) : Abv A ((s + A / s) / 2) := fun r h0 hr => newton_above hs hr
theorem abv_done {A s : Int} (hs : 0 < s) (h : Abv A s) (hst : s ≤ (s + A / s) / 2) : IsRoot A s := by
  refine ⟨by omega, newton_stop hs hst, ?_⟩
  rcases Int.lt_or_le A ((s + 1) * (s + 1)) with q | q
  · exact q
  · have := h (s + 1) (by omega) q
    omega
theorem Num.parts {w : World} {v : Value} {V : Int} (h : Num w v V) {k : Nat} (hV : V < P k) : ∃ ao n cap d, v = .slice ao n cap ∧ Row w ao n cap d ∧ Nrm d n ∧ val d n = V ∧ n ≤ k := by
  obtain ⟨ao, n, cap, rfl⟩ := h.shape
  have hl := h.len hV
  obtain ⟨ao', n', cap', d, e, hR, h2, h3⟩ := h
  simp only [Value.slice.injEq] at e
  obtain ⟨rfl, rfl, rfl⟩ := e
  exact ⟨ao, n, cap, d, rfl, hR, h2, h3, hl⟩
theorem lower_num {w : World} {x : Value} {A : Int} (hx : Num w x A) (hA : A < P 6000) (k : Nat) (hk : (k : Int) < 9223372036854775808) :
    Calls Tryd.prog 35 #[x, .int .i64 k] w fun e w' => ∃ v, e = .returned v ∧ Ans w w' (A / 2 ^ k) v := by
  obtain ⟨ao, n, ca, d, rfl, hR, h2, rfl, hl⟩ := hx.parts hA
  exact lower_any _ _ _ _ _ _ hR h2.1 (by omega) hk
theorem lower_half {w : World} {x : Value} {A : Int} (hx : Num w x A) (hA : A < P 6000) :
    Calls Tryd.prog 35 #[x, .int .i64 1] w fun e w' => ∃ v, e = .returned v ∧ Ans w w' (A / 2) v := lower_num hx hA 1 (by decide)
theorem raise_num {w : World} {x : Value} {A : Int} (hx : Num w x A) (hA : A < P 5000) (k : Nat) (hk : k ≤ 1000000) :
    Calls Tryd.prog 75 #[x, .int .i64 k] w fun e w' => ∃ v, e = .returned v ∧ Ans w w' (A * 2 ^ k) v := by
  obtain ⟨ao, n, ca, d, rfl, hR, h2, rfl, hl⟩ := hx.parts hA
  exact raise_any _ _ _ _ _ _ hR h2.1 (by omega) hk
theorem bitLength_num {w : World} {x : Value} {A : Int} (hx : Num w x A) (hA : A < P 5000) :
    Calls Tryd.prog 34 #[x] w fun e w' => e = .returned (.int .i64 (blen A)) ∧ w' = w := by
  obtain ⟨ao, n, ca, d, rfl, hR, h2, rfl, hl⟩ := hx.parts hA
  exact bitLength_any _ _ _ _ _ hR h2 (by omega)

/-- A root that is answered. -/
def RootA (w w' : World) (A : Int) (v : Value) : Prop := ∃ s, Ans w w' s v ∧ IsRoot A s
theorem root_bnd {A s : Int} (hA : A < P 2000) (hA0 : 0 ≤ A) (hs : 0 < s) (h3 : s < P 3000) : A / s < P 5000 ∧ s < P 5000 ∧ s + A / s < P 6000 := by
  have h1 : A / s ≤ A := Int.ediv_le_self _ hA0
  have p1 := P_le (show 2000 ≤ 3000 by decide)
  have p2 := P_le (show 3000 ≤ 5000 by decide)
  have p3 : P 3000 + P 3000 ≤ P 6000 := by
    have h := P_le (show 3001 ≤ 6000 by decide)
    have e : P 3001 = P 3000 * 1073741824 := P_succ 3000
    have := P_pos 3000
    generalize P 3000 = X at *
    generalize P 6000 = Y at *
    generalize P 3001 = Z at *
    omega
  generalize P 3000 = X at *
  generalize P 6000 = Y at *
  generalize P 5000 = Z at *
  generalize P 2000 = T at *
  refine ⟨?_, ?_, ?_⟩ <;> omega
/-- Where a root's rounds stand: s is in new memory, and not below the root. -/
def RootR (w0 : World) (A : Int) (v : Value) (s : Int) (wr : World) : Prop := Ans w0 wr s v ∧ 0 < s ∧ Abv A s ∧ s < P 3000
end Go.Proofs.YtmjdlcbiaglkeaaDoor
