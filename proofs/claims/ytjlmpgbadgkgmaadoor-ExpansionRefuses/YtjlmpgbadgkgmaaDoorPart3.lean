/-
  Parts of the proof, one behind another.
-/
import Derived.Test.YtjlmpgbadgkgmaaDoorPart1
import Derived.Test.YtjlmpgbadgkgmaaDoorProg
import Derived.WalkKit
import Derived.OwnWalk
import Derived.Below
import Derived.Laws.OwnMore
import Derived.Laws.AppendOwnNone
import Derived.Deep.QuietTactic
import Derived.BigQuiet
import Derived.Tactics
import Derived.Tactics2
import Derived.Defers
import Derived.Recover
import Derived.Laws.Pointers
import Derived.WalkLawsBesides
import Derived.Test.YtjlmpgbadgkgmaaDoorPart2
import Derived.WideLaws
import Derived.Deep.RegionHeld3
import Derived.WalkSmall
import Derived.RowKit3
import Derived.Lib.Strings
import Derived.Lib.Slices
import Derived.Lib.Small
import Derived.Lib.Walk
import Derived.Lib.BitFns
import Derived.Lib.TrailingZeros
import Derived.Laws.Bits64b
import Derived.Lib.ItoaNum
/-
  Lists of ints in memory: a slice that is read (Row), a block that the call itself has made and writes (Blk), a slice that is answered (Out). Each is carried over what a call leaves behind.
-/
namespace Go.Proofs.YtjlmpgbadgkgmaaDoor
open Go Go.RowKit Go.Proofs.YtjlmpgbadgkgmaaDoor.M
set_option linter.unusedSimpArgs false
set_option linter.unusedVariables false

/-- A slice of n ints that is read: its digits are d's. -/
structure Row (w : World) (ao : Option Addr) (n cap : Nat) (d : Nat → Int) : Prop where
  le : n ≤ cap
  max : cap ≤ 9223372036854775807
  nl : ao = none → cap = 0
  spot : 0 < n → ∃ b off, ao = some ⟨b, off, none⟩ ∧ b < w.heap.size ∧ ∀ i, i < n → w.cell? ⟨b, off + i, none⟩ = some (.int .i64 (d i))

/-- A block of N ints that is the call's own. -/
def Blk (w : World) (g N : Nat) (r : Nat → Int) : Prop :=
  ∃ cur, w.heap[g]? = some (.cells cur 3 (0, 0)) ∧ cur.size = N ∧ ∀ i, i < N → cur[i]? = some (.int .i64 (r i))

/-- The values of n digits. -/
def vals (d : Nat → Int) (n : Nat) : List Value := (List.range n).map fun i => .int .i64 (d i)
theorem vals_length (d : Nat → Int) (n : Nat) : (vals d n).length = n := by simp [vals]
theorem vals_get (d : Nat → Int) {n i : Nat} (h : i < n) : (vals d n)[i]? = some (.int .i64 (d i)) := by simp [vals, h]
theorem vals_one (d : Nat → Int) (n : Nat) : ∀ u ∈ vals d n, u.oneCell' = true := by
  intro u hu
  obtain ⟨_, _, rfl⟩ := List.mem_map.1 hu
  rfl
theorem vals_ext {xs : List Value} {d : Nat → Int} {n : Nat} (hl : xs.length = n) (h : ∀ i, i < n → xs[i]? = some (.int .i64 (d i))) : xs = vals d n := by
  apply List.ext_getElem?
  intro i
  by_cases hi : i < n
  · rw [h i hi, vals_get d hi]
  · rw [List.getElem?_eq_none (by omega), List.getElem?_eq_none (by rw [vals_length]; omega)]
theorem vals_snoc (d : Nat → Int) (n : Nat) (x : Int) : vals d n ++ [.int .i64 x] = vals (upd d n x) (n + 1) := by
  apply vals_ext (by simp [vals_length])
  intro i hi
  by_cases h : i < n
  · rw [List.getElem?_append_left (by rw [vals_length]; exact h), vals_get d h, upd_other d x (by omega)]
  · obtain rfl : i = n := by omega
    rw [List.getElem?_append_right (by rw [vals_length]; omega), vals_length, upd_same]; simp

/-- A slice that is answered: nil, or at the head of a block from B on. -/
def Out (B : Nat) (w : World) (v : Value) (n : Nat) (d : Nat → Int) : Prop := w.ownsRow B 3 1 v n (vals d n)

theorem Row.stays {w w' : World} {ao : Option Addr} {n cap : Nat} {d : Nat → Int} (h : Row w ao n cap d) {B : Nat} (hb : Below B w w') (hB : w.heap.size ≤ B) : Row w' ao n cap d :=
  ⟨h.le, h.max, h.nl, fun hn => by
    obtain ⟨b, off, rfl, hlt, hc⟩ := h.spot hn
    exact ⟨b, off, rfl, Nat.lt_of_lt_of_le hlt hb.size, fun i hi => (hb.cell (p := ⟨b, off + i, none⟩) (Nat.lt_of_lt_of_le hlt hB)).trans (hc i hi)⟩⟩
theorem Row.keeps {w w' : World} {ao : Option Addr} {n cap : Nat} {d : Nat → Int} (h : Row w ao n cap d) (hb : Below w.heap.size w w') : Row w' ao n cap d := h.stays hb (Nat.le_refl _)
theorem Row.congr {w : World} {ao : Option Addr} {n cap : Nat} {d e : Nat → Int} (h : Row w ao n cap d) (he : ∀ i, i < n → d i = e i) : Row w ao n cap e :=
  ⟨h.le, h.max, h.nl, fun hn => by
    obtain ⟨b, off, rfl, hlt, hc⟩ := h.spot hn
    exact ⟨b, off, rfl, hlt, fun i hi => by rw [← he i hi]; exact hc i hi⟩⟩
theorem Row.nil (w : World) (d : Nat → Int) : Row w none 0 0 d := ⟨Nat.le_refl _, by decide, fun _ => rfl, fun h => by omega⟩
theorem Row.alloc {w : World} {ao : Option Addr} {n cap : Nat} {d : Nat → Int} (h : Row w ao n cap d) (o : Obj) : Row (w.alloc o) ao n cap d := h.keeps ((Below.refl _ _).alloc (Nat.le_refl _) _)

theorem Blk.cell {w : World} {g N : Nat} {r : Nat → Int} (h : Blk w g N r) {i : Nat} (hi : i < N) : w.cell? ⟨g, i, none⟩ = some (.int .i64 (r i)) := by
  obtain ⟨cur, hg, hs, hc⟩ := h
  rw [cell_of_row w g i cur _ _ hg]; exact hc i hi
theorem Blk.frozen {w : World} {g N : Nat} {r : Nat → Int} (h : Blk w g N r) (i : Nat) : w.frozen? ⟨g, i, none⟩ = false := by
  obtain ⟨cur, hg, hs, hc⟩ := h
  exact frozen_of_row w g i cur _ hg
theorem Blk.lt {w : World} {g N : Nat} {r : Nat → Int} (h : Blk w g N r) : g < w.heap.size := by
  obtain ⟨cur, hg, hs, hc⟩ := h
  exact (Array.getElem?_eq_some_iff.1 hg).1
theorem Blk.store {w : World} {g N : Nat} {r : Nat → Int} (h : Blk w g N r) (i : Nat) (x : Int) : Blk (w.setCell ⟨g, i, none⟩ (.int .i64 x)) g N (upd r i x) := by
  obtain ⟨cur, hg, hs, hc⟩ := h
  refine ⟨cur.setIfInBounds i (.int .i64 x), heap_setCell_same w g i cur _ _ hg, by simpa using hs, fun j hj => ?_⟩
  by_cases hji : j = i
  · subst hji; rw [upd_same, Array.getElem?_setIfInBounds_self_of_lt (by omega)]
  · rw [upd_other r x hji, Array.getElem?_setIfInBounds_ne (by omega)]; exact hc j hj
theorem Blk.of_block {w w' : World} {g N : Nat} {r : Nat → Int} (h : Blk w g N r) (hb : w'.heap[g]? = w.heap[g]?) : Blk w' g N r := by
  obtain ⟨cur, hg, hs, hc⟩ := h
  exact ⟨cur, hb.trans hg, hs, hc⟩
theorem Blk.stays {w w' : World} {g N : Nat} {r : Nat → Int} (h : Blk w g N r) {B : Nat} (hb : Below B w w') (hB : g < B) : Blk w' g N r := h.of_block (hb.block g hB)
theorem Blk.keeps {w w' : World} {g N : Nat} {r : Nat → Int} (h : Blk w g N r) (hb : Below w.heap.size w w') : Blk w' g N r := h.stays hb h.lt
theorem Blk.apart {w : World} {g N : Nat} {r : Nat → Int} (h : Blk w g N r) {a : Addr} (ha : g ≠ a.block) (u : Value) : Blk (w.setCell a u) g N r := h.of_block (heap_setCell_other w a g u ha)
theorem Blk.alloc {w : World} {g N : Nat} {r : Nat → Int} (h : Blk w g N r) (o : Obj) : Blk (w.alloc o) g N r := h.of_block (Below.heap_alloc w o g h.lt)
theorem Blk.congr {w : World} {g N : Nat} {r s : Nat → Int} (h : Blk w g N r) (he : ∀ i, i < N → r i = s i) : Blk w g N s := by
  obtain ⟨cur, hg, hs, hc⟩ := h
  exact ⟨cur, hg, hs, fun i hi => by rw [hc i hi, he i hi]⟩
theorem Blk.row {w : World} {g N : Nat} {r : Nat → Int} (h : Blk w g N r) {off n cap : Nat} (hn : off + n ≤ N) (hc : n ≤ cap) (hm : cap ≤ 9223372036854775807) : Row w (some ⟨g, off, none⟩) n cap (fun i => r (off + i)) :=
  ⟨hc, hm, (fun e => by cases e), fun _ => ⟨g, off, rfl, h.lt, fun i hi => h.cell (by omega)⟩⟩
theorem Blk.row0 {w : World} {g N : Nat} {r : Nat → Int} (h : Blk w g N r) {n : Nat} (hn : n ≤ N) (hm : N ≤ 9223372036854775807) : Row w (some ⟨g, 0, none⟩) n N r :=
  ⟨hn, hm, (fun e => by cases e), fun _ => ⟨g, 0, rfl, h.lt, fun i hi => by rw [Nat.zero_add]; exact h.cell (by omega)⟩⟩
theorem Blk.out {w : World} {g N : Nat} {r : Nat → Int} (h : Blk w g N r) {B n : Nat} (hB : B ≤ g) (hn : n ≤ N) (hm : N ≤ 9223372036854775807) : Out B w (.slice (some ⟨g, 0, none⟩) n N) n r := by
  obtain ⟨cur, hg, hs, hc⟩ := h
  refine ⟨by rw [vals_length]; omega, .inr ⟨g, N, cur, rfl, hB, hg, hn, by unfold maxLen; omega, by omega, ?_⟩⟩
  apply vals_ext (by simp; omega)
  intro i hi
  rw [List.getElem?_take, if_pos (by omega), Array.getElem?_toList]
  exact hc i (by omega)
theorem Blk.made {w : World} {B g N : Nat} (h : w.ownsRow B 3 1 (.slice (some ⟨g, 0, none⟩) N N) N (madeCells (Value.int .i64 0).cells (N * 1)).toList) : Blk w g N (fun _ => 0) := by
  rcases h.2 with ⟨h', _⟩ | ⟨g', cap', cur, h', _, hg, _, _, hs, htake⟩
  · simp at h'
  · simp only [Value.slice.injEq, Option.some.injEq, Addr.mk.injEq, and_true, true_and] at h'
    obtain ⟨rfl, rfl⟩ := h'
    refine ⟨cur, hg, by omega, fun i hi => ?_⟩
    have e : cur.toList[i]? = (madeCells (Value.int .i64 0).cells (N * 1)).toList[i]? := by
      rw [← htake, List.getElem?_take, if_pos (by omega)]
    rw [Array.getElem?_toList] at e
    rw [e]
    show (madeCells #[Value.int .i64 0] (N * 1)).toList[i]? = _
    rw [Nat.mul_one, toList_madeCells_one]
    simp [hi]
theorem Blk.new (w : World) (xs : Array Value) (r : Nat → Int) (h : ∀ i, i < xs.size → xs[i]? = some (.int .i64 (r i))) : Blk (w.alloc (.cells xs 3)) w.heap.size xs.size r :=
  ⟨xs, heap_alloc_new w _, rfl, h⟩

theorem Out.row {B : Nat} {w : World} {v : Value} {n : Nat} {d : Nat → Int} (h : Out B w v n d) : ∃ ao cap, v = .slice ao n cap ∧ Row w ao n cap d := by
  rcases h.2 with ⟨rfl, rfl⟩ | ⟨g, cap, cur, rfl, hb, hg, hn, hm, hs, ht⟩
  · exact ⟨none, 0, rfl, Row.nil _ _⟩
  · refine ⟨_, cap, rfl, hn, by unfold maxLen at hm; exact hm, (fun e => by cases e), fun _ => ⟨g, 0, rfl, (Array.getElem?_eq_some_iff.1 hg).1, fun i hi => ?_⟩⟩
    rw [Nat.zero_add, cell_of_row w g i cur _ _ hg]
    have e : (cur.toList.take (n * 1))[i]? = (vals d n)[i]? := by rw [ht]
    rw [List.getElem?_take, if_pos (by omega), vals_get d hi, Array.getElem?_toList] at e
    exact e
theorem Out.nil (B : Nat) (w : World) (d : Nat → Int) : Out B w (.slice none 0 0) 0 d := World.ownsRow_nil _ _ _ _
theorem Out.stays {B : Nat} {w w' : World} {v : Value} {n : Nat} {d : Nat → Int} (h : Out B w v n d) (hb : Below w.heap.size w w') : Out B w' v n d := by
  refine ⟨h.1, ?_⟩
  rcases h.2 with hn | ⟨g, cap, cur, rfl, hbb, hg, rest⟩
  · exact .inl hn
  · exact .inr ⟨g, cap, cur, rfl, hbb, (hb.block g (Array.getElem?_eq_some_iff.1 hg).1).trans hg, rest⟩
theorem Out.lower {B B' : Nat} {w : World} {v : Value} {n : Nat} {d : Nat → Int} (h : Out B w v n d) (hB : B' ≤ B) : Out B' w v n d := by
  refine ⟨h.1, ?_⟩
  rcases h.2 with hn | ⟨g, cap, cur, rfl, hbb, rest⟩
  · exact .inl hn
  · exact .inr ⟨g, cap, cur, rfl, by omega, rest⟩
theorem Out.congr {B : Nat} {w : World} {v : Value} {n : Nat} {d e : Nat → Int} (h : Out B w v n d) (he : ∀ i, i < n → d i = e i) : Out B w v n e := by
  unfold Out at h ⊢
  rwa [show vals e n = vals d n from (vals_ext (vals_length d n) fun i hi => by rw [vals_get d hi, he i hi]).symm]
/-- What a Go call hands back: one value of slices. -/
theorem bel_trans {a b c : World} (h : Below a.heap.size a b) (k : Below b.heap.size b c) : Below a.heap.size a c := h.trans (k.mono h.size)
theorem bel_refl (w : World) : Below w.heap.size w w := Below.refl _ _
theorem bDrewN {B : Nat} {a w : World} (h : Below B a w) (n : Nat) : Below B a (w.drewN n) := ⟨h.os, h.tape, h.output, h.size, h.block⟩
/-- A slice cut to its first t; nil where nothing is left. -/
def cutV (ao : Option Addr) (t cap : Nat) : Value := if t = 0 then .slice none 0 0 else .slice ao t cap
theorem Blk.cut {w : World} {g N : Nat} {r : Nat → Int} (h : Blk w g N r) {B t : Nat} (hB : B ≤ g) (ht : t ≤ N) (hm : N ≤ 9223372036854775807) : Out B w (cutV (some ⟨g, 0, none⟩) t N) t r := by
  unfold cutV
  split
  · rename_i h0; subst h0; exact Out.nil _ _ _
  · exact h.out hB ht hm
/-- The list of V, without zeros on top, in memory that is new since w; nothing of w has turned. -/
def Ans (w w' : World) (V : Int) (v : Value) : Prop := ∃ t d, Out w.heap.size w' v t d ∧ Nrm d t ∧ val d t = V ∧ Below w.heap.size w w'
theorem Ans.below {w w' : World} {V : Int} {v : Value} (h : Ans w w' V v) : Below w.heap.size w w' := h.choose_spec.choose_spec.2.2.2
theorem Ans.from {w0 w w' : World} {V : Int} {v : Value} (h : Ans w w' V v) (hb : Below w0.heap.size w0 w) : Ans w0 w' V v := by
  obtain ⟨t, d, h1, h2, h3, h4⟩ := h
  exact ⟨t, d, h1.lower hb.size, h2, h3, bel_trans hb h4⟩
theorem Ans.stays {w w1 w2 : World} {V : Int} {v : Value} (h : Ans w w1 V v) (hb : Below w1.heap.size w1 w2) : Ans w w2 V v := by
  obtain ⟨t, d, h1, h2, h3, h4⟩ := h
  exact ⟨t, d, h1.stays hb, h2, h3, bel_trans h4 hb⟩
theorem Ans.nil {w w' : World} (hb : Below w.heap.size w w') : Ans w w' 0 (.slice none 0 0) := ⟨0, fun _ => 0, Out.nil _ _ _, ⟨fun i hi => by omega, .inl rfl⟩, rfl, hb⟩
/-- A list and an error, of a number that may be too long. -/
def Fit (w w' : World) (V : Int) (v : Value) (er : Int) : Prop := Below w.heap.size w w' ∧ ((V < P 2000 ∧ er = 0 ∧ Ans w w' V v) ∨ (P 2000 ≤ V ∧ er = 2 ∧ v = .slice none 0 0))
theorem info_int : (Tryd.prog.info? 3).map (fun i => (i.zero, i.size, i.bytes)) = some (some (.int .i64 0), 1, 8) := by kernel_rfl
theorem grown_below {w w' : World} (h : w.grownBy w' none) : Below w.heap.size w w' := ⟨h.os, h.tape, h.output, h.size, fun k hk => h.block k hk (by simp)⟩
/-- 'make([]int, n)': a block of the call's own, all nought. -/
theorem wpList_mk {w : World} {ops : Array Oper} {rest : List Oper} {o : Oper} {a : Act} {Q : Exit → Act → World → Prop} (hg : o.guard = none) (l c : Operand) (hop : o.op = Op.makeSlice 24 l c)
    (L C : Int) (n : Nat) (hl : a.eval l = .int .i64 L) (hc : a.eval c = .int .i64 C) (hL : L = (n : Int)) (hC : C = (n : Int)) (hn : n ≤ 1000000)
    (hK : ∀ w', Blk w' w.heap.size n (fun _ => 0) → Below w.heap.size w w' → wpList Tryd.prog ops Q rest (a.put o.dst (.slice (some ⟨w.heap.size, 0, none⟩) n n)) w') :
    wpList Tryd.prog ops Q (o :: rest) a w := by
  obtain ⟨i0, hi, hz0, hz1, hz2⟩ := info_parts info_int
  exact wpList_make_full w hg l c 24 hop w.heap.size 3 i0 (.int .i64 0) 1 Tryd.underlying24 hi hz0 hz1 .i64 .i64 L C n hl hc hL hC (by rw [hz2]; omega) (by unfold maxLen; omega) (Nat.le_refl _)
    fun w' h1 h2 => hK w' (Blk.made h1) (grown_below h2)
/-- A slice of one, of two ints, as the text lays it. -/
theorem row1 (w : World) (x : Int) {g : Nat} (hg : g = w.heap.size) : Row (w.alloc (.cells #[.int .i64 x] 3)) (some ⟨g, 0, none⟩) 1 1 (fun _ => x) := by
  subst hg
  exact (Blk.new w #[.int .i64 x] (fun _ => x) (fun i hi => by simp at hi; subst hi; rfl)).row0 (Nat.le_refl _) (show 1 ≤ 9223372036854775807 by decide)
/-- Two digits. -/
def d2 (x y : Int) : Nat → Int := fun i => if i = 0 then x else y
theorem row2 (w : World) (x y : Int) {g : Nat} (hg : g = w.heap.size) : Row (w.alloc (.cells #[.int .i64 x, .int .i64 y] 3)) (some ⟨g, 0, none⟩) 2 2 (d2 x y) := by
  subst hg
  refine (Blk.new w #[.int .i64 x, .int .i64 y] (d2 x y) (fun i hi => ?_)).row0 (Nat.le_refl _) (show 2 ≤ 9223372036854775807 by decide)
  match i, hi with
  | 0, _ => rfl
  | 1, _ => rfl
/-- One list behind another. -/
def cat (d : Nat → Int) (n : Nat) (e : Nat → Int) : Nat → Int := fun i => if i < n then d i else e (i - n)
theorem vals_cat (d e : Nat → Int) (n m : Nat) : vals d n ++ vals e m = vals (cat d n e) (n + m) := by
  apply vals_ext (by simp [vals_length])
  intro i hi
  by_cases h : i < n
  · rw [List.getElem?_append_left (by rw [vals_length]; exact h), vals_get d h]; simp [cat, h]
  · rw [List.getElem?_append_right (by rw [vals_length]; omega), vals_length, vals_get e (by omega)]; simp [cat, h]
theorem add_none (b off n : Nat) : (⟨b, off, none⟩ : Addr).add n = ⟨b, off + n, none⟩ := by
  unfold Addr.add; split <;> simp_all
/-- 'append(xs, ys...)', xs nil or the call's own, ys whatever. -/
theorem wpList_app {w : World} {ops : Array Oper} {rest : List Oper} {o : Oper} {a : Act} {Q : Exit → Act → World → Prop} (hgd : o.guard = none) (s x : Operand)
    (ho : o.op = .call { callee := .builtin .append, args := #[s, x], argTypes := #[24, 24] }) (B : Nat) (v : Value) (n : Nat) (d : Nat → Int) (hs : a.eval s = v) (hO : Out B w v n d)
    (bo : Option Addr) (m cb : Nat) (e : Nat → Int) (hx : a.eval x = .slice bo m cb) (hR : Row w bo m cb e) (hlen : n + m ≤ 1000000) (hB : B ≤ w.heap.size)
    (h : ∀ v' w', Out B w' v' (n + m) (cat d n e) → w.grownBy w' v.ownBlock → wpList Tryd.prog ops Q rest (a.put o.dst v') w') : wpList Tryd.prog ops Q (o :: rest) a w := by
  obtain ⟨i0, hi, hz0, hz1, hz2⟩ := info_parts info_int
  cases bo with
  | none =>
    have hc := hR.nl rfl
    have hl := hR.le
    subst hc
    obtain rfl : m = 0 := by omega
    refine wpList_append_own_none hgd s x 24 ho B 3 i0 1 Tryd.underlying24 hi v n (vals d n) hs hO hx ?_
    refine h v w ?_ ⟨rfl, rfl, rfl, Nat.le_refl _, fun _ _ _ => rfl⟩
    exact Out.congr hO fun i hi => by simp [cat]; omega
  | some ad =>
    refine wpList_append_own w hgd s x 24 ho B 3 i0 (.int .i64 0) 1 8 Tryd.underlying24 hi hz0 hz1 hz2 rfl (by decide) v n (vals d n) hs hO ad m cb (vals e m) hx (by rw [vals_length]; omega) ?_ (vals_one e m) (by unfold maxLen; omega) (by omega) hB ?_
    · intro j u hu
      have hj : j < m := by have := (List.getElem?_eq_some_iff.1 hu).1; rwa [vals_length] at this
      obtain ⟨b, off, hb, _, hc⟩ := hR.spot (by omega)
      obtain rfl := Option.some.inj hb
      rw [vals_get e hj] at hu
      rw [add_none, hc j hj]; exact hu
    · intro v' w' h1 h2 _
      rw [vals_cat] at h1
      exact h v' w' h1 h2
theorem own_ge {B : Nat} {w : World} {v : Value} {n : Nat} {d : Nat → Int} (h : Out B w v n d) : ∀ k, v.ownBlock = some k → B ≤ k := fun k hk => (World.ownsRow.lt h k hk).1
/-- A number that is read: a list without zeros on top, and its value. -/
def Num (w : World) (v : Value) (V : Int) : Prop := ∃ ao n cap d, v = .slice ao n cap ∧ Row w ao n cap d ∧ Nrm d n ∧ val d n = V
theorem Ans.num {w w' : World} {V : Int} {v : Value} (h : Ans w w' V v) : Num w' v V := by
  obtain ⟨t, d, h1, h2, h3, h4⟩ := h
  obtain ⟨ao, cap, rfl, hR⟩ := h1.row
  exact ⟨ao, t, cap, d, rfl, hR, h2, h3⟩
theorem Num.keeps {w w' : World} {v : Value} {V : Int} (h : Num w v V) (hb : Below w.heap.size w w') : Num w' v V := by
  obtain ⟨ao, n, cap, d, rfl, hR, h2⟩ := h
  exact ⟨ao, n, cap, d, rfl, hR.keeps hb, h2⟩
theorem Num.cast {w : World} {v : Value} {V V' : Int} (h : Num w v V) (e : V = V') : Num w v V' := e ▸ h
theorem Num.shape {w : World} {v : Value} {V : Int} (h : Num w v V) : ∃ ao n cap, v = .slice ao n cap := by
  obtain ⟨ao, n, cap, d, e, _⟩ := h
  exact ⟨ao, n, cap, e⟩
theorem Num.alloc {w : World} {v : Value} {V : Int} (h : Num w v V) (o : Obj) : Num (w.alloc o) v V := h.keeps ((Below.refl _ _).alloc (Nat.le_refl _) _)
theorem num1 (w : World) (x : Int) (h0 : 0 < x) (h1 : x < 1073741824) {g : Nat} (hg : g = w.heap.size) : Num (w.alloc (.cells #[.int .i64 x] 3)) (.slice (some ⟨g, 0, none⟩) 1 1) x :=
  ⟨_, 1, 1, fun _ => x, rfl, row1 w x hg, ⟨fun i _ => by show 0 ≤ x ∧ x < 1073741824; omega, .inr (by show x ≠ 0; omega)⟩, by show 0 + x * 1 = x; omega⟩
theorem num2 (w : World) (x y : Int) (hx : 0 ≤ x ∧ x < 1073741824) (h0 : 0 < y) (h1 : y < 1073741824) {g : Nat} (hg : g = w.heap.size) : Num (w.alloc (.cells #[.int .i64 x, .int .i64 y] 3)) (.slice (some ⟨g, 0, none⟩) 2 2) (x + y * 1073741824) := by
  refine ⟨_, 2, 2, d2 x y, rfl, row2 w x y hg, ⟨fun i hi => ?_, .inr (by show y ≠ 0; omega)⟩, ?_⟩
  · match i, hi with
    | 0, _ => exact hx
    | 1, _ => exact ⟨by show 0 ≤ y; omega, h1⟩
  · show 0 + x * 1 + y * (1 * 1073741824) = _; omega
theorem Num.len {w : World} {ao : Option Addr} {n cap : Nat} {V : Int} (h : Num w (.slice ao n cap) V) {k : Nat} (hV : V < P k) : n ≤ k := by
  obtain ⟨ao', n', cap', d, e, hR, h2, h3⟩ := h
  simp only [Value.slice.injEq] at e
  obtain ⟨rfl, rfl, rfl⟩ := e
  by_cases hk : n ≤ k
  · exact hk
  · have a := val_top h2.1 (by omega) h2.2
    have b := P_le (show k ≤ n - 1 by omega)
    omega
theorem Num.nonneg {w : World} {v : Value} {V : Int} (h : Num w v V) : 0 ≤ V := by
  obtain ⟨ao', n', cap', d, e, hR, h2, rfl⟩ := h
  exact val_nonneg h2.1
theorem Num.zero {w : World} {ao : Option Addr} {n cap : Nat} {V : Int} (h : Num w (.slice ao n cap) V) : V = 0 ↔ n = 0 := by
  obtain ⟨ao', n', cap', d, e, hR, h2, rfl⟩ := h
  simp only [Value.slice.injEq] at e
  obtain ⟨rfl, rfl, rfl⟩ := e
  exact val_zero h2
theorem bel_alloc (w : World) (o : Obj) : Below w.heap.size w (w.alloc o) := (Below.refl _ _).alloc (Nat.le_refl _) _
theorem bel_alloc2 (w : World) (o p : Obj) : Below w.heap.size w ((w.alloc o).alloc p) := (bel_alloc w o).alloc (by simp) _
end Go.Proofs.YtjlmpgbadgkgmaaDoor

/-
  Package dyadic: told, by its contract: what is reckoned out is told; where it gave up, ErrLong.
-/
namespace Go.Proofs.YtjlmpgbadgkgmaaDoor
open Go Go.RowKit Go.Proofs.YtjlmpgbadgkgmaaDoor.M
set_option linter.unusedSimpArgs false
set_option linter.unusedVariables false

theorem blkC {w : World} {g : Nat} {xs : Array Value} {t : TypeId} (h : w.heap[g]? = some (.cells xs t (0, 0))) (i : Nat) {v : Value} (hi : xs[i]? = some v) : w.cell? ⟨g, i, none⟩ = some v := by
  rw [cell_of_row w g i xs _ _ h]; exact hi
theorem blkF {w : World} {g : Nat} {xs : Array Value} {t : TypeId} (h : w.heap[g]? = some (.cells xs t (0, 0))) (i : Nat) : w.frozen? ⟨g, i, none⟩ = false := by
  simp [World.frozen?, h]
theorem heap_a2 (w : World) (a b : Obj) : ((w.alloc a).alloc b).heap[w.heap.size]? = some a := by
  show ((w.heap.push a).push b)[w.heap.size]? = some a
  simp [Array.getElem?_push]
theorem heap_b2 (w : World) (a b : Obj) : ((w.alloc a).alloc b).heap[w.heap.size + 1]? = some b := by
  show ((w.heap.push a).push b)[w.heap.size + 1]? = some b
  rw [Array.getElem?_push, if_pos (by simp)]
theorem size2 (w : World) (a b : Obj) : ((w.alloc a).alloc b).heap.size = w.heap.size + 2 := by
  show ((w.heap.push a).push b).size = _
  simp
theorem Out.set_below {B : Nat} {w : World} {v : Value} {n : Nat} {d : Nat → Int} (h : Out B w v n d) {a : Addr} (ha : a.block < B) (u : Value) : Out B (w.setCell a u) v n d := ownsRow_setCell_below h ha u
/-- A number that is read, in its one form. -/
def DNum (w : World) (v : Value) (V : Int) : Prop := ∃ ng s m e, v = .agg #[.bool ng, s, .int .i64 e] ∧ Dy V ng m e ∧ Num w s m
/-- A number that is answered: its list is new memory. -/
def DAns (w w' : World) (V : Int) (v : Value) : Prop := ∃ ng s m e, v = .agg #[.bool ng, s, .int .i64 e] ∧ Dy V ng m e ∧ Ans w w' m s
/-- The zero number. -/
def zeroV : Value := .agg #[.bool false, .slice none 0 0, .int .i64 0]
theorem DAns.below {w w' : World} {V : Int} {v : Value} (h : DAns w w' V v) : Below w.heap.size w w' := by
  obtain ⟨ng, s, m, e, _, _, h3⟩ := h
  exact h3.below
theorem DAns.num {w w' : World} {V : Int} {v : Value} (h : DAns w w' V v) : DNum w' v V := by
  obtain ⟨ng, s, m, e, h1, h2, h3⟩ := h
  exact ⟨ng, s, m, e, h1, h2, h3.num⟩
theorem DAns.from {w0 w w' : World} {V : Int} {v : Value} (h : DAns w w' V v) (hb : Below w0.heap.size w0 w) : DAns w0 w' V v := by
  obtain ⟨ng, s, m, e, h1, h2, h3⟩ := h
  exact ⟨ng, s, m, e, h1, h2, h3.from hb⟩
theorem DAns.stays {w w1 w2 : World} {V : Int} {v : Value} (h : DAns w w1 V v) (hb : Below w1.heap.size w1 w2) : DAns w w2 V v := by
  obtain ⟨ng, s, m, e, h1, h2, h3⟩ := h
  exact ⟨ng, s, m, e, h1, h2, h3.stays hb⟩
theorem DAns.zero {w w' : World} (hb : Below w.heap.size w w') : DAns w w' 0 zeroV := ⟨_, _, _, _, rfl, Dy.zero, Ans.nil hb⟩
theorem DNum.keeps {w w' : World} {v : Value} {V : Int} (h : DNum w v V) (hb : Below w.heap.size w w') : DNum w' v V := by
  obtain ⟨ng, s, m, e, h1, h2, h3⟩ := h
  exact ⟨ng, s, m, e, h1, h2, h3.keeps hb⟩
theorem DNum.cast {w : World} {v : Value} {V V' : Int} (h : DNum w v V) (e : V = V') : DNum w v V' := e ▸ h
theorem DNum.zero (w : World) : DNum w zeroV 0 := (DAns.zero (bel_refl w)).num
/-- A number, or ErrLong, as the document says. -/
def DFit (w w' : World) (V : Int) (v : Value) (er : Int) : Prop := Below w.heap.size w w' ∧ ((Dok V ∧ er = 0 ∧ DAns w w' V v) ∨ (¬ Dok V ∧ er = 2 ∧ v = zeroV))
theorem if_nil (w : World) : (binOp .eql 20 Value.nilIface Value.nilIface).run Tryd.prog w = .ok (.bool true) w := by kernel_rfl
theorem if_not (w : World) : (binOp .eql 20 (.iface 25 (.int .i64 2)) Value.nilIface).run Tryd.prog w = .ok (.bool false) w := by kernel_rfl
theorem if_long (w : World) : (binOp .eql 20 (.iface 25 (.int .i64 2)) (.iface 25 (.int .i64 2))).run Tryd.prog w = .ok (.bool true) w := by kernel_rfl
theorem dans_res {w W w3 : World} {V : Int} {v : Value} (hv : DAns W w3 V v) (hb : Below w.heap.size w W) {g : Nat} (h0 : w.heap.size ≤ g) (h1 : g + 1 < W.heap.size) (a b c x : Value) :
    DAns w ((((w3.setCell ⟨g, 0, none⟩ a).setCell ⟨g, 1, none⟩ b).setCell ⟨g, 2, none⟩ c).setCell ⟨g + 1, 0, none⟩ x) V v := by
  obtain ⟨ng, s, m, e, h2, h3, t, d, hO, hN, hV, hB⟩ := hv
  refine ⟨ng, s, m, e, h2, h3, t, d, ?_, hN, hV, ?_⟩
  · exact ((((hO.set_below (a := ⟨g, 0, none⟩) (by show g < _; omega) a).set_below (a := ⟨g, 1, none⟩) (by show g < _; omega) b).set_below (a := ⟨g, 2, none⟩) (by show g < _; omega) c).set_below (a := ⟨g + 1, 0, none⟩) h1 x).lower hb.size
  · exact ((((hb.trans (hB.mono hb.size)).setCell (p := ⟨g, 0, none⟩) h0 a).setCell (p := ⟨g, 1, none⟩) h0 b).setCell (p := ⟨g, 2, none⟩) h0 c).setCell (p := ⟨g + 1, 0, none⟩) (Nat.le_succ_of_le h0) x
end Go.Proofs.YtjlmpgbadgkgmaaDoor

/-
  Package round: the ways, by their contracts.
-/
namespace Go.Proofs.YtjlmpgbadgkgmaaDoor
open Go Go.RowKit Go.Proofs.YtjlmpgbadgkgmaaDoor.M
set_option linter.unusedSimpArgs false
set_option linter.unusedVariables false

theorem heap4_alloc (w : World) (a : Obj) {x0 x1 x2 x3 : Value} {t : TypeId} : ((w.alloc a).alloc (.cells #[x0, x1, x2, x3] t)).heap[w.heap.size + 1]? = some (.cells #[x0, x1, x2, x3] t (0, 0)) := heap_b2 w a _
end Go.Proofs.YtjlmpgbadgkgmaaDoor

/-
  Package round: value.split, by its contract.
-/
namespace Go.Proofs.YtjlmpgbadgkgmaaDoor
open Go Go.RowKit Go.Proofs.YtjlmpgbadgkgmaaDoor.M
set_option linter.unusedSimpArgs false
set_option linter.unusedVariables false

/-- A value that is to be rounded. -/
def valV (ng : Bool) (mag : Nat) (exp : Int) (cut sd : Bool) : Value := .agg #[.bool ng, .int .u64 mag, .int .i64 exp, .bool cut, .bool sd]
theorem ret_ui {a b c d : Int} (h1 : a = c) (h2 : b = d) : Ending.returned (.tuple #[.int .u64 a, .int .i64 b]) = Ending.returned (.tuple #[.int .u64 c, .int .i64 d]) := by rw [h1, h2]
theorem rL_eq {mag k t m : Nat} {cut : Bool} (hk0 : 0 < k) (hm : mag < 18446744073709551616) (ht : mag % 2 ^ k = t) (hmid : (if k ≤ 64 then 2 ^ (k - 1) else 0) = m) : rL mag cut (k : Int) = if t = 0 ∧ cut = false then 0 else if t < m ∨ 64 < k then 1 else if t = m ∧ cut = false then 2 else 3 := by
  unfold rL
  rw [if_neg (by omega), Int.toNat_natCast, ht]
  obtain ⟨p, hp, hp0⟩ := two_half k hk0
  have hp2 : 2 ^ (k - 1) = p := by
    have : 2 ^ k = 2 * 2 ^ (k - 1) := by rw [← Nat.pow_succ', Nat.succ_eq_add_one, Nat.sub_add_cancel hk0]
    omega
  rw [hp]
  by_cases hk : k ≤ 64
  · rw [if_pos hk, hp2] at hmid
    subst hmid
    have e1 : (2 * t < 2 * p) = (t < p ∨ 64 < k) := propext ⟨fun h => .inl (by omega), fun h => by omega⟩
    have e2 : (2 * t = 2 * p ∧ cut = false) = (t = p ∧ cut = false) := propext ⟨fun h => ⟨by omega, h.2⟩, fun h => ⟨by omega, h.2⟩⟩
    simp only [e1, e2]
  · have hlt : 2 * t < 2 * p := by
      have h1 : 2 ^ 65 ≤ 2 ^ k := Nat.pow_le_pow_right (by decide) (by omega)
      have h2 : (2 : Nat) ^ 65 = 36893488147419103232 := by decide
      have h3 := Nat.mod_le mag (2 ^ k)
      omega
    rw [if_pos hlt, if_pos (show t < m ∨ 64 < k from .inr (by omega))]
end Go.Proofs.YtjlmpgbadgkgmaaDoor

/-
  Package round: value.units, by its contract.
-/
namespace Go.Proofs.YtjlmpgbadgkgmaaDoor
open Go Go.RowKit Go.Proofs.YtjlmpgbadgkgmaaDoor.M
set_option linter.unusedSimpArgs false
set_option linter.unusedVariables false

end Go.Proofs.YtjlmpgbadgkgmaaDoor

/-
  What the two layouts of package bits hold, carried over calls; the method split and its kin by contracts: for every pattern, in every world that holds the layouts.
-/
namespace Go.Proofs.YtjlmpgbadgkgmaaDoor
open Go Go.RowKit Go.Proofs.YtjlmpgbadgkgmaaDoor.M
set_option linter.unusedSimpArgs false
set_option linter.unusedVariables false

/-- The cells of the two layouts. -/
structure Lays (w : World) : Prop where
  a0 : w.cell? ⟨0, 0, none⟩ = some (.int .i64 52)
  a1 : w.cell? ⟨0, 1, none⟩ = some (.int .i64 2047)
  a2 : w.cell? ⟨0, 2, none⟩ = some (.int .i64 (-1074))
  b0 : True
  b1 : True
  b2 : True

/-- New blocks alone: read cell by cell, and block by block. -/
structure Gr (W w' : World) : Prop where
  gr : Grown W w'
  be : Below W.heap.size W w'
theorem Gr.refl (W : World) : Gr W W := ⟨Grown.refl _, Below.refl _ _⟩
theorem Gr.alloc {W w' : World} (h : Gr W w') (c : Array Value) (t : TypeId) : Gr W (w'.alloc (.cells c t)) := ⟨h.gr.alloc c t, h.be.alloc h.be.size _⟩
theorem Gr.drew {W w' : World} (h : Gr W w') : Gr W w'.drew := ⟨h.gr.drew, ⟨h.be.os, h.be.tape, h.be.output, h.be.size, h.be.block⟩⟩
theorem gTrans {a b c : World} (h : Gr a b) (k : Gr b c) : Gr a c :=
  ⟨⟨World.keptBut_trans h.gr.1 k.gr.1, fun x => (k.gr.2.1 x).trans (h.gr.2.1 x), Nat.le_trans h.gr.2.2 k.gr.2.2⟩, h.be.trans (k.be.mono h.be.size)⟩
theorem gDrewN {W w' : World} (h : Gr W w') (n : Nat) : Gr W (w'.drewN n) := ⟨h.gr, ⟨h.be.os, h.be.tape, h.be.output, h.be.size, h.be.block⟩⟩
theorem gCell {a b : World} (h : Gr a b) {p : Addr} {v : Value} (hc : a.cell? p = some v) : b.cell? p = some v := by
  unfold World.cell? at hc ⊢
  have hlt : p.block < a.heap.size := by
    by_cases hp : p.block < a.heap.size
    · exact hp
    · rw [Array.getElem?_eq_none (by omega)] at hc; simp at hc
  have k := h.gr.1.2.2 p.block hlt
  cases ha : a.heap[p.block]? with
  | none => rw [ha] at hc; simp at hc
  | some oa =>
    rw [ha] at hc k
    cases oa with
    | cells c t fr =>
      cases hb : b.heap[p.block]? with
      | none => rw [hb] at k; simp at k
      | some ob =>
        rw [hb] at k
        cases ob with
        | cells c' t' fr' =>
          simp only at hc k ⊢
          obtain ⟨_, _, _, kc⟩ := k
          rw [kc p.off (fun f => f)]
          exact hc
        | _ => simp at k
    | _ => simp at hc
theorem Lays.grown {w w' : World} (h : Lays w) (g : Gr w w') : Lays w' :=
  ⟨gCell g h.a0, gCell g h.a1, gCell g h.a2, trivial, trivial, trivial⟩

theorem b_ret_int {k : IntKind} {a b : Int} (h : a = b) : Ending.returned (.int k a) = .returned (.int k b) := by rw [h]

theorem b_ret_bool {a b : Bool} (h : a = b) : Ending.returned (.bool a) = .returned (.bool b) := by rw [h]
theorem ret_bii {a a' : Bool} {b b' c c' : Int} (h : a = a') (k : b = b') (l : c = c') : Ending.returned (.tuple #[.bool a, .int .i64 b, .int .i64 c]) = .returned (.tuple #[.bool a', .int .i64 b', .int .i64 c']) := by rw [h, k, l]
theorem ret_ttt {a a' b b' : Int} {c c' : Bool} (h : a = a') (k : b = b') (l : c = c') : Ending.returned (.tuple #[.int .i64 a, .int .i64 b, .bool c]) = .returned (.tuple #[.int .i64 a', .int .i64 b', .bool c']) := by rw [h, k, l]
theorem ret_ttt4 {n n' : Bool} {a a' b b' : Int} {c c' : Bool} (g : n = n') (h : a = a') (k : b = b') (l : c = c') : Ending.returned (.tuple #[.bool n, .int .i64 a, .int .i64 b, .bool c]) = .returned (.tuple #[.bool n', .int .i64 a', .int .i64 b', .bool c']) := by rw [g, h, k, l]

theorem split64 (b : Int) (w : World) :
    Calls Tryd.prog 23 #[.agg #[.int .i64 52, .int .i64 2047, .int .i64 (-1074)], .int .i64 b] w fun e w' => e = .returned (.tuple #[.int .i64 (fld b), .int .i64 (frc b)]) ∧ ∃ n, w' = (w.alloc (.cells #[.int .i64 52, .int .i64 2047, .int .i64 (-1074)] 32)).drewN n := by
  have h1 : bits .and .i64 (b / 4503599627370496) 2047 = fld b := and_i64_2047 _
  have h2 : bits .and .i64 b 4503599627370495 = frc b := and_i64_m52 _
  go_enter Tryd.func23, Tryd.ntmps23
  go_wp2
  go_quiet (fail)
  go_wp2
  go_ret2
  exact ⟨rfl, _, rfl⟩
theorem split32 (b : Int) (w : World) :
    Calls Tryd.prog 23 #[.agg #[.int .i64 23, .int .i64 255, .int .i64 (-149)], .int .i64 b] w fun e w' => e = .returned (.tuple #[.int .i64 (fld32 b), .int .i64 (frc32 b)]) ∧ ∃ n, w' = (w.alloc (.cells #[.int .i64 23, .int .i64 255, .int .i64 (-149)] 32)).drewN n := by
  have h1 : bits .and .i64 (b / 8388608) 255 = fld32 b := and_i64_255 _
  have h2 : bits .and .i64 b 8388607 = frc32 b := and_i64_m23 _
  go_enter Tryd.func23, Tryd.ntmps23
  go_wp2
  go_quiet (fail)
  go_wp2
  go_ret2
  exact ⟨rfl, _, rfl⟩

theorem class64 (b : Int) (w : World) :
    Calls Tryd.prog 12 #[.agg #[.int .i64 52, .int .i64 2047, .int .i64 (-1074)], .int .i64 b] w fun e w' => e = .returned (.int .i64 (cls b)) ∧ Gr w w' := by
  by_cases h1 : fld b = 2047 <;> by_cases h2 : frc b = 0 <;> by_cases h3 : fld b = 0
  all_goals first
    | (exfalso; omega)
    | (go_enter Tryd.func12, Tryd.ntmps12
       go_wp2_with (go_at_call 23; refine (split64 _ _).mono ?_; rintro e w1 ⟨rfl, n, rfl⟩)
       go_ret
       exact ⟨b_ret_int (by simp [cls, h1, h2, h3]), gDrewN (((Gr.refl _).alloc _ _).alloc _ _) _⟩)
theorem parts64 (b : Int) (w : World) :
    Calls Tryd.prog 32 #[.agg #[.int .i64 52, .int .i64 2047, .int .i64 (-1074)], .int .i64 b] w fun e w' => e = .returned (.tuple #[.int .i64 (pmag b), .int .i64 (pexp b), .bool (pok b)]) ∧ Gr w w' := by
  have hf := fld_le b
  have hr := frc_le b
  by_cases h1 : fld b = 2047
  · go_enter Tryd.func32, Tryd.ntmps32
    go_wp2_with (go_at_call 23; refine (split64 _ _).mono ?_; rintro e w1 ⟨rfl, n, rfl⟩)
    go_ret3
    exact ⟨ret_ttt (by simp [pmag, h1]) (by simp [pexp, h1]) (by simp [pok, h1]), gDrewN (((Gr.refl _).alloc _ _).alloc _ _) _⟩
  · by_cases h2 : fld b = 0
    · go_enter Tryd.func32, Tryd.ntmps32
      go_wp2_with (go_at_call 23; refine (split64 _ _).mono ?_; rintro e w1 ⟨rfl, n, rfl⟩)
      go_quiet (fail)
      go_wp2
      go_ret3
      exact ⟨ret_ttt (by simp [pmag, h1, h2]) (by simp [pexp, h1, h2]) (by simp [pok, h1]), gDrewN (gDrewN (((Gr.refl _).alloc _ _).alloc _ _) _) _⟩
    · go_enter Tryd.func32, Tryd.ntmps32
      go_wp2_with (go_at_call 23; refine (split64 _ _).mono ?_; rintro e w1 ⟨rfl, n, rfl⟩)
      go_quiet (fail)
      go_wp2
      go_ret3
      exact ⟨ret_ttt (by simp [pmag, h1, h2]) (by simp [pexp, h1, h2]; omega) (by simp [pok, h1]), gDrewN (gDrewN (((Gr.refl _).alloc _ _).alloc _ _) _) _⟩
theorem class32 (b : Int) (w : World) (hb : in32 b = true) :
    Calls Tryd.prog 12 #[.agg #[.int .i64 23, .int .i64 255, .int .i64 (-149)], .int .i64 b] w fun e w' => e = .returned (.int .i64 (cls32 b)) ∧ Gr w w' := by
  have hb' := of_decide_eq_true hb
  by_cases h1 : fld32 b = 255 <;> by_cases h2 : frc32 b = 0 <;> by_cases h3 : fld32 b = 0
  all_goals first
    | (exfalso; omega)
    | (go_enter Tryd.func12, Tryd.ntmps12
       go_wp2_with (go_at_call 23; refine (split32 _ _).mono ?_; rintro e w1 ⟨rfl, n, rfl⟩)
       go_ret
       exact ⟨b_ret_int (by simp [cls32, h1, h2, h3, show ¬ (b < 0 ∨ 4294967296 ≤ b) by omega]), gDrewN (((Gr.refl _).alloc _ _).alloc _ _) _⟩)
theorem parts32 (b : Int) (w : World) (hb : in32 b = true) :
    Calls Tryd.prog 32 #[.agg #[.int .i64 23, .int .i64 255, .int .i64 (-149)], .int .i64 b] w fun e w' => e = .returned (.tuple #[.int .i64 (pmag32 b), .int .i64 (pexp32 b), .bool (pok32 b)]) ∧ Gr w w' := by
  have hf := fld32_le b
  have hr := frc32_le b
  by_cases h1 : fld32 b = 255
  · go_enter Tryd.func32, Tryd.ntmps32
    go_wp2_with (go_at_call 23; refine (split32 _ _).mono ?_; rintro e w1 ⟨rfl, n, rfl⟩)
    go_ret3
    exact ⟨ret_ttt (by simp [pmag32, pok32, hb, h1]) (by simp [pexp32, pok32, hb, h1]) (by simp [pok32, hb, h1]), gDrewN (((Gr.refl _).alloc _ _).alloc _ _) _⟩
  · by_cases h2 : fld32 b = 0
    · go_enter Tryd.func32, Tryd.ntmps32
      go_wp2_with (go_at_call 23; refine (split32 _ _).mono ?_; rintro e w1 ⟨rfl, n, rfl⟩)
      go_quiet (fail)
      go_wp2
      go_ret3
      exact ⟨ret_ttt (by simp [pmag32, pok32, hb, h1, h2]) (by simp [pexp32, pok32, hb, h1, h2]) (by simp [pok32, hb, h1]), gDrewN (gDrewN (((Gr.refl _).alloc _ _).alloc _ _) _) _⟩
    · go_enter Tryd.func32, Tryd.ntmps32
      go_wp2_with (go_at_call 23; refine (split32 _ _).mono ?_; rintro e w1 ⟨rfl, n, rfl⟩)
      go_quiet (fail)
      go_wp2
      go_ret3
      exact ⟨ret_ttt (by simp [pmag32, pok32, hb, h1, h2]) (by simp [pexp32, pok32, hb, h1, h2]; omega) (by simp [pok32, hb, h1]), gDrewN (gDrewN (((Gr.refl _).alloc _ _).alloc _ _) _) _⟩
end Go.Proofs.YtjlmpgbadgkgmaaDoor

/-
  The library's math/bits.TrailingZeros64 and Len64, each by a contract: the number of b_trailing zero bits, the number of bits, of every uint64.
-/
namespace Go.Proofs.YtjlmpgbadgkgmaaDoor
open Go Go.RowKit Go.Proofs.YtjlmpgbadgkgmaaDoor.M
set_option linter.unusedSimpArgs false
set_option linter.unusedVariables false

theorem ret_ib {a a' : Int} {c c' : Bool} (h : a = a') (l : c = c') : Ending.returned (.tuple #[.int .i64 a, .bool c]) = .returned (.tuple #[.int .i64 a', .bool c']) := by rw [h, l]

/-- The library's table of b_trailing zeros. -/
def b_Tab (w : World) : Prop := ∀ j, j < 64 → w.cell? ⟨3, j, none⟩ = some (.int .u8 ((Lib.deBruijn64tab.getD j 0 : Nat) : Int))
theorem b_Tab.grown {w w' : World} (h : b_Tab w) (g : Gr w w') : b_Tab w' := fun j hj => gCell g (h j hj)

theorem b_tz_key (x a : Nat) (hx : x < 18446744073709551616) (hx0 : x ≠ 0) (hlow : x &&& (18446744073709551616 - x) = a) :
    IntKind.u64.wrap (bits .and .u64 (x : Int) (IntKind.u64.wrap (-(x : Int))) * 285870213051353865) / 288230376151711744 = ((a * 285870213051353865 % 18446744073709551616 / 288230376151711744 : Nat) : Int) := by
  have e1 : IntKind.u64.wrap (-(x : Int)) = ((18446744073709551616 - x : Nat) : Int) := by rw [IntKind.wrap_u64]; omega
  rw [e1, bits_and_u64_nat x _ hx (by omega), hlow, IntKind.wrap_u64]
  omega
set_option maxHeartbeats 1000000 in
theorem b_tz_core (x k idx : Nat) (w : World) (hx0 : ((x : Int) == 0) = false)
    (key : IntKind.u64.wrap (bits .and .u64 (x : Int) (IntKind.u64.wrap (-(x : Int))) * 285870213051353865) / 288230376151711744 = (idx : Int))
    (hi : idx < 64) (hk : k < 64) (hcell : w.cell? ⟨3, idx, none⟩ = some (.int .u8 k)) :
    Calls Tryd.prog 34 #[.int .u64 x] w fun e w' => e = .returned (.int .i64 k) ∧ w' = w := by
  go_enter Tryd.func34, Tryd.ntmps34
  go_wp2_with (simp only [key])
  go_ret
  exact ⟨rfl, rfl⟩
theorem b_trailing (x : Nat) (hx : x < 18446744073709551616) (h0 : x ≠ 0) (w : World) (hT : b_Tab w) :
    Calls Tryd.prog 34 #[.int .u64 x] w fun e w' => e = .returned (.int .i64 (Lib.ctz 64 x)) ∧ w' = w := by
  obtain ⟨hlow, hk⟩ := Lib.lowest_bit 64 x h0 hx
  obtain ⟨hi, htab⟩ := Lib.deBruijn64_at _ hk
  have hcell := hT _ hi
  rw [htab] at hcell
  exact b_tz_core x _ _ w (by simp; omega) (b_tz_key x _ hx h0 hlow) hi hk hcell
theorem b_len_close (x q : Int) (s : Nat) (h : q.toNat < Lib.len8tab.size) (hq0 : 0 ≤ q) (hq : q ≤ 255) (hs : s ≤ 56) (hb : Lib.bitLen x.toNat = s + Lib.bitLen q.toNat) :
    wrap64 ((s : Int) + wrap64 ((Lib.len8tab[q.toNat]'h).toNat : Int)) = (Lib.bitLen x.toNat : Int) := by
  have e := Lib.len8_of q hq0 hq
  have l := Lib.bitLen_le8' q hq0 hq
  unfold Lib.len8 at e
  rw [getElem?_pos Lib.len8tab q.toNat h] at e
  simp only [Option.getD_some] at e
  rw [e, hb]
  unfold wrap64
  omega
theorem b_len_close0 (x : Int) (h : x.toNat < Lib.len8tab.size) (hq0 : 0 ≤ x) (hq : x ≤ 255) :
    wrap64 (wrap64 ((Lib.len8tab[x.toNat]'h).toNat : Int)) = (Lib.bitLen x.toNat : Int) := by
  have := b_len_close x x 0 h hq0 hq (by omega) (by omega)
  simpa using this
theorem b_len_q (x q : Int) (s : Nat) (h0 : 0 ≤ x) (h1 : x ≤ 18446744073709551615) (hx : ((2 ^ s : Nat) : Int) ≤ x) (e : q = x / ((2 ^ s : Nat) : Int)) : Lib.bitLen x.toNat = s + Lib.bitLen q.toNat := by
  rw [Lib.bitLen_shift s x.toNat (by omega) (by omega), e]
  congr 2
  obtain ⟨n, rfl⟩ := Int.eq_ofNat_of_zero_le h0
  rw [← Int.natCast_ediv, Int.toNat_natCast, Int.toNat_natCast]
set_option maxHeartbeats 4000000 in
set_option maxRecDepth 100000 in
theorem b_len64 (x : Int) (w : World) (h0 : 0 ≤ x) (h1 : x ≤ 18446744073709551615) :
    Calls Tryd.prog 36 #[.int .u64 x] w fun e w' => e = .returned (.int .i64 (Lib.bitLen x.toNat)) ∧ w' = w := by
  have hs : Lib.len8tab.size = 256 := by decide +kernel
  go_enter Tryd.func36, Tryd.ntmps36
  go_wp2
  all_goals go_ret
  · exact ⟨b_ret_int (b_len_close x _ 56 _ (by omega) (by omega) (by omega) (b_len_q x _ 56 h0 h1 (by omega) (by omega))), rfl⟩
  · exact ⟨b_ret_int (b_len_close x _ 48 _ (by omega) (by omega) (by omega) (b_len_q x _ 48 h0 h1 (by omega) (by omega))), rfl⟩
  · exact ⟨b_ret_int (b_len_close x _ 40 _ (by omega) (by omega) (by omega) (b_len_q x _ 40 h0 h1 (by omega) (by omega))), rfl⟩
  · exact ⟨b_ret_int (b_len_close x _ 32 _ (by omega) (by omega) (by omega) (b_len_q x _ 32 h0 h1 (by omega) (by omega))), rfl⟩
  · exact ⟨b_ret_int (b_len_close x _ 24 _ (by omega) (by omega) (by omega) (b_len_q x _ 24 h0 h1 (by omega) (by omega))), rfl⟩
  · exact ⟨b_ret_int (b_len_close x _ 16 _ (by omega) (by omega) (by omega) (b_len_q x _ 16 h0 h1 (by omega) (by omega))), rfl⟩
  · exact ⟨b_ret_int (b_len_close x _ 8 _ (by omega) (by omega) (by omega) (b_len_q x _ 8 h0 h1 (by omega) (by omega))), rfl⟩
  · exact ⟨b_ret_int (b_len_close0 x _ (by omega) (by omega)), rfl⟩
end Go.Proofs.YtjlmpgbadgkgmaaDoor

/-
  Package round: value.float, by its contract.
-/
namespace Go.Proofs.YtjlmpgbadgkgmaaDoor
open Go Go.RowKit Go.Proofs.YtjlmpgbadgkgmaaDoor.M
set_option linter.unusedSimpArgs false
set_option linter.unusedVariables false

set_option maxRecDepth 100000 in
theorem b_len (x : Int) (w : World) (h0 : 0 ≤ x) (h1 : x ≤ 18446744073709551615) : Calls Tryd.prog 22 #[.int .u64 x] w fun e w' => e = .returned (.int .i64 (Lib.bitLen x.toNat)) ∧ w' = w := by
  go_enter Tryd.func22, Tryd.ntmps22
  go_wp2_with (go_at_call 36; refine (b_len64 x _ h0 h1).mono ?_; rintro _ _ ⟨rfl, rfl⟩)
  go_ret
  exact ⟨rfl, rfl⟩
end Go.Proofs.YtjlmpgbadgkgmaaDoor

/-
  Package bits' Join: the method join of both layouts, by contracts.
-/
namespace Go.Proofs.YtjlmpgbadgkgmaaDoor
open Go Go.RowKit Go.Proofs.YtjlmpgbadgkgmaaDoor.M
set_option linter.unusedSimpArgs false
set_option linter.unusedVariables false

theorem keepIt {p : Prop} (h : p) : Hid p := h
theorem trailingI (mag : Int) (h0 : 0 < mag) (h : mag < 9223372036854775808) (w : World) (hT : b_Tab w) :
    Calls Tryd.prog 34 #[.int .u64 mag] w fun e w' => e = .returned (.int .i64 (jz mag)) ∧ w' = w := by
  obtain ⟨n, rfl⟩ := Int.eq_ofNat_of_zero_le (Int.le_of_lt h0)
  exact b_trailing n (by omega) (by omega) w hT
theorem len64J (mag : Int) (w : World) (h0 : 1 ≤ jo mag) (h1 : jo mag ≤ mag) (h : mag < 9223372036854775808) :
    Calls Tryd.prog 36 #[.int .u64 (jo mag)] w fun e w' => e = .returned (.int .i64 (jl mag)) ∧ w' = w :=
  b_len64 (jo mag) w (by omega) (by omega)
/-- What the world holds: the layouts, and the library's table. -/
structure Env (w : World) : Prop where
  lays : Lays w
  tab : b_Tab w
theorem Env.grown {w w' : World} (h : Env w) (g : Gr w w') : Env w' := ⟨h.lays.grown g, h.tab.grown g⟩
end Go.Proofs.YtjlmpgbadgkgmaaDoor

/-
  Plain mathematics of sums, differences, products of digit lists, a digit at a time; of their order. No Go text in sight.
-/
namespace Go.Proofs.YtjlmpgbadgkgmaaDoor.M
open Go
set_option linter.unusedSimpArgs false
set_option linter.unusedVariables false

theorem dig_mul {x y : Int} (hx : 0 ≤ x ∧ x < 1073741824) (hy : 0 ≤ y ∧ y < 1073741824) : 0 ≤ x * y ∧ x * y ≤ 1152921502459363329 := by
  refine ⟨Int.mul_nonneg hx.1 hy.1, ?_⟩
  have h1 : x * y ≤ 1073741823 * y := Int.mul_le_mul_of_nonneg_right (by omega) hy.1
  omega
theorem zero_dig (n : Nat) : Dig (fun _ => 0) n := fun i _ => ⟨Int.le_refl 0, show (0 : Int) < 1073741824 by decide⟩
theorem mod_dig (x : Int) : 0 ≤ x % 1073741824 ∧ x % 1073741824 < 1073741824 := by omega
/-- One digit of a sum (x is what the lists hold there): what is written, what is carried on. -/
theorem sum_step {r : Nat → Int} {k : Nat} {c x V : Int} (h : val r k + c * P k = V) : val (upd r k ((c + x) % 1073741824)) (k + 1) + (c + x) / 1073741824 * P (k + 1) = V + x * P k := by
  rw [val_succ, val_upd_ge r _ (Nat.le_refl k), upd_same, P_succ, carry_step, h]
/-- One digit of a row of a product. -/
theorem mul_step {r r0 b : Nat → Int} {i j : Nat} {c ai : Int} (h : val r (i + j) + c * P (i + j) = val r0 (i + j) + ai * val b j * P i) (hr : r (i + j) = r0 (i + j)) :
    val (upd r (i + j) ((c + (ai * b j + r (i + j))) % 1073741824)) (i + (j + 1)) + (c + (ai * b j + r (i + j))) / 1073741824 * P (i + (j + 1)) = val r0 (i + (j + 1)) + ai * val b (j + 1) * P i := by
  have e := sum_step (x := ai * b j + r (i + j)) h
  rw [← Nat.add_assoc, e, val_succ, val_succ, P_add, hr]
  grind
/-- A row of a product, with what it carries out put on top. -/
theorem mul_row {r r0 b : Nat → Int} {i m : Nat} {c ai A : Int} (h : val r (i + m) + c * P (i + m) = val r0 (i + m) + ai * val b m * P i) (h0 : val r0 (i + m) = A * val b m) :
    val (upd r (i + m) c) (i + 1 + m) = (A + ai * P i) * val b m := by
  rw [show i + 1 + m = i + m + 1 by omega, val_succ, upd_same, val_upd_ge r _ (Nat.le_refl _), h, h0]
  grind
theorem nrm_of_top {d : Nat → Int} {n t : Nat} (hd : Dig d n) (ht : t ≤ n) (htop : Top d t) (hz : ∀ i, t ≤ i → i < n → d i = 0) : Nrm d t ∧ val d t = val d n :=
  ⟨⟨hd.le ht, htop⟩, (val_zeros ht hz).symm⟩
/-- The order of two lists of one length: the highest digits that differ tell it. -/
theorem cmp_top {d e : Nat → Int} {n k : Nat} (hd : Dig d n) (he : Dig e n) (hk : k < n) (hs : ∀ i, k < i → i < n → d i = e i) (hlt : d k < e k) : val d n < val e n := by
  have s1 := val_split d (k + 1) (n - (k + 1))
  have s2 := val_split e (k + 1) (n - (k + 1))
  rw [show k + 1 + (n - (k + 1)) = n by omega] at s1 s2
  have e1 : val (fun i => d (k + 1 + i)) (n - (k + 1)) = val (fun i => e (k + 1 + i)) (n - (k + 1)) := val_congr fun i hi => hs _ (by omega) (by omega)
  rw [s1, s2, e1, val_succ, val_succ]
  have a := val_lt (hd.le (show k ≤ n by omega))
  have b := val_nonneg (he.le (show k ≤ n by omega))
  have c : (d k + 1) * P k ≤ e k * P k := Int.mul_le_mul_of_nonneg_right (by omega) (Int.le_of_lt (P_pos k))
  rw [Int.add_mul] at c
  omega
/-- The order of two numbers, as Go tells it. -/
def ord (a b : Int) : Int := if a < b then -1 else if b < a then 1 else 0
theorem ord_lt {a b : Int} (h : a < b) : ord a b = -1 := by simp [ord, h]
theorem ord_gt {a b : Int} (h : b < a) : ord a b = 1 := by simp [ord, h]; omega
theorem ord_eq {a b : Int} (h : a = b) : ord a b = 0 := by simp [ord, h]
end Go.Proofs.YtjlmpgbadgkgmaaDoor.M

/-
  Package nat: Valid, trim, compare, sum, difference, by contracts: for every list in memory.
-/
namespace Go.Proofs.YtjlmpgbadgkgmaaDoor
open Go Go.RowKit Go.Proofs.YtjlmpgbadgkgmaaDoor.M
set_option linter.unusedSimpArgs false
set_option linter.unusedVariables false

instance (d : Nat → Int) (n : Nat) : Decidable (Dig d n) := by unfold Dig; infer_instance
instance (d : Nat → Int) (n : Nat) : Decidable (Top d n) := by unfold Top; infer_instance
instance (d : Nat → Int) (n : Nat) : Decidable (Nrm d n) := by unfold Nrm; infer_instance
/-- Is it a valid list? -/
def okB (d : Nat → Int) (n : Nat) : Bool := decide (n ≤ 2000 ∧ Nrm d n)
theorem okB_yes {d : Nat → Int} {n : Nat} (h : n ≤ 2000) (k : Nrm d n) : okB d n = true := by simp [okB, h, k]
theorem okB_no {d : Nat → Int} {n : Nat} (h : ¬ (n ≤ 2000 ∧ Nrm d n)) : okB d n = false := by simp only [okB, h, decide_false]
theorem okB_out {d : Nat → Int} {n : Nat} (h : okB d n = true) : n ≤ 2000 ∧ Nrm d n := of_decide_eq_true h
theorem ret_bool {a b : Bool} (h : a = b) : Ending.returned (.bool a) = .returned (.bool b) := by rw [h]
theorem ret_int {k : IntKind} {a b : Int} (h : a = b) : Ending.returned (.int k a) = .returned (.int k b) := by rw [h]
theorem dig_snoc {d : Nat → Int} {k : Nat} (h : Dig d k) (h0 : 0 ≤ d k) (h1 : d k < 1073741824) : Dig d (k + 1) := fun i hi => by
  by_cases e : i = k
  · rw [e]; exact ⟨h0, h1⟩
  · exact h i (by omega)

end Go.Proofs.YtjlmpgbadgkgmaaDoor

/-
  Plain mathematics of the number of bits: the least k with V < 2^k. No Go text in sight.
-/
namespace Go.Proofs.YtjlmpgbadgkgmaaDoor.M
open Go
set_option linter.unusedSimpArgs false
set_option linter.unusedVariables false

/-- The number of bits. -/
def blen (V : Int) : Nat := if V ≤ 0 then 0 else Nat.log2 V.toNat + 1
theorem blen_zero : blen 0 = 0 := by decide
theorem blen_lt (V : Int) : V < 2 ^ blen V := by
  unfold blen
  split
  · show V < 1; omega
  · have h := @Nat.lt_log2_self V.toNat
    have e : ((V.toNat : Nat) : Int) < ((2 ^ (Nat.log2 V.toNat + 1) : Nat) : Int) := Int.ofNat_lt.2 h
    rw [Int.toNat_of_nonneg (by omega)] at e
    simpa using e
theorem blen_pos {V : Int} (h : 0 < V) : 1 ≤ blen V ∧ 2 ^ (blen V - 1) ≤ V := by
  unfold blen
  rw [if_neg (by omega)]
  refine ⟨by omega, ?_⟩
  have h1 := Nat.log2_self_le (n := V.toNat) (by omega)
  have e : ((2 ^ Nat.log2 V.toNat : Nat) : Int) ≤ ((V.toNat : Nat) : Int) := Int.ofNat_le.2 h1
  rw [Int.toNat_of_nonneg (by omega)] at e
  simpa using e
theorem two_lt_iff {j k : Nat} (h : (2 : Int) ^ j < 2 ^ k) : j < k := by
  rcases Nat.lt_or_ge j k with h1 | h1
  · exact h1
  · have := two_le h1; omega
theorem blen_le {V : Int} {k : Nat} (h : V < 2 ^ k) : blen V ≤ k := by
  by_cases h0 : 0 < V
  · obtain ⟨h1, h2⟩ := blen_pos h0
    have := two_lt_iff (show (2 : Int) ^ (blen V - 1) < 2 ^ k by omega)
    omega
  · unfold blen; rw [if_pos (by omega)]; omega
theorem blen_ge {V : Int} {k : Nat} (h : 2 ^ k ≤ V) : k < blen V := by
  have h1 := blen_lt V
  exact two_lt_iff (by omega)
theorem blen_of {V : Int} {k : Nat} (h1 : 2 ^ k ≤ V) (h2 : V < 2 ^ (k + 1)) : blen V = k + 1 := by
  have a := blen_ge h1
  have b := blen_le h2
  omega
theorem bitLen_eq {x : Int} (h0 : 0 ≤ x) (h1 : x < 18446744073709551616) : (Lib.bitLen x.toNat : Int) = blen x := by
  by_cases hx : x = 0
  · subst hx; decide
  · obtain ⟨a, b, c⟩ := Lib.bitLenAux_bounds 64 x.toNat (by omega) (by omega)
    have e : blen x = Lib.bitLen x.toNat := by
      have hb : Lib.bitLen x.toNat = Lib.bitLenAux 64 x.toNat := rfl
      rw [← hb] at a b c
      obtain ⟨k, hk⟩ : ∃ k, Lib.bitLen x.toNat = k + 1 := ⟨Lib.bitLen x.toNat - 1, by omega⟩
      rw [hk] at b c ⊢
      have b' : ((2 ^ k : Nat) : Int) ≤ ((x.toNat : Nat) : Int) := Int.ofNat_le.2 (by simpa using b)
      have c' : ((x.toNat : Nat) : Int) < ((2 ^ (k + 1) : Nat) : Int) := Int.ofNat_lt.2 c
      rw [Int.toNat_of_nonneg h0] at b' c'
      exact blen_of (by simpa using b') (by simpa using c')
    rw [e]
theorem blen_val {d : Nat → Int} {n : Nat} (h : Nrm d (n + 1)) : blen (val d (n + 1)) = 30 * n + blen (d n) := by
  have hd := h.1 n (by omega)
  have ht : d n ≠ 0 := by rcases h.2 with e | e; (· omega); (· simpa using e)
  have hp : 0 < d n := by omega
  obtain ⟨a, b⟩ := blen_pos hp
  have c := blen_lt (d n)
  have v0 := val_nonneg (h.1.le (Nat.le_succ n))
  have v1 := val_lt (h.1.le (Nat.le_succ n))
  have pp := P_pos n
  obtain ⟨k, hk⟩ : ∃ k, blen (d n) = k + 1 := ⟨blen (d n) - 1, by omega⟩
  rw [hk] at b c ⊢
  rw [show 30 * n + (k + 1) = (30 * n + k) + 1 by omega]
  have e1 : (2 : Int) ^ (30 * n + k) = 2 ^ k * P n := by rw [Int.pow_add, P_two, Int.mul_comm]
  have e2 : (2 : Int) ^ (30 * n + k + 1) = 2 ^ (k + 1) * P n := by rw [show 30 * n + k + 1 = 30 * n + (k + 1) by omega, Int.pow_add, P_two, Int.mul_comm]
  have f1 : (2 : Int) ^ k * P n ≤ d n * P n := Int.mul_le_mul_of_nonneg_right (by simpa using b) (by omega)
  have f2 : (d n + 1) * P n ≤ 2 ^ (k + 1) * P n := Int.mul_le_mul_of_nonneg_right (by omega) (by omega)
  rw [Int.add_mul] at f2
  apply blen_of
  · rw [e1, val_succ]; omega
  · rw [e2, val_succ]; omega
end Go.Proofs.YtjlmpgbadgkgmaaDoor.M

/-
  math/bits.Len64 and Len; nat's width, bitLength, Bits, by contracts.
-/
namespace Go.Proofs.YtjlmpgbadgkgmaaDoor
open Go Go.RowKit Go.Proofs.YtjlmpgbadgkgmaaDoor.M
set_option linter.unusedSimpArgs false
set_option linter.unusedVariables false

theorem len_close (x q : Int) (s : Nat) (h : q.toNat < Lib.len8tab.size) (hq0 : 0 ≤ q) (hq : q ≤ 255) (hs : s ≤ 56) (hb : Lib.bitLen x.toNat = s + Lib.bitLen q.toNat) :
    wrap64 ((s : Int) + wrap64 ((Lib.len8tab[q.toNat]'h).toNat : Int)) = (Lib.bitLen x.toNat : Int) := by
  have e := Lib.len8_of q hq0 hq
  have l := Lib.bitLen_le8' q hq0 hq
  unfold Lib.len8 at e
  rw [getElem?_pos Lib.len8tab q.toNat h] at e
  simp only [Option.getD_some] at e
  rw [e, hb]
  unfold wrap64
  omega
theorem len_close0 (x : Int) (h : x.toNat < Lib.len8tab.size) (hq0 : 0 ≤ x) (hq : x ≤ 255) :
    wrap64 (wrap64 ((Lib.len8tab[x.toNat]'h).toNat : Int)) = (Lib.bitLen x.toNat : Int) := by
  have := len_close x x 0 h hq0 hq (by omega) (by omega)
  simpa using this
theorem len_q (x q : Int) (s : Nat) (h0 : 0 ≤ x) (h1 : x ≤ 18446744073709551615) (hx : ((2 ^ s : Nat) : Int) ≤ x) (e : q = x / ((2 ^ s : Nat) : Int)) : Lib.bitLen x.toNat = s + Lib.bitLen q.toNat := by
  rw [Lib.bitLen_shift s x.toNat (by omega) (by omega), e]
  congr 2
  obtain ⟨n, rfl⟩ := Int.eq_ofNat_of_zero_le h0
  rw [← Int.natCast_ediv, Int.toNat_natCast, Int.toNat_natCast]
set_option maxHeartbeats 4000000 in
set_option maxRecDepth 100000 in
theorem len64 (x : Int) (w : World) (h0 : 0 ≤ x) (h1 : x ≤ 18446744073709551615) :
    Calls Tryd.prog 36 #[.int .u64 x] w fun e w' => e = .returned (.int .i64 (Lib.bitLen x.toNat)) ∧ w' = w := by
  have hs : Lib.len8tab.size = 256 := by decide +kernel
  go_enter Tryd.func36, Tryd.ntmps36
  go_wp2
  all_goals go_ret
  · exact ⟨ret_int (len_close x _ 56 _ (by omega) (by omega) (by omega) (len_q x _ 56 h0 h1 (by omega) (by omega))), rfl⟩
  · exact ⟨ret_int (len_close x _ 48 _ (by omega) (by omega) (by omega) (len_q x _ 48 h0 h1 (by omega) (by omega))), rfl⟩
  · exact ⟨ret_int (len_close x _ 40 _ (by omega) (by omega) (by omega) (len_q x _ 40 h0 h1 (by omega) (by omega))), rfl⟩
  · exact ⟨ret_int (len_close x _ 32 _ (by omega) (by omega) (by omega) (len_q x _ 32 h0 h1 (by omega) (by omega))), rfl⟩
  · exact ⟨ret_int (len_close x _ 24 _ (by omega) (by omega) (by omega) (len_q x _ 24 h0 h1 (by omega) (by omega))), rfl⟩
  · exact ⟨ret_int (len_close x _ 16 _ (by omega) (by omega) (by omega) (len_q x _ 16 h0 h1 (by omega) (by omega))), rfl⟩
  · exact ⟨ret_int (len_close x _ 8 _ (by omega) (by omega) (by omega) (len_q x _ 8 h0 h1 (by omega) (by omega))), rfl⟩
  · exact ⟨ret_int (len_close0 x _ (by omega) (by omega)), rfl⟩
theorem len_any (x : Int) (w : World) (h0 : 0 ≤ x) (h1 : x ≤ 18446744073709551615) :
    Calls Tryd.prog 22 #[.int .u64 x] w fun e w' => e = .returned (.int .i64 (blen x)) ∧ w' = w := by
  go_enter Tryd.func22, Tryd.ntmps22
  go_wp2_with (go_at_call 36; refine (len64 _ _ (by omega) (by omega)).mono ?_; rintro e w' ⟨rfl, rfl⟩)
  go_ret
  exact ⟨ret_int (bitLen_eq h0 (by omega)), rfl⟩
end Go.Proofs.YtjlmpgbadgkgmaaDoor
