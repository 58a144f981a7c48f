/-
  Parts of the proof, one behind another.
-/
import Derived.Test.YtfgmhmkbilkfbaaGreatDoorPart1
import Derived.Test.YtfgmhmkbilkfbaaGreatDoorProg
import Derived.WalkKit
import Derived.OwnWalk
import Derived.Below
import Derived.Laws.OwnMore
import Derived.Laws.AppendOwnNone
import Derived.Deep.QuietTactic
import Derived.BigQuiet
import Derived.Tactics
import Derived.Tactics2
import Derived.Defers
import Derived.Recover
import Derived.Laws.Pointers
import Derived.WalkLawsBesides
import Derived.Test.YtfgmhmkbilkfbaaGreatDoorPart2
import Derived.WideLaws
import Derived.Deep.RegionHeld3
import Derived.WalkSmall
import Derived.RowKit3
/-
  Lists of ints in memory: a slice that is read (Row), a block that the call itself has made and writes (Blk), a slice that is answered (Out). Each is carried over what a call leaves behind.
-/
namespace Go.Proofs.YtfgmhmkbilkfbaaGreatDoor
open Go Go.RowKit Go.Proofs.YtfgmhmkbilkfbaaGreatDoor.M
set_option linter.unusedSimpArgs false
set_option linter.unusedVariables false

/-- A slice of n ints that is read: its digits are d's. -/
structure Row (w : World) (ao : Option Addr) (n cap : Nat) (d : Nat → Int) : Prop where
  le : n ≤ cap
  max : cap ≤ 9223372036854775807
  nl : ao = none → cap = 0
  spot : 0 < n → ∃ b off, ao = some ⟨b, off, none⟩ ∧ b < w.heap.size ∧ ∀ i, i < n → w.cell? ⟨b, off + i, none⟩ = some (.int .i64 (d i))

/-- A block of N ints that is the call's own. -/
def Blk (w : World) (g N : Nat) (r : Nat → Int) : Prop :=
  ∃ cur, w.heap[g]? = some (.cells cur 3 (0, 0)) ∧ cur.size = N ∧ ∀ i, i < N → cur[i]? = some (.int .i64 (r i))

/-- The values of n digits. -/
def vals (d : Nat → Int) (n : Nat) : List Value := (List.range n).map fun i => .int .i64 (d i)
theorem vals_length (d : Nat → Int) (n : Nat) : (vals d n).length = n := by simp [vals]
theorem vals_get (d : Nat → Int) {n i : Nat} (h : i < n) : (vals d n)[i]? = some (.int .i64 (d i)) := by simp [vals, h]
theorem vals_one (d : Nat → Int) (n : Nat) : ∀ u ∈ vals d n, u.oneCell' = true := by
  intro u hu
  obtain ⟨_, _, rfl⟩ := List.mem_map.1 hu
  rfl
theorem vals_ext {xs : List Value} {d : Nat → Int} {n : Nat} (hl : xs.length = n) (h : ∀ i, i < n → xs[i]? = some (.int .i64 (d i))) : xs = vals d n := by
  apply List.ext_getElem?
  intro i
  by_cases hi : i < n
  · rw [h i hi, vals_get d hi]
  · rw [List.getElem?_eq_none (by omega), List.getElem?_eq_none (by rw [vals_length]; omega)]
theorem vals_snoc (d : Nat → Int) (n : Nat) (x : Int) : vals d n ++ [.int .i64 x] = vals (upd d n x) (n + 1) := by
  apply vals_ext (by simp [vals_length])
  intro i hi
  by_cases h : i < n
  · rw [List.getElem?_append_left (by rw [vals_length]; exact h), vals_get d h, upd_other d x (by omega)]
  · obtain rfl : i = n := by omega
    rw [List.getElem?_append_right (by rw [vals_length]; omega), vals_length, upd_same]; simp

/-- A slice that is answered: nil, or at the head of a block from B on. -/
def Out (B : Nat) (w : World) (v : Value) (n : Nat) (d : Nat → Int) : Prop := w.ownsRow B 3 1 v n (vals d n)

theorem Row.stays {w w' : World} {ao : Option Addr} {n cap : Nat} {d : Nat → Int} (h : Row w ao n cap d) {B : Nat} (hb : Below B w w') (hB : w.heap.size ≤ B) : Row w' ao n cap d :=
  ⟨h.le, h.max, h.nl, fun hn => by
    obtain ⟨b, off, rfl, hlt, hc⟩ := h.spot hn
    exact ⟨b, off, rfl, Nat.lt_of_lt_of_le hlt hb.size, fun i hi => (hb.cell (p := ⟨b, off + i, none⟩) (Nat.lt_of_lt_of_le hlt hB)).trans (hc i hi)⟩⟩
theorem Row.keeps {w w' : World} {ao : Option Addr} {n cap : Nat} {d : Nat → Int} (h : Row w ao n cap d) (hb : Below w.heap.size w w') : Row w' ao n cap d := h.stays hb (Nat.le_refl _)
theorem Row.congr {w : World} {ao : Option Addr} {n cap : Nat} {d e : Nat → Int} (h : Row w ao n cap d) (he : ∀ i, i < n → d i = e i) : Row w ao n cap e :=
  ⟨h.le, h.max, h.nl, fun hn => by
    obtain ⟨b, off, rfl, hlt, hc⟩ := h.spot hn
    exact ⟨b, off, rfl, hlt, fun i hi => by rw [← he i hi]; exact hc i hi⟩⟩
theorem Row.nil (w : World) (d : Nat → Int) : Row w none 0 0 d := ⟨Nat.le_refl _, by decide, fun _ => rfl, fun h => by omega⟩
theorem Row.alloc {w : World} {ao : Option Addr} {n cap : Nat} {d : Nat → Int} (h : Row w ao n cap d) (o : Obj) : Row (w.alloc o) ao n cap d := h.keeps ((Below.refl _ _).alloc (Nat.le_refl _) _)

theorem Blk.cell {w : World} {g N : Nat} {r : Nat → Int} (h : Blk w g N r) {i : Nat} (hi : i < N) : w.cell? ⟨g, i, none⟩ = some (.int .i64 (r i)) := by
  obtain ⟨cur, hg, hs, hc⟩ := h
  rw [cell_of_row w g i cur _ _ hg]; exact hc i hi
theorem Blk.frozen {w : World} {g N : Nat} {r : Nat → Int} (h : Blk w g N r) (i : Nat) : w.frozen? ⟨g, i, none⟩ = false := by
  obtain ⟨cur, hg, hs, hc⟩ := h
  exact frozen_of_row w g i cur _ hg
theorem Blk.lt {w : World} {g N : Nat} {r : Nat → Int} (h : Blk w g N r) : g < w.heap.size := by
  obtain ⟨cur, hg, hs, hc⟩ := h
  exact (Array.getElem?_eq_some_iff.1 hg).1
theorem Blk.store {w : World} {g N : Nat} {r : Nat → Int} (h : Blk w g N r) (i : Nat) (x : Int) : Blk (w.setCell ⟨g, i, none⟩ (.int .i64 x)) g N (upd r i x) := by
  obtain ⟨cur, hg, hs, hc⟩ := h
  refine ⟨cur.setIfInBounds i (.int .i64 x), heap_setCell_same w g i cur _ _ hg, by simpa using hs, fun j hj => ?_⟩
  by_cases hji : j = i
  · subst hji; rw [upd_same, Array.getElem?_setIfInBounds_self_of_lt (by omega)]
  · rw [upd_other r x hji, Array.getElem?_setIfInBounds_ne (by omega)]; exact hc j hj
theorem Blk.of_block {w w' : World} {g N : Nat} {r : Nat → Int} (h : Blk w g N r) (hb : w'.heap[g]? = w.heap[g]?) : Blk w' g N r := by
  obtain ⟨cur, hg, hs, hc⟩ := h
  exact ⟨cur, hb.trans hg, hs, hc⟩
theorem Blk.stays {w w' : World} {g N : Nat} {r : Nat → Int} (h : Blk w g N r) {B : Nat} (hb : Below B w w') (hB : g < B) : Blk w' g N r := h.of_block (hb.block g hB)
theorem Blk.keeps {w w' : World} {g N : Nat} {r : Nat → Int} (h : Blk w g N r) (hb : Below w.heap.size w w') : Blk w' g N r := h.stays hb h.lt
theorem Blk.apart {w : World} {g N : Nat} {r : Nat → Int} (h : Blk w g N r) {a : Addr} (ha : g ≠ a.block) (u : Value) : Blk (w.setCell a u) g N r := h.of_block (heap_setCell_other w a g u ha)
theorem Blk.alloc {w : World} {g N : Nat} {r : Nat → Int} (h : Blk w g N r) (o : Obj) : Blk (w.alloc o) g N r := h.of_block (Below.heap_alloc w o g h.lt)
theorem Blk.congr {w : World} {g N : Nat} {r s : Nat → Int} (h : Blk w g N r) (he : ∀ i, i < N → r i = s i) : Blk w g N s := by
  obtain ⟨cur, hg, hs, hc⟩ := h
  exact ⟨cur, hg, hs, fun i hi => by rw [hc i hi, he i hi]⟩
theorem Blk.row {w : World} {g N : Nat} {r : Nat → Int} (h : Blk w g N r) {off n cap : Nat} (hn : off + n ≤ N) (hc : n ≤ cap) (hm : cap ≤ 9223372036854775807) : Row w (some ⟨g, off, none⟩) n cap (fun i => r (off + i)) :=
  ⟨hc, hm, (fun e => by cases e), fun _ => ⟨g, off, rfl, h.lt, fun i hi => h.cell (by omega)⟩⟩
theorem Blk.row0 {w : World} {g N : Nat} {r : Nat → Int} (h : Blk w g N r) {n : Nat} (hn : n ≤ N) (hm : N ≤ 9223372036854775807) : Row w (some ⟨g, 0, none⟩) n N r :=
  ⟨hn, hm, (fun e => by cases e), fun _ => ⟨g, 0, rfl, h.lt, fun i hi => by rw [Nat.zero_add]; exact h.cell (by omega)⟩⟩
theorem Blk.out {w : World} {g N : Nat} {r : Nat → Int} (h : Blk w g N r) {B n : Nat} (hB : B ≤ g) (hn : n ≤ N) (hm : N ≤ 9223372036854775807) : Out B w (.slice (some ⟨g, 0, none⟩) n N) n r := by
  obtain ⟨cur, hg, hs, hc⟩ := h
  refine ⟨by rw [vals_length]; omega, .inr ⟨g, N, cur, rfl, hB, hg, hn, by unfold maxLen; omega, by omega, ?_⟩⟩
  apply vals_ext (by simp; omega)
  intro i hi
  rw [List.getElem?_take, if_pos (by omega), Array.getElem?_toList]
  exact hc i (by omega)
theorem Blk.made {w : World} {B g N : Nat} (h : w.ownsRow B 3 1 (.slice (some ⟨g, 0, none⟩) N N) N (madeCells (Value.int .i64 0).cells (N * 1)).toList) : Blk w g N (fun _ => 0) := by
  rcases h.2 with ⟨h', _⟩ | ⟨g', cap', cur, h', _, hg, _, _, hs, htake⟩
  · simp at h'
  · simp only [Value.slice.injEq, Option.some.injEq, Addr.mk.injEq, and_true, true_and] at h'
    obtain ⟨rfl, rfl⟩ := h'
    refine ⟨cur, hg, by omega, fun i hi => ?_⟩
    have e : cur.toList[i]? = (madeCells (Value.int .i64 0).cells (N * 1)).toList[i]? := by
      rw [← htake, List.getElem?_take, if_pos (by omega)]
    rw [Array.getElem?_toList] at e
    rw [e]
    show (madeCells #[Value.int .i64 0] (N * 1)).toList[i]? = _
    rw [Nat.mul_one, toList_madeCells_one]
    simp [hi]
theorem Blk.new (w : World) (xs : Array Value) (r : Nat → Int) (h : ∀ i, i < xs.size → xs[i]? = some (.int .i64 (r i))) : Blk (w.alloc (.cells xs 3)) w.heap.size xs.size r :=
  ⟨xs, heap_alloc_new w _, rfl, h⟩

theorem Out.row {B : Nat} {w : World} {v : Value} {n : Nat} {d : Nat → Int} (h : Out B w v n d) : ∃ ao cap, v = .slice ao n cap ∧ Row w ao n cap d := by
  rcases h.2 with ⟨rfl, rfl⟩ | ⟨g, cap, cur, rfl, hb, hg, hn, hm, hs, ht⟩
  · exact ⟨none, 0, rfl, Row.nil _ _⟩
  · refine ⟨_, cap, rfl, hn, by unfold maxLen at hm; exact hm, (fun e => by cases e), fun _ => ⟨g, 0, rfl, (Array.getElem?_eq_some_iff.1 hg).1, fun i hi => ?_⟩⟩
    rw [Nat.zero_add, cell_of_row w g i cur _ _ hg]
    have e : (cur.toList.take (n * 1))[i]? = (vals d n)[i]? := by rw [ht]
    rw [List.getElem?_take, if_pos (by omega), vals_get d hi, Array.getElem?_toList] at e
    exact e
theorem Out.nil (B : Nat) (w : World) (d : Nat → Int) : Out B w (.slice none 0 0) 0 d := World.ownsRow_nil _ _ _ _
theorem Out.stays {B : Nat} {w w' : World} {v : Value} {n : Nat} {d : Nat → Int} (h : Out B w v n d) (hb : Below w.heap.size w w') : Out B w' v n d := by
  refine ⟨h.1, ?_⟩
  rcases h.2 with hn | ⟨g, cap, cur, rfl, hbb, hg, rest⟩
  · exact .inl hn
  · exact .inr ⟨g, cap, cur, rfl, hbb, (hb.block g (Array.getElem?_eq_some_iff.1 hg).1).trans hg, rest⟩
theorem Out.lower {B B' : Nat} {w : World} {v : Value} {n : Nat} {d : Nat → Int} (h : Out B w v n d) (hB : B' ≤ B) : Out B' w v n d := by
  refine ⟨h.1, ?_⟩
  rcases h.2 with hn | ⟨g, cap, cur, rfl, hbb, rest⟩
  · exact .inl hn
  · exact .inr ⟨g, cap, cur, rfl, by omega, rest⟩
theorem Out.congr {B : Nat} {w : World} {v : Value} {n : Nat} {d e : Nat → Int} (h : Out B w v n d) (he : ∀ i, i < n → d i = e i) : Out B w v n e := by
  unfold Out at h ⊢
  rwa [show vals e n = vals d n from (vals_ext (vals_length d n) fun i hi => by rw [vals_get d hi, he i hi]).symm]
/-- What a Go call hands back: one value of slices. -/
theorem bel_trans {a b c : World} (h : Below a.heap.size a b) (k : Below b.heap.size b c) : Below a.heap.size a c := h.trans (k.mono h.size)
theorem bel_refl (w : World) : Below w.heap.size w w := Below.refl _ _
theorem bDrewN {B : Nat} {a w : World} (h : Below B a w) (n : Nat) : Below B a (w.drewN n) := ⟨h.os, h.tape, h.output, h.size, h.block⟩
/-- A slice cut to its first t; nil where nothing is left. -/
def cutV (ao : Option Addr) (t cap : Nat) : Value := if t = 0 then .slice none 0 0 else .slice ao t cap
theorem Blk.cut {w : World} {g N : Nat} {r : Nat → Int} (h : Blk w g N r) {B t : Nat} (hB : B ≤ g) (ht : t ≤ N) (hm : N ≤ 9223372036854775807) : Out B w (cutV (some ⟨g, 0, none⟩) t N) t r := by
  unfold cutV
  split
  · rename_i h0; subst h0; exact Out.nil _ _ _
  · exact h.out hB ht hm
/-- The list of V, without zeros on top, in memory that is new since w; nothing of w has turned. -/
def Ans (w w' : World) (V : Int) (v : Value) : Prop := ∃ t d, Out w.heap.size w' v t d ∧ Nrm d t ∧ val d t = V ∧ Below w.heap.size w w'
theorem Ans.below {w w' : World} {V : Int} {v : Value} (h : Ans w w' V v) : Below w.heap.size w w' := h.choose_spec.choose_spec.2.2.2
theorem Ans.from {w0 w w' : World} {V : Int} {v : Value} (h : Ans w w' V v) (hb : Below w0.heap.size w0 w) : Ans w0 w' V v := by
  obtain ⟨t, d, h1, h2, h3, h4⟩ := h
  exact ⟨t, d, h1.lower hb.size, h2, h3, bel_trans hb h4⟩
theorem Ans.stays {w w1 w2 : World} {V : Int} {v : Value} (h : Ans w w1 V v) (hb : Below w1.heap.size w1 w2) : Ans w w2 V v := by
  obtain ⟨t, d, h1, h2, h3, h4⟩ := h
  exact ⟨t, d, h1.stays hb, h2, h3, bel_trans h4 hb⟩
theorem Ans.nil {w w' : World} (hb : Below w.heap.size w w') : Ans w w' 0 (.slice none 0 0) := ⟨0, fun _ => 0, Out.nil _ _ _, ⟨fun i hi => by omega, .inl rfl⟩, rfl, hb⟩
/-- A list and an error, of a number that may be too long. -/
def Fit (w w' : World) (V : Int) (v : Value) (er : Int) : Prop := Below w.heap.size w w' ∧ ((V < P 2000 ∧ er = 0 ∧ Ans w w' V v) ∨ (P 2000 ≤ V ∧ er = 2 ∧ v = .slice none 0 0))
theorem info_int : (Tryz.prog.info? 3).map (fun i => (i.zero, i.size, i.bytes)) = some (some (.int .i64 0), 1, 8) := by kernel_rfl
theorem grown_below {w w' : World} (h : w.grownBy w' none) : Below w.heap.size w w' := ⟨h.os, h.tape, h.output, h.size, fun k hk => h.block k hk (by simp)⟩
/-- 'make([]int, n)': a block of the call's own, all nought. -/
theorem wpList_mk {w : World} {ops : Array Oper} {rest : List Oper} {o : Oper} {a : Act} {Q : Exit → Act → World → Prop} (hg : o.guard = none) (l c : Operand) (hop : o.op = Op.makeSlice 25 l c)
    (L C : Int) (n : Nat) (hl : a.eval l = .int .i64 L) (hc : a.eval c = .int .i64 C) (hL : L = (n : Int)) (hC : C = (n : Int)) (hn : n ≤ 1000000)
    (hK : ∀ w', Blk w' w.heap.size n (fun _ => 0) → Below w.heap.size w w' → wpList Tryz.prog ops Q rest (a.put o.dst (.slice (some ⟨w.heap.size, 0, none⟩) n n)) w') :
    wpList Tryz.prog ops Q (o :: rest) a w := by
  obtain ⟨i0, hi, hz0, hz1, hz2⟩ := info_parts info_int
  exact wpList_make_full w hg l c 25 hop w.heap.size 3 i0 (.int .i64 0) 1 Tryz.underlying25 hi hz0 hz1 .i64 .i64 L C n hl hc hL hC (by rw [hz2]; omega) (by unfold maxLen; omega) (Nat.le_refl _)
    fun w' h1 h2 => hK w' (Blk.made h1) (grown_below h2)
/-- A slice of one, of two ints, as the text lays it. -/
theorem row1 (w : World) (x : Int) {g : Nat} (hg : g = w.heap.size) : Row (w.alloc (.cells #[.int .i64 x] 3)) (some ⟨g, 0, none⟩) 1 1 (fun _ => x) := by
  subst hg
  exact (Blk.new w #[.int .i64 x] (fun _ => x) (fun i hi => by simp at hi; subst hi; rfl)).row0 (Nat.le_refl _) (show 1 ≤ 9223372036854775807 by decide)
/-- Two digits. -/
def d2 (x y : Int) : Nat → Int := fun i => if i = 0 then x else y
theorem row2 (w : World) (x y : Int) {g : Nat} (hg : g = w.heap.size) : Row (w.alloc (.cells #[.int .i64 x, .int .i64 y] 3)) (some ⟨g, 0, none⟩) 2 2 (d2 x y) := by
  subst hg
  refine (Blk.new w #[.int .i64 x, .int .i64 y] (d2 x y) (fun i hi => ?_)).row0 (Nat.le_refl _) (show 2 ≤ 9223372036854775807 by decide)
  match i, hi with
  | 0, _ => rfl
  | 1, _ => rfl
/-- One list behind another. -/
def cat (d : Nat → Int) (n : Nat) (e : Nat → Int) : Nat → Int := fun i => if i < n then d i else e (i - n)
theorem vals_cat (d e : Nat → Int) (n m : Nat) : vals d n ++ vals e m = vals (cat d n e) (n + m) := by
  apply vals_ext (by simp [vals_length])
  intro i hi
  by_cases h : i < n
  · rw [List.getElem?_append_left (by rw [vals_length]; exact h), vals_get d h]; simp [cat, h]
  · rw [List.getElem?_append_right (by rw [vals_length]; omega), vals_length, vals_get e (by omega)]; simp [cat, h]
theorem add_none (b off n : Nat) : (⟨b, off, none⟩ : Addr).add n = ⟨b, off + n, none⟩ := by
  unfold Addr.add; split <;> simp_all
/-- 'append(xs, ys...)', xs nil or the call's own, ys whatever. -/
theorem wpList_app {w : World} {ops : Array Oper} {rest : List Oper} {o : Oper} {a : Act} {Q : Exit → Act → World → Prop} (hgd : o.guard = none) (s x : Operand)
    (ho : o.op = .call { callee := .builtin .append, args := #[s, x], argTypes := #[25, 25] }) (B : Nat) (v : Value) (n : Nat) (d : Nat → Int) (hs : a.eval s = v) (hO : Out B w v n d)
    (bo : Option Addr) (m cb : Nat) (e : Nat → Int) (hx : a.eval x = .slice bo m cb) (hR : Row w bo m cb e) (hlen : n + m ≤ 1000000) (hB : B ≤ w.heap.size)
    (h : ∀ v' w', Out B w' v' (n + m) (cat d n e) → w.grownBy w' v.ownBlock → wpList Tryz.prog ops Q rest (a.put o.dst v') w') : wpList Tryz.prog ops Q (o :: rest) a w := by
  obtain ⟨i0, hi, hz0, hz1, hz2⟩ := info_parts info_int
  cases bo with
  | none =>
    have hc := hR.nl rfl
    have hl := hR.le
    subst hc
    obtain rfl : m = 0 := by omega
    refine wpList_append_own_none hgd s x 25 ho B 3 i0 1 Tryz.underlying25 hi v n (vals d n) hs hO hx ?_
    refine h v w ?_ ⟨rfl, rfl, rfl, Nat.le_refl _, fun _ _ _ => rfl⟩
    exact Out.congr hO fun i hi => by simp [cat]; omega
  | some ad =>
    refine wpList_append_own w hgd s x 25 ho B 3 i0 (.int .i64 0) 1 8 Tryz.underlying25 hi hz0 hz1 hz2 rfl (by decide) v n (vals d n) hs hO ad m cb (vals e m) hx (by rw [vals_length]; omega) ?_ (vals_one e m) (by unfold maxLen; omega) (by omega) hB ?_
    · intro j u hu
      have hj : j < m := by have := (List.getElem?_eq_some_iff.1 hu).1; rwa [vals_length] at this
      obtain ⟨b, off, hb, _, hc⟩ := hR.spot (by omega)
      obtain rfl := Option.some.inj hb
      rw [vals_get e hj] at hu
      rw [add_none, hc j hj]; exact hu
    · intro v' w' h1 h2 _
      rw [vals_cat] at h1
      exact h v' w' h1 h2
theorem own_ge {B : Nat} {w : World} {v : Value} {n : Nat} {d : Nat → Int} (h : Out B w v n d) : ∀ k, v.ownBlock = some k → B ≤ k := fun k hk => (World.ownsRow.lt h k hk).1
/-- A number that is read: a list without zeros on top, and its value. -/
def Num (w : World) (v : Value) (V : Int) : Prop := ∃ ao n cap d, v = .slice ao n cap ∧ Row w ao n cap d ∧ Nrm d n ∧ val d n = V
theorem Ans.num {w w' : World} {V : Int} {v : Value} (h : Ans w w' V v) : Num w' v V := by
  obtain ⟨t, d, h1, h2, h3, h4⟩ := h
  obtain ⟨ao, cap, rfl, hR⟩ := h1.row
  exact ⟨ao, t, cap, d, rfl, hR, h2, h3⟩
theorem Num.keeps {w w' : World} {v : Value} {V : Int} (h : Num w v V) (hb : Below w.heap.size w w') : Num w' v V := by
  obtain ⟨ao, n, cap, d, rfl, hR, h2⟩ := h
  exact ⟨ao, n, cap, d, rfl, hR.keeps hb, h2⟩
theorem Num.cast {w : World} {v : Value} {V V' : Int} (h : Num w v V) (e : V = V') : Num w v V' := e ▸ h
theorem Num.shape {w : World} {v : Value} {V : Int} (h : Num w v V) : ∃ ao n cap, v = .slice ao n cap := by
  obtain ⟨ao, n, cap, d, e, _⟩ := h
  exact ⟨ao, n, cap, e⟩
theorem Num.alloc {w : World} {v : Value} {V : Int} (h : Num w v V) (o : Obj) : Num (w.alloc o) v V := h.keeps ((Below.refl _ _).alloc (Nat.le_refl _) _)
theorem num1 (w : World) (x : Int) (h0 : 0 < x) (h1 : x < 1073741824) {g : Nat} (hg : g = w.heap.size) : Num (w.alloc (.cells #[.int .i64 x] 3)) (.slice (some ⟨g, 0, none⟩) 1 1) x :=
  ⟨_, 1, 1, fun _ => x, rfl, row1 w x hg, ⟨fun i _ => by show 0 ≤ x ∧ x < 1073741824; omega, .inr (by show x ≠ 0; omega)⟩, by show 0 + x * 1 = x; omega⟩
theorem num2 (w : World) (x y : Int) (hx : 0 ≤ x ∧ x < 1073741824) (h0 : 0 < y) (h1 : y < 1073741824) {g : Nat} (hg : g = w.heap.size) : Num (w.alloc (.cells #[.int .i64 x, .int .i64 y] 3)) (.slice (some ⟨g, 0, none⟩) 2 2) (x + y * 1073741824) := by
  refine ⟨_, 2, 2, d2 x y, rfl, row2 w x y hg, ⟨fun i hi => ?_, .inr (by show y ≠ 0; omega)⟩, ?_⟩
  · match i, hi with
    | 0, _ => exact hx
    | 1, _ => exact ⟨by show 0 ≤ y; omega, h1⟩
  · show 0 + x * 1 + y * (1 * 1073741824) = _; omega
theorem Num.len {w : World} {ao : Option Addr} {n cap : Nat} {V : Int} (h : Num w (.slice ao n cap) V) {k : Nat} (hV : V < P k) : n ≤ k := by
  obtain ⟨ao', n', cap', d, e, hR, h2, h3⟩ := h
  simp only [Value.slice.injEq] at e
  obtain ⟨rfl, rfl, rfl⟩ := e
  by_cases hk : n ≤ k
  · exact hk
  · have a := val_top h2.1 (by omega) h2.2
    have b := P_le (show k ≤ n - 1 by omega)
    omega
theorem Num.nonneg {w : World} {v : Value} {V : Int} (h : Num w v V) : 0 ≤ V := by
  obtain ⟨ao', n', cap', d, e, hR, h2, rfl⟩ := h
  exact val_nonneg h2.1
theorem Num.zero {w : World} {ao : Option Addr} {n cap : Nat} {V : Int} (h : Num w (.slice ao n cap) V) : V = 0 ↔ n = 0 := by
  obtain ⟨ao', n', cap', d, e, hR, h2, rfl⟩ := h
  simp only [Value.slice.injEq] at e
  obtain ⟨rfl, rfl, rfl⟩ := e
  exact val_zero h2
theorem bel_alloc (w : World) (o : Obj) : Below w.heap.size w (w.alloc o) := (Below.refl _ _).alloc (Nat.le_refl _) _
theorem bel_alloc2 (w : World) (o p : Obj) : Below w.heap.size w ((w.alloc o).alloc p) := (bel_alloc w o).alloc (by simp) _
end Go.Proofs.YtfgmhmkbilkfbaaGreatDoor

/-
  Package dyadic: told, by its contract: what is reckoned out is told; where it gave up, ErrLong.
-/
namespace Go.Proofs.YtfgmhmkbilkfbaaGreatDoor
open Go Go.RowKit Go.Proofs.YtfgmhmkbilkfbaaGreatDoor.M
set_option linter.unusedSimpArgs false
set_option linter.unusedVariables false

theorem blkC {w : World} {g : Nat} {xs : Array Value} {t : TypeId} (h : w.heap[g]? = some (.cells xs t (0, 0))) (i : Nat) {v : Value} (hi : xs[i]? = some v) : w.cell? ⟨g, i, none⟩ = some v := by
  rw [cell_of_row w g i xs _ _ h]; exact hi
theorem blkF {w : World} {g : Nat} {xs : Array Value} {t : TypeId} (h : w.heap[g]? = some (.cells xs t (0, 0))) (i : Nat) : w.frozen? ⟨g, i, none⟩ = false := by
  simp [World.frozen?, h]
theorem heap_a2 (w : World) (a b : Obj) : ((w.alloc a).alloc b).heap[w.heap.size]? = some a := by
  show ((w.heap.push a).push b)[w.heap.size]? = some a
  simp [Array.getElem?_push]
theorem heap_b2 (w : World) (a b : Obj) : ((w.alloc a).alloc b).heap[w.heap.size + 1]? = some b := by
  show ((w.heap.push a).push b)[w.heap.size + 1]? = some b
  rw [Array.getElem?_push, if_pos (by simp)]
theorem size2 (w : World) (a b : Obj) : ((w.alloc a).alloc b).heap.size = w.heap.size + 2 := by
  show ((w.heap.push a).push b).size = _
  simp
theorem Out.set_below {B : Nat} {w : World} {v : Value} {n : Nat} {d : Nat → Int} (h : Out B w v n d) {a : Addr} (ha : a.block < B) (u : Value) : Out B (w.setCell a u) v n d := ownsRow_setCell_below h ha u
/-- A number that is read, in its one form. -/
def DNum (w : World) (v : Value) (V : Int) : Prop := ∃ ng s m e, v = .agg #[.bool ng, s, .int .i64 e] ∧ Dy V ng m e ∧ Num w s m
/-- A number that is answered: its list is new memory. -/
def DAns (w w' : World) (V : Int) (v : Value) : Prop := ∃ ng s m e, v = .agg #[.bool ng, s, .int .i64 e] ∧ Dy V ng m e ∧ Ans w w' m s
/-- The zero number. -/
def zeroV : Value := .agg #[.bool false, .slice none 0 0, .int .i64 0]
theorem DAns.below {w w' : World} {V : Int} {v : Value} (h : DAns w w' V v) : Below w.heap.size w w' := by
  obtain ⟨ng, s, m, e, _, _, h3⟩ := h
  exact h3.below
theorem DAns.num {w w' : World} {V : Int} {v : Value} (h : DAns w w' V v) : DNum w' v V := by
  obtain ⟨ng, s, m, e, h1, h2, h3⟩ := h
  exact ⟨ng, s, m, e, h1, h2, h3.num⟩
theorem DAns.from {w0 w w' : World} {V : Int} {v : Value} (h : DAns w w' V v) (hb : Below w0.heap.size w0 w) : DAns w0 w' V v := by
  obtain ⟨ng, s, m, e, h1, h2, h3⟩ := h
  exact ⟨ng, s, m, e, h1, h2, h3.from hb⟩
theorem DAns.stays {w w1 w2 : World} {V : Int} {v : Value} (h : DAns w w1 V v) (hb : Below w1.heap.size w1 w2) : DAns w w2 V v := by
  obtain ⟨ng, s, m, e, h1, h2, h3⟩ := h
  exact ⟨ng, s, m, e, h1, h2, h3.stays hb⟩
theorem DAns.zero {w w' : World} (hb : Below w.heap.size w w') : DAns w w' 0 zeroV := ⟨_, _, _, _, rfl, Dy.zero, Ans.nil hb⟩
theorem DNum.keeps {w w' : World} {v : Value} {V : Int} (h : DNum w v V) (hb : Below w.heap.size w w') : DNum w' v V := by
  obtain ⟨ng, s, m, e, h1, h2, h3⟩ := h
  exact ⟨ng, s, m, e, h1, h2, h3.keeps hb⟩
theorem DNum.cast {w : World} {v : Value} {V V' : Int} (h : DNum w v V) (e : V = V') : DNum w v V' := e ▸ h
theorem DNum.zero (w : World) : DNum w zeroV 0 := (DAns.zero (bel_refl w)).num
/-- A number, or ErrLong, as the document says. -/
def DFit (w w' : World) (V : Int) (v : Value) (er : Int) : Prop := Below w.heap.size w w' ∧ ((Dok V ∧ er = 0 ∧ DAns w w' V v) ∨ (¬ Dok V ∧ er = 2 ∧ v = zeroV))
theorem if_nil (w : World) : (binOp .eql 20 Value.nilIface Value.nilIface).run Tryz.prog w = .ok (.bool true) w := by kernel_rfl
theorem if_not (w : World) : (binOp .eql 20 (.iface 28 (.int .i64 2)) Value.nilIface).run Tryz.prog w = .ok (.bool false) w := by kernel_rfl
theorem if_long (w : World) : (binOp .eql 20 (.iface 28 (.int .i64 2)) (.iface 28 (.int .i64 2))).run Tryz.prog w = .ok (.bool true) w := by kernel_rfl
theorem catch_panicking (p : Addr) (x : Value) (older : List PanicEntry) (w : World) (hc : w.cell? p = some x) (hz : w.frozen? p = false) :
    CallsD Tryz.prog 76 #[.pointer (some p)] (.panicking ({ v := .iface 28 (.int .i64 2), recovered := false } :: older)) w fun e u' w' =>
      e = .returned (.tuple #[]) ∧ u' = .panicking ({ v := .iface 28 (.int .i64 2), recovered := true } :: older) ∧ w' = w.setCell p (.int .i64 2) := by
  have h1 := if_not
  have h2 := if_long
  refine callsD_of_wpS Tryz.func76 rfl fun c₀ cs hu => ?_
  apply wpS_seq
  apply wpS_region
  simp [wpOpsS, go_sem, recoverD, hu, Tryz.ntmps76, Exit.thenS]
  refine wpS_of_wp ?_
  go_wp2
  simp [bodyPostS, results, Tryz.results76]
theorem catch_idle (p : Addr) (w : World) :
    CallsD Tryz.prog 76 #[.pointer (some p)] .returning w fun e u' w' => e = .returned (.tuple #[]) ∧ u' = .returning ∧ w' = w := by
  have h1 := if_nil
  refine callsD_of_wpS Tryz.func76 rfl fun c₀ cs hu => ?_
  apply wpS_seq
  apply wpS_region
  simp [wpOpsS, go_sem, recoverD, hu, Tryz.ntmps76, Exit.thenS]
  refine wpS_of_wp ?_
  go_wp2
  cases c₀
  simp_all [bodyPostS, results, Tryz.results76]
set_option maxRecDepth 100000 in
set_option maxHeartbeats 1000000 in
theorem told_no (F : Nat) (cap : Array Value) (w : World) (hE : ∀ w, (callFunc F cap).run Tryz.prog w = .ok (.enter F cap) w) (hF : ∀ W, Below w.heap.size w W → Calls Tryz.prog F cap W fun r W' => r = .panicked [{ v := .iface 28 (.int .i64 2), recovered := false }] ∧ Below W.heap.size W W') :
    Calls Tryz.prog 44 #[.func (.func F) #[] cap] w fun r w' => r = .returned (.tuple #[.agg #[.bool false, .slice none 0 0, .int .i64 0], .int .i64 2]) ∧ Below w.heap.size w w' := by
  have hmf : ∀ (fn : Fn) (first cap : Array Value) (w : World), (Instr.makeFunc fn first cap).run Tryz.prog w = .ok (.func fn first cap) w := fun _ _ _ _ => rfl
  go_enter_defers Tryz.func44, Tryz.ntmps44
  go_wp2_with fail
  refine (hF _ (bel_alloc2 _ _ _)).mono ?_
  rintro r W' ⟨rfl, hb⟩
  have q1 := (hb.block (w.heap.size + 1) (by rw [size2]; omega)).trans (heap_b2 _ _ _)
  have q0 := (hb.block w.heap.size (by rw [size2]; omega)).trans (heap_a2 _ _ _)
  have f0 := blkF q1 0
  have k0 := blkC q1 0 rfl
  go_wp2_with fail
  refine leaves_cons (f := 76) (args := #[.pointer (some ⟨w.heap.size + 1, 0, none⟩)]) (by simp) (by simp [go_sem]) ?_
  refine (catch_panicking ⟨w.heap.size + 1, 0, none⟩ _ [] _ k0 f0).mono ?_
  rintro e u' w'' ⟨rfl, rfl, rfl⟩
  have c0 := blkC q0 0 rfl
  have c1 := blkC q0 1 rfl
  have c2 := blkC q0 2 rfl
  simp [Leaves, settle, results, Tryz.results44, go_sem, c0, c1, c2, k0]
  exact ((bel_alloc2 _ _ _).trans (hb.mono (bel_alloc2 _ _ _).size)).setCell (Nat.le_succ _) _
theorem dans_res {w W w3 : World} {V : Int} {v : Value} (hv : DAns W w3 V v) (hb : Below w.heap.size w W) {g : Nat} (h0 : w.heap.size ≤ g) (h1 : g + 1 < W.heap.size) (a b c x : Value) :
    DAns w ((((w3.setCell ⟨g, 0, none⟩ a).setCell ⟨g, 1, none⟩ b).setCell ⟨g, 2, none⟩ c).setCell ⟨g + 1, 0, none⟩ x) V v := by
  obtain ⟨ng, s, m, e, h2, h3, t, d, hO, hN, hV, hB⟩ := hv
  refine ⟨ng, s, m, e, h2, h3, t, d, ?_, hN, hV, ?_⟩
  · exact ((((hO.set_below (a := ⟨g, 0, none⟩) (by show g < _; omega) a).set_below (a := ⟨g, 1, none⟩) (by show g < _; omega) b).set_below (a := ⟨g, 2, none⟩) (by show g < _; omega) c).set_below (a := ⟨g + 1, 0, none⟩) h1 x).lower hb.size
  · exact ((((hb.trans (hB.mono hb.size)).setCell (p := ⟨g, 0, none⟩) h0 a).setCell (p := ⟨g, 1, none⟩) h0 b).setCell (p := ⟨g, 2, none⟩) h0 c).setCell (p := ⟨g + 1, 0, none⟩) (Nat.le_succ_of_le h0) x
set_option maxRecDepth 100000 in
set_option maxHeartbeats 1000000 in
theorem told_yes (F : Nat) (cap : Array Value) (w : World) (V : Int) (hE : ∀ w, (callFunc F cap).run Tryz.prog w = .ok (.enter F cap) w) (hF : ∀ W, Below w.heap.size w W → Calls Tryz.prog F cap W fun r W' => ∃ v, r = .returned v ∧ DAns W W' V v) :
    Calls Tryz.prog 44 #[.func (.func F) #[] cap] w fun r w' => ∃ v, r = .returned (.tuple #[v, .int .i64 0]) ∧ DAns w w' V v := by
  have hmf : ∀ (fn : Fn) (first cap : Array Value) (w : World), (Instr.makeFunc fn first cap).run Tryz.prog w = .ok (.func fn first cap) w := fun _ _ _ _ => rfl
  go_enter_defers Tryz.func44, Tryz.ntmps44
  go_wp2_with fail
  refine (hF _ (bel_alloc2 _ _ _)).mono ?_
  rintro r W' ⟨v, rfl, hD⟩
  have hb := hD.below
  obtain ⟨ng, s, m, e, rfl, hy, hA⟩ := id hD
  obtain ⟨so, sn, sc, rfl⟩ := hA.num.shape
  have q1 := (hb.block (w.heap.size + 1) (by rw [size2]; omega)).trans (heap_b2 _ _ _)
  have q0 := (hb.block w.heap.size (by rw [size2]; omega)).trans (heap_a2 _ _ _)
  have f0 := blkF q1 0
  have k0 := blkC q1 0 rfl
  have c0 := blkC q0 0 rfl
  have c1 := blkC q0 1 rfl
  have c2 := blkC q0 2 rfl
  have z0 := blkF q0 0
  have z1 := blkF q0 1
  have z2 := blkF q0 2
  go_wp2_with fail
  refine leaves_cons (f := 76) (args := #[.pointer (some ⟨w.heap.size + 1, 0, none⟩)]) (by simp) (by simp [go_sem]) ?_
  refine (catch_idle ⟨w.heap.size + 1, 0, none⟩ _).mono ?_
  rintro e u' w'' ⟨rfl, rfl, rfl⟩
  simp [Leaves, settle, results, Tryz.results44, go_sem, c0, c1, c2, k0]
  exact dans_res (g := w.heap.size) hD (bel_alloc2 _ _ _) (Nat.le_refl _) (by rw [size2]; omega) _ _ _ _
end Go.Proofs.YtfgmhmkbilkfbaaGreatDoor

/-
  Package round: the ways, by their contracts.
-/
namespace Go.Proofs.YtfgmhmkbilkfbaaGreatDoor
open Go Go.RowKit Go.Proofs.YtfgmhmkbilkfbaaGreatDoor.M
set_option linter.unusedSimpArgs false
set_option linter.unusedVariables false

theorem raise1 (ng odd : Bool) (left : Int) (w : World) : Calls Tryz.prog 180 #[.bool ng, .bool odd, .int .i64 left] w fun e w' => e = .returned (.bool (rUp 0 ng odd left)) ∧ w' = w := by
  unfold rUp
  rw [if_pos rfl]
  go_enter Tryz.func180, Tryz.ntmps180
  by_cases h3 : left = 3
  · subst h3
    go_wp2
    go_ret
    exact ⟨by simp, rfl⟩
  · by_cases h2 : left = 2
    · subst h2
      go_wp2
      go_ret
      exact ⟨by simp, rfl⟩
    · go_wp2
      go_ret
      exact ⟨by simp [h2, h3], rfl⟩
theorem raise2 (ng odd : Bool) (left : Int) (w : World) : Calls Tryz.prog 181 #[.bool ng, .bool odd, .int .i64 left] w fun e w' => e = .returned (.bool (rUp 1 ng odd left)) ∧ w' = w := by
  unfold rUp
  rw [if_neg (by decide), if_pos rfl]
  go_enter Tryz.func181, Tryz.ntmps181
  by_cases h0 : left = 0
  · subst h0
    go_wp2
    go_ret
    exact ⟨by simp, rfl⟩
  · go_wp2
    go_ret
    exact ⟨by simp [h0], rfl⟩
theorem raise3 (ng odd : Bool) (left : Int) (w : World) : Calls Tryz.prog 182 #[.bool ng, .bool odd, .int .i64 left] w fun e w' => e = .returned (.bool (rUp 2 ng odd left)) ∧ w' = w := by
  unfold rUp
  rw [if_neg (by decide), if_neg (by decide), if_pos rfl]
  go_enter Tryz.func182, Tryz.ntmps182
  by_cases h0 : left = 0
  · subst h0
    go_wp2
    go_ret
    exact ⟨by simp, rfl⟩
  · go_wp2
    go_ret
    exact ⟨by simp [h0], rfl⟩
theorem raise4 (ng odd : Bool) (left : Int) (w : World) : Calls Tryz.prog 183 #[.bool ng, .bool odd, .int .i64 left] w fun e w' => e = .returned (.bool (rUp 3 ng odd left)) ∧ w' = w := by
  unfold rUp
  rw [if_neg (by decide), if_neg (by decide), if_neg (by decide)]
  go_enter Tryz.func183, Tryz.ntmps183
  go_wp2
  go_ret
  exact ⟨rfl, rfl⟩
/-- The function of a way. -/
def wayF (way : Int) : Nat := if way = 0 then 180 else if way = 1 then 181 else if way = 2 then 182 else 183
def wayV (way : Int) : Value := .agg #[.func (.func (wayF way)) #[] #[]]
theorem heap4_alloc (w : World) (a : Obj) {x0 x1 x2 x3 : Value} {t : TypeId} : ((w.alloc a).alloc (.cells #[x0, x1, x2, x3] t)).heap[w.heap.size + 1]? = some (.cells #[x0, x1, x2, x3] t (0, 0)) := heap_b2 w a _
set_option maxRecDepth 100000 in
theorem wayOf_any (way : Int) (w : World) : Calls Tryz.prog 168 #[.int .i64 way] w fun e w' => e = .returned (.tuple #[if 0 ≤ way ∧ way ≤ 3 then wayV way else .agg #[.nilFunc], .bool (decide (0 ≤ way ∧ way ≤ 3))]) ∧ Below w.heap.size w w' := by
  have hmf : ∀ (fn : Fn) (first cap : Array Value) (w : World), (Instr.makeFunc fn first cap).run Tryz.prog w = .ok (.func fn first cap) w := fun _ _ _ _ => rfl
  have hst : ∀ (p : Addr) (F : Nat) (m : Mode) (w : World), (store p (.func (.func F) #[] #[]) m).run Tryz.prog w = stored Tryz.prog w p (.func (.func F) #[] #[]) m := fun p F m w => run_store _ w p _ m rfl
  have hsn : ∀ (p : Addr) (m : Mode) (w : World), (store p .nilFunc m).run Tryz.prog w = stored Tryz.prog w p .nilFunc m := fun p m w => run_store _ w p _ m rfl
  have hb2 := bel_alloc2 w (.cells #[.nilFunc] 167) (.cells #[.nilFunc, .nilFunc, .nilFunc, .nilFunc] 180)
  have q0 := heap_a2 w (.cells #[.nilFunc] 167) (.cells #[.nilFunc, .nilFunc, .nilFunc, .nilFunc] 180)
  have q1 := heap_b2 w (.cells #[.nilFunc] 167) (.cells #[.nilFunc, .nilFunc, .nilFunc, .nilFunc] 180)
  have x0 := blkC q1 0 rfl
  have x1 := blkC q1 1 rfl
  have x2 := blkC q1 2 rfl
  have x3 := blkC q1 3 rfl
  have z0 := blkF q1 0
  have z1 := blkF q1 1
  have z2 := blkF q1 2
  have z3 := blkF q1 3
  have y0 := blkC q0 0 rfl
  have y1 := blkF q0 0
  by_cases h0 : way < 0
  · go_enter Tryz.func168, Tryz.ntmps168
    go_wp2
    refine bodyPost_ret (v := .tuple #[.agg #[.nilFunc], .bool false]) (by simp [results, Tryz.results168, go_sem]) rfl ⟨?_, ?_⟩
    · rfl
    · exact bel_alloc2 _ _ _
  by_cases h4 : 4 ≤ way
  · go_enter Tryz.func168, Tryz.ntmps168
    go_wp2
    refine bodyPost_ret (v := .tuple #[.agg #[.nilFunc], .bool false]) (by simp [results, Tryz.results168, go_sem]) rfl ⟨?_, ?_⟩
    · rfl
    · exact bel_alloc2 _ _ _
  rw [if_pos (by omega), show decide (0 ≤ way ∧ way ≤ 3) = true from decide_eq_true (by omega)]
  have hc : way = 0 ∨ way = 1 ∨ way = 2 ∨ way = 3 := by omega
  rcases hc with rfl | rfl | rfl | rfl
  all_goals
    go_enter Tryz.func168, Tryz.ntmps168
    go_wp2
    refine bodyPost_ret (v := .tuple #[wayV _, .bool true]) (by simp [results, Tryz.results168, go_sem, wayV, wayF]; first | done | rfl) rfl ⟨rfl, ?_⟩
    exact bel_alloc2 _ _ _
end Go.Proofs.YtfgmhmkbilkfbaaGreatDoor

/-
  Package round: value.split, by its contract.
-/
namespace Go.Proofs.YtfgmhmkbilkfbaaGreatDoor
open Go Go.RowKit Go.Proofs.YtfgmhmkbilkfbaaGreatDoor.M
set_option linter.unusedSimpArgs false
set_option linter.unusedVariables false

/-- A value that is to be rounded. -/
def valV (ng : Bool) (mag : Nat) (exp : Int) (cut sd : Bool) : Value := .agg #[.bool ng, .int .u64 mag, .int .i64 exp, .bool cut, .bool sd]
set_option maxRecDepth 100000 in
set_option maxHeartbeats 1000000 in
theorem split_low (ng : Bool) (mag : Nat) (exp unit : Int) (cut sd : Bool) (w : World) (k : Nat) (hk : unit - exp = -(k : Int)) (hk2 : k < 20000000) (hm : mag * 2 ^ k < 18446744073709551616) :
    Calls Tryz.prog 189 #[valV ng mag exp cut sd, .int .i64 unit] w fun e w' => e = .returned (.tuple #[.int .u64 (mag * 2 ^ k : Nat), .int .i64 0]) ∧ Below w.heap.size w w' := by
  have h0 : IntKind.i64.wrap (unit - exp) = -(k : Int) := by rw [wrap_i64_eq]; omega
  unfold valV
  go_enter Tryz.func189, Tryz.ntmps189
  have hw : IntKind.u64.wrap ((mag : Int) * 2 ^ min k 64) = ((mag * 2 ^ k : Nat) : Int) := by
    rw [IntKind.wrap_u64]
    by_cases h : k ≤ 64
    · rw [show min k 64 = k by omega]
      have e : (mag : Int) * 2 ^ k = ((mag * 2 ^ k : Nat) : Int) := by push_cast; rfl
      rw [e]
      omega
    · have hz : mag = 0 := by
        rcases Nat.eq_zero_or_pos mag with h0 | h0
        · exact h0
        · have h1 : 2 ^ 64 ≤ 2 ^ k := Nat.pow_le_pow_right (by decide) (by omega)
          have h2 : 1 * 2 ^ k ≤ mag * 2 ^ k := Nat.mul_le_mul_right _ h0
          have h3 : (2 : Nat) ^ 64 = 18446744073709551616 := by decide
          omega
      subst hz
      simp
  generalize ((mag * 2 ^ k : Nat) : Int) = R at hw ⊢
  go_wp2
  refine bodyPost_ret (v := .tuple #[.int .u64 R, .int .i64 0]) (by simp [results, Tryz.results189, go_sem]) rfl ⟨rfl, bel_alloc _ _⟩
theorem ret_ui {a b c d : Int} (h1 : a = c) (h2 : b = d) : Ending.returned (.tuple #[.int .u64 a, .int .i64 b]) = Ending.returned (.tuple #[.int .u64 c, .int .i64 d]) := by rw [h1, h2]
theorem rL_eq {mag k t m : Nat} {cut : Bool} (hk0 : 0 < k) (hm : mag < 18446744073709551616) (ht : mag % 2 ^ k = t) (hmid : (if k ≤ 64 then 2 ^ (k - 1) else 0) = m) : rL mag cut (k : Int) = if t = 0 ∧ cut = false then 0 else if t < m ∨ 64 < k then 1 else if t = m ∧ cut = false then 2 else 3 := by
  unfold rL
  rw [if_neg (by omega), Int.toNat_natCast, ht]
  obtain ⟨p, hp, hp0⟩ := two_half k hk0
  have hp2 : 2 ^ (k - 1) = p := by
    have : 2 ^ k = 2 * 2 ^ (k - 1) := by rw [← Nat.pow_succ', Nat.succ_eq_add_one, Nat.sub_add_cancel hk0]
    omega
  rw [hp]
  by_cases hk : k ≤ 64
  · rw [if_pos hk, hp2] at hmid
    subst hmid
    have e1 : (2 * t < 2 * p) = (t < p ∨ 64 < k) := propext ⟨fun h => .inl (by omega), fun h => by omega⟩
    have e2 : (2 * t = 2 * p ∧ cut = false) = (t = p ∧ cut = false) := propext ⟨fun h => ⟨by omega, h.2⟩, fun h => ⟨by omega, h.2⟩⟩
    simp only [e1, e2]
  · have hlt : 2 * t < 2 * p := by
      have h1 : 2 ^ 65 ≤ 2 ^ k := Nat.pow_le_pow_right (by decide) (by omega)
      have h2 : (2 : Nat) ^ 65 = 36893488147419103232 := by decide
      have h3 := Nat.mod_le mag (2 ^ k)
      omega
    rw [if_pos hlt, if_pos (show t < m ∨ 64 < k from .inr (by omega))]
set_option maxRecDepth 100000 in
set_option maxHeartbeats 1000000 in
theorem split_high (ng : Bool) (mag : Nat) (exp unit : Int) (cut sd : Bool) (w : World) (k : Nat) (hk : unit - exp = (k : Int)) (hk0 : 0 < k) (hk2 : k < 20000000) (hm : mag < 18446744073709551616) :
    Calls Tryz.prog 189 #[valV ng mag exp cut sd, .int .i64 unit] w fun e w' => e = .returned (.tuple #[.int .u64 (mag / 2 ^ k : Nat), .int .i64 (rL mag cut (k : Int))]) ∧ Below w.heap.size w w' := by
  have h0 : IntKind.i64.wrap (unit - exp) = (k : Int) := by rw [wrap_i64_eq]; omega
  unfold valV
  obtain ⟨u, hu⟩ : ∃ u, mag / 2 ^ k = u := ⟨_, rfl⟩
  obtain ⟨t, ht⟩ : ∃ t, mag % 2 ^ k = t := ⟨_, rfl⟩
  obtain ⟨m, hmid⟩ : ∃ m : Nat, (if k ≤ 64 then 2 ^ (k - 1) else 0) = m := ⟨_, rfl⟩
  have hd := Nat.div_add_mod mag (2 ^ k)
  rw [hu, ht] at hd
  have hpc : ∀ n : Nat, (2 : Int) ^ n = ((2 ^ n : Nat) : Int) := fun n => by simp
  have hbig : 64 < k → u = 0 ∧ mag / 2 ^ 64 = 0 := fun h => by
    have h1 : 2 ^ 64 ≤ 2 ^ k := Nat.pow_le_pow_right (by decide) (by omega)
    have h2 : (2 : Nat) ^ 64 = 18446744073709551616 := by decide
    exact ⟨by rw [← hu]; exact Nat.div_eq_of_lt (by omega), Nat.div_eq_of_lt (by omega)⟩
  have r1 : (mag : Int) / 2 ^ min k 64 = (u : Int) := by
    rw [hpc, ← Int.natCast_ediv]
    by_cases h : k ≤ 64
    · rw [show min k 64 = k by omega, hu]
    · obtain ⟨h1, h2⟩ := hbig (by omega)
      rw [show min k 64 = 64 by omega, h1, h2]
  have r2 : IntKind.u64.wrap ((u : Int) * 2 ^ min k 64) = (u : Int) * 2 ^ k := by
    rw [IntKind.wrap_u64]
    by_cases h : k ≤ 64
    · rw [show min k 64 = k by omega, hpc, ← Int.natCast_mul]
      have : u * 2 ^ k ≤ mag := by rw [Nat.mul_comm]; omega
      omega
    · obtain ⟨h1, _⟩ := hbig (by omega)
      rw [h1]
      simp
  have r3 : IntKind.u64.wrap ((mag : Int) - (u : Int) * 2 ^ k) = (t : Int) := by
    rw [IntKind.wrap_u64, hpc, ← Int.natCast_mul, Nat.mul_comm]
    have : t ≤ mag := by omega
    omega
  have r4 : IntKind.i64.wrap ((k : Int) - 1) = ((k - 1 : Nat) : Int) := by rw [wrap_i64_eq]; omega
  have r5 : IntKind.u64.wrap ((2 : Int) ^ min (k - 1) 64) = (m : Int) := by
    rw [IntKind.wrap_u64, ← hmid]
    by_cases h : k ≤ 64
    · rw [if_pos h, show min (k - 1) 64 = k - 1 by omega, hpc]
      have h1 : 2 ^ (k - 1) ≤ 2 ^ 63 := Nat.pow_le_pow_right (by decide) (by omega)
      have h2 : (2 : Nat) ^ 63 = 9223372036854775808 := by decide
      rw [h2] at h1
      generalize 2 ^ (k - 1) = p at h1 ⊢
      omega
    · rw [if_neg h, show min (k - 1) 64 = 64 by omega]
      decide
  have HRL : Hid (rL mag cut (k : Int) = if t = 0 ∧ cut = false then 0 else if t < m ∨ 64 < k then 1 else if t = m ∧ cut = false then 2 else 3) := rL_eq hk0 hm ht hmid
  rw [hu]
  clear hd hpc hbig hmid ht hu
  have HW : Hid (IntKind.i64.wrap (unit - exp) = (k : Int)) := h0
  have g0 := heap_alloc_new w (.cells #[.bool ng, .int .u64 mag, .int .i64 exp, .bool cut, .bool sd] 157)
  have k1 := blkC g0 1 rfl
  go_enter Tryz.func189, Tryz.ntmps189
  go_wp2
  go_region_held3 (fun W => W.cell? ⟨w.heap.size, 1, none⟩ = some (.int .u64 mag))
    (first | assumption | exact k1)
    (fail)
  all_goals go_wp2
  all_goals go_ret2
  all_goals exact ⟨ret_ui rfl (by rw [HRL.out]; clear HRL; cases cut <;> simp at * <;> (repeat' split) <;> omega), by first | exact (bel_alloc _ _).drew | exact bel_alloc _ _⟩
theorem split_any (ng : Bool) (mag : Nat) (exp unit : Int) (cut sd : Bool) (w : World) (hm : mag < 18446744073709551616) (hu : -5000000 ≤ unit ∧ unit ≤ 5000000) (he : -5000000 ≤ exp ∧ exp ≤ 5000000) (hs : unit - exp ≤ 0 → rU mag (unit - exp) < 18446744073709551616) :
    Calls Tryz.prog 189 #[valV ng mag exp cut sd, .int .i64 unit] w fun e w' => e = .returned (.tuple #[.int .u64 (rU mag (unit - exp) : Nat), .int .i64 (rL mag cut (unit - exp))]) ∧ Below w.heap.size w w' := by
  by_cases h : unit - exp ≤ 0
  · have := hs h
    unfold rU rL at *
    rw [if_pos h] at *
    rw [if_pos h]
    exact split_low ng mag exp unit cut sd w (-(unit - exp)).toNat (by omega) (by omega) this
  · have e : unit - exp = ((unit - exp).toNat : Int) := by omega
    have e1 : rU mag (unit - exp) = mag / 2 ^ (unit - exp).toNat := by unfold rU; rw [if_neg h]
    rw [e1, e]
    exact split_high ng mag exp unit cut sd w (unit - exp).toNat e (by omega) (by omega) hm
end Go.Proofs.YtfgmhmkbilkfbaaGreatDoor

/-
  Package round: value.units, by its contract.
-/
namespace Go.Proofs.YtfgmhmkbilkfbaaGreatDoor
open Go Go.RowKit Go.Proofs.YtfgmhmkbilkfbaaGreatDoor.M
set_option linter.unusedSimpArgs false
set_option linter.unusedVariables false

theorem wraise_any (way : Int) (hw : 0 ≤ way ∧ way ≤ 3) (ng odd : Bool) (left : Int) (w : World) : Calls Tryz.prog (wayF way) #[.bool ng, .bool odd, .int .i64 left] w fun e w' => e = .returned (.bool (rUp way ng odd left)) ∧ w' = w := by
  have hc : way = 0 ∨ way = 1 ∨ way = 2 ∨ way = 3 := by omega
  rcases hc with rfl | rfl | rfl | rfl
  · exact raise1 ng odd left w
  · exact raise2 ng odd left w
  · exact raise3 ng odd left w
  · exact raise4 ng odd left w
theorem wraise_enter (way : Int) (cap : Array Value) (w : World) : (callFunc (wayF way) cap).run Tryz.prog w = .ok (.enter (wayF way) cap) w := by
  unfold wayF
  by_cases h0 : way = 0
  · rw [if_pos h0]; simp [go_sem]
  · rw [if_neg h0]
    by_cases h1 : way = 1
    · rw [if_pos h1]; simp [go_sem]
    · rw [if_neg h1]
      by_cases h2 : way = 2
      · rw [if_pos h2]; simp [go_sem]
      · rw [if_neg h2]; simp [go_sem]
set_option maxRecDepth 100000 in
set_option maxHeartbeats 1000000 in
theorem units_F (F : Nat) (R : Bool → Bool → Int → Bool) (ng : Bool) (mag : Nat) (exp unit : Int) (cut sd : Bool) (u : Nat) (left : Int) (w : World) (hE : ∀ (cap : Array Value) (w : World), (callFunc F cap).run Tryz.prog w = .ok (.enter F cap) w)
    (hF : ∀ ng odd left W, Calls Tryz.prog F #[.bool ng, .bool odd, .int .i64 left] W fun e w' => e = .returned (.bool (R ng odd left)) ∧ w' = W) (hu : u < 18446744073709551615)
    (hS : ∀ W, Calls Tryz.prog 189 #[valV ng mag exp cut sd, .int .i64 unit] W fun e w' => e = .returned (.tuple #[.int .u64 (u : Nat), .int .i64 left]) ∧ Below W.heap.size W w') :
    Calls Tryz.prog 184 #[valV ng mag exp cut sd, .int .i64 unit, .agg #[.func (.func F) #[] #[]]] w fun e w' => e = .returned (.tuple #[.int .u64 (u + (if R ng (decide (u % 2 = 1)) left then 1 else 0) : Nat), .bool (decide (left ≠ 0))]) ∧ Below w.heap.size w w' := by
  unfold valV at *
  have hb2 := bel_alloc2 w (.cells #[.bool ng, .int .u64 mag, .int .i64 exp, .bool cut, .bool sd] 157) (.cells #[.func (.func F) #[] #[]] 167)
  have q0 := heap_a2 w (.cells #[.bool ng, .int .u64 mag, .int .i64 exp, .bool cut, .bool sd] 157) (.cells #[.func (.func F) #[] #[]] 167)
  have q1 := heap_b2 w (.cells #[.bool ng, .int .u64 mag, .int .i64 exp, .bool cut, .bool sd] 157) (.cells #[.func (.func F) #[] #[]] 167)
  obtain ⟨odd, ho⟩ : ∃ odd, decide (u % 2 = 1) = odd := ⟨_, rfl⟩
  have hodd : (bits BinOp.and IntKind.u64 (u : Int) 1 == 1) = odd := by
    rw [and_one_u64 _ (by omega) (by omega), ← ho]
    by_cases h : u % 2 = 1
    · rw [decide_eq_true h]; simp; omega
    · rw [decide_eq_false h]; simp; omega
  rw [ho]
  clear ho
  have hw1 : IntKind.u64.wrap ((u : Int) + 1) = ((u + 1 : Nat) : Int) := by rw [IntKind.wrap_u64]; omega
  go_enter Tryz.func184, Tryz.ntmps184
  go_wp2_with fail
  refine (hS _).mono ?_
  rintro _ w1 ⟨rfl, hb1⟩
  have hbw := bel_trans hb2 hb1
  have p0 := (hb1.block _ (Array.getElem?_eq_some_iff.1 q0).1).trans q0
  have p1 := (hb1.block _ (Array.getElem?_eq_some_iff.1 q1).1).trans q1
  have k0 := blkC p0 0 rfl
  have k1 := blkC p1 0 rfl
  clear hS q0 q1 hb1 hb2
  go_wp2_with fail
  refine (hF ng odd left _).mono ?_
  rintro _ _ ⟨rfl, rfl⟩
  cases hR : R ng odd left
  · have HR : Hid (R ng odd left = false) := hR
    by_cases hl : left = 0
    · go_wp2
      all_goals go_ret2
      all_goals exact ⟨by simp_all, hbw⟩
    · go_wp2
      all_goals go_ret2
      all_goals exact ⟨by simp_all, hbw⟩
  · have HR : Hid (R ng odd left = true) := hR
    by_cases hl : left = 0
    · go_wp2
      all_goals go_ret2
      all_goals exact ⟨by simp_all, hbw⟩
    · go_wp2
      all_goals go_ret2
      all_goals exact ⟨by simp_all, hbw⟩
theorem units_any (way : Int) (hw : 0 ≤ way ∧ way ≤ 3) (ng : Bool) (mag : Nat) (exp unit : Int) (cut sd : Bool) (w : World) (hm : mag < 18446744073709551616) (hu : -5000000 ≤ unit ∧ unit ≤ 5000000) (he : -5000000 ≤ exp ∧ exp ≤ 5000000) (hs : rU mag (unit - exp) < 18446744073709551615) :
    Calls Tryz.prog 184 #[valV ng mag exp cut sd, .int .i64 unit, wayV way] w fun e w' => e = .returned (.tuple #[.int .u64 (rU mag (unit - exp) + (if rUp way ng (decide (rU mag (unit - exp) % 2 = 1)) (rL mag cut (unit - exp)) then 1 else 0) : Nat), .bool (decide (rL mag cut (unit - exp) ≠ 0))]) ∧ Below w.heap.size w w' :=
  units_F (wayF way) (rUp way) ng mag exp unit cut sd _ _ w (wraise_enter way) (wraise_any way hw) hs (fun W => split_any ng mag exp unit cut sd W hm hu he (fun _ => by omega))
end Go.Proofs.YtfgmhmkbilkfbaaGreatDoor

/-
  What the two layouts of package bits hold, carried over calls; the method split and its kin by contracts: for every pattern, in every world that holds the layouts.
-/
namespace Go.Proofs.YtfgmhmkbilkfbaaGreatDoor
open Go Go.RowKit Go.Proofs.YtfgmhmkbilkfbaaGreatDoor.M
set_option linter.unusedSimpArgs false
set_option linter.unusedVariables false

/-- The cells of the two layouts. -/
structure Lays (w : World) : Prop where
  a0 : w.cell? ⟨1, 0, none⟩ = some (.int .i64 52)
  a1 : w.cell? ⟨1, 1, none⟩ = some (.int .i64 2047)
  a2 : w.cell? ⟨1, 2, none⟩ = some (.int .i64 (-1074))
  b0 : True
  b1 : True
  b2 : True

/-- New blocks alone: read cell by cell, and block by block. -/
structure Gr (W w' : World) : Prop where
  gr : Grown W w'
  be : Below W.heap.size W w'
theorem Gr.refl (W : World) : Gr W W := ⟨Grown.refl _, Below.refl _ _⟩
theorem Gr.alloc {W w' : World} (h : Gr W w') (c : Array Value) (t : TypeId) : Gr W (w'.alloc (.cells c t)) := ⟨h.gr.alloc c t, h.be.alloc h.be.size _⟩
theorem Gr.drew {W w' : World} (h : Gr W w') : Gr W w'.drew := ⟨h.gr.drew, ⟨h.be.os, h.be.tape, h.be.output, h.be.size, h.be.block⟩⟩
theorem gTrans {a b c : World} (h : Gr a b) (k : Gr b c) : Gr a c :=
  ⟨⟨World.keptBut_trans h.gr.1 k.gr.1, fun x => (k.gr.2.1 x).trans (h.gr.2.1 x), Nat.le_trans h.gr.2.2 k.gr.2.2⟩, h.be.trans (k.be.mono h.be.size)⟩
theorem gDrewN {W w' : World} (h : Gr W w') (n : Nat) : Gr W (w'.drewN n) := ⟨h.gr, ⟨h.be.os, h.be.tape, h.be.output, h.be.size, h.be.block⟩⟩
theorem gCell {a b : World} (h : Gr a b) {p : Addr} {v : Value} (hc : a.cell? p = some v) : b.cell? p = some v := by
  unfold World.cell? at hc ⊢
  have hlt : p.block < a.heap.size := by
    by_cases hp : p.block < a.heap.size
    · exact hp
    · rw [Array.getElem?_eq_none (by omega)] at hc; simp at hc
  have k := h.gr.1.2.2 p.block hlt
  cases ha : a.heap[p.block]? with
  | none => rw [ha] at hc; simp at hc
  | some oa =>
    rw [ha] at hc k
    cases oa with
    | cells c t fr =>
      cases hb : b.heap[p.block]? with
      | none => rw [hb] at k; simp at k
      | some ob =>
        rw [hb] at k
        cases ob with
        | cells c' t' fr' =>
          simp only at hc k ⊢
          obtain ⟨_, _, _, kc⟩ := k
          rw [kc p.off (fun f => f)]
          exact hc
        | _ => simp at k
    | _ => simp at hc
theorem Lays.grown {w w' : World} (h : Lays w) (g : Gr w w') : Lays w' :=
  ⟨gCell g h.a0, gCell g h.a1, gCell g h.a2, trivial, trivial, trivial⟩

theorem b_ret_int {k : IntKind} {a b : Int} (h : a = b) : Ending.returned (.int k a) = .returned (.int k b) := by rw [h]

theorem b_ret_bool {a b : Bool} (h : a = b) : Ending.returned (.bool a) = .returned (.bool b) := by rw [h]
theorem ret_bii {a a' : Bool} {b b' c c' : Int} (h : a = a') (k : b = b') (l : c = c') : Ending.returned (.tuple #[.bool a, .int .i64 b, .int .i64 c]) = .returned (.tuple #[.bool a', .int .i64 b', .int .i64 c']) := by rw [h, k, l]
theorem ret_ttt {a a' b b' : Int} {c c' : Bool} (h : a = a') (k : b = b') (l : c = c') : Ending.returned (.tuple #[.int .i64 a, .int .i64 b, .bool c]) = .returned (.tuple #[.int .i64 a', .int .i64 b', .bool c']) := by rw [h, k, l]
theorem ret_ttt4 {n n' : Bool} {a a' b b' : Int} {c c' : Bool} (g : n = n') (h : a = a') (k : b = b') (l : c = c') : Ending.returned (.tuple #[.bool n, .int .i64 a, .int .i64 b, .bool c]) = .returned (.tuple #[.bool n', .int .i64 a', .int .i64 b', .bool c']) := by rw [g, h, k, l]

theorem split64 (b : Int) (w : World) :
    Calls Tryz.prog 142 #[.agg #[.int .i64 52, .int .i64 2047, .int .i64 (-1074)], .int .i64 b] w fun e w' => e = .returned (.tuple #[.int .i64 (fld b), .int .i64 (frc b)]) ∧ ∃ n, w' = (w.alloc (.cells #[.int .i64 52, .int .i64 2047, .int .i64 (-1074)] 130)).drewN n := by
  have h1 : bits .and .i64 (b / 4503599627370496) 2047 = fld b := and_i64_2047 _
  have h2 : bits .and .i64 b 4503599627370495 = frc b := and_i64_m52 _
  go_enter Tryz.func142, Tryz.ntmps142
  go_wp2
  go_quiet (fail)
  go_wp2
  go_ret2
  exact ⟨rfl, _, rfl⟩
theorem split32 (b : Int) (w : World) :
    Calls Tryz.prog 142 #[.agg #[.int .i64 23, .int .i64 255, .int .i64 (-149)], .int .i64 b] w fun e w' => e = .returned (.tuple #[.int .i64 (fld32 b), .int .i64 (frc32 b)]) ∧ ∃ n, w' = (w.alloc (.cells #[.int .i64 23, .int .i64 255, .int .i64 (-149)] 130)).drewN n := by
  have h1 : bits .and .i64 (b / 8388608) 255 = fld32 b := and_i64_255 _
  have h2 : bits .and .i64 b 8388607 = frc32 b := and_i64_m23 _
  go_enter Tryz.func142, Tryz.ntmps142
  go_wp2
  go_quiet (fail)
  go_wp2
  go_ret2
  exact ⟨rfl, _, rfl⟩

theorem class64 (b : Int) (w : World) :
    Calls Tryz.prog 164 #[.agg #[.int .i64 52, .int .i64 2047, .int .i64 (-1074)], .int .i64 b] w fun e w' => e = .returned (.int .i64 (cls b)) ∧ Gr w w' := by
  by_cases h1 : fld b = 2047 <;> by_cases h2 : frc b = 0 <;> by_cases h3 : fld b = 0
  all_goals first
    | (exfalso; omega)
    | (go_enter Tryz.func164, Tryz.ntmps164
       go_wp2_with (go_at_call 142; refine (split64 _ _).mono ?_; rintro e w1 ⟨rfl, n, rfl⟩)
       go_ret
       exact ⟨b_ret_int (by simp [cls, h1, h2, h3]), gDrewN (((Gr.refl _).alloc _ _).alloc _ _) _⟩)
theorem parts64 (b : Int) (w : World) :
    Calls Tryz.prog 114 #[.agg #[.int .i64 52, .int .i64 2047, .int .i64 (-1074)], .int .i64 b] w fun e w' => e = .returned (.tuple #[.int .i64 (pmag b), .int .i64 (pexp b), .bool (pok b)]) ∧ Gr w w' := by
  have hf := fld_le b
  have hr := frc_le b
  by_cases h1 : fld b = 2047
  · go_enter Tryz.func114, Tryz.ntmps114
    go_wp2_with (go_at_call 142; refine (split64 _ _).mono ?_; rintro e w1 ⟨rfl, n, rfl⟩)
    go_ret3
    exact ⟨ret_ttt (by simp [pmag, h1]) (by simp [pexp, h1]) (by simp [pok, h1]), gDrewN (((Gr.refl _).alloc _ _).alloc _ _) _⟩
  · by_cases h2 : fld b = 0
    · go_enter Tryz.func114, Tryz.ntmps114
      go_wp2_with (go_at_call 142; refine (split64 _ _).mono ?_; rintro e w1 ⟨rfl, n, rfl⟩)
      go_quiet (fail)
      go_wp2
      go_ret3
      exact ⟨ret_ttt (by simp [pmag, h1, h2]) (by simp [pexp, h1, h2]) (by simp [pok, h1]), gDrewN (gDrewN (((Gr.refl _).alloc _ _).alloc _ _) _) _⟩
    · go_enter Tryz.func114, Tryz.ntmps114
      go_wp2_with (go_at_call 142; refine (split64 _ _).mono ?_; rintro e w1 ⟨rfl, n, rfl⟩)
      go_quiet (fail)
      go_wp2
      go_ret3
      exact ⟨ret_ttt (by simp [pmag, h1, h2]) (by simp [pexp, h1, h2]; omega) (by simp [pok, h1]), gDrewN (gDrewN (((Gr.refl _).alloc _ _).alloc _ _) _) _⟩
theorem class32 (b : Int) (w : World) (hb : in32 b = true) :
    Calls Tryz.prog 164 #[.agg #[.int .i64 23, .int .i64 255, .int .i64 (-149)], .int .i64 b] w fun e w' => e = .returned (.int .i64 (cls32 b)) ∧ Gr w w' := by
  have hb' := of_decide_eq_true hb
  by_cases h1 : fld32 b = 255 <;> by_cases h2 : frc32 b = 0 <;> by_cases h3 : fld32 b = 0
  all_goals first
    | (exfalso; omega)
    | (go_enter Tryz.func164, Tryz.ntmps164
       go_wp2_with (go_at_call 142; refine (split32 _ _).mono ?_; rintro e w1 ⟨rfl, n, rfl⟩)
       go_ret
       exact ⟨b_ret_int (by simp [cls32, h1, h2, h3, show ¬ (b < 0 ∨ 4294967296 ≤ b) by omega]), gDrewN (((Gr.refl _).alloc _ _).alloc _ _) _⟩)
theorem parts32 (b : Int) (w : World) (hb : in32 b = true) :
    Calls Tryz.prog 114 #[.agg #[.int .i64 23, .int .i64 255, .int .i64 (-149)], .int .i64 b] w fun e w' => e = .returned (.tuple #[.int .i64 (pmag32 b), .int .i64 (pexp32 b), .bool (pok32 b)]) ∧ Gr w w' := by
  have hf := fld32_le b
  have hr := frc32_le b
  by_cases h1 : fld32 b = 255
  · go_enter Tryz.func114, Tryz.ntmps114
    go_wp2_with (go_at_call 142; refine (split32 _ _).mono ?_; rintro e w1 ⟨rfl, n, rfl⟩)
    go_ret3
    exact ⟨ret_ttt (by simp [pmag32, pok32, hb, h1]) (by simp [pexp32, pok32, hb, h1]) (by simp [pok32, hb, h1]), gDrewN (((Gr.refl _).alloc _ _).alloc _ _) _⟩
  · by_cases h2 : fld32 b = 0
    · go_enter Tryz.func114, Tryz.ntmps114
      go_wp2_with (go_at_call 142; refine (split32 _ _).mono ?_; rintro e w1 ⟨rfl, n, rfl⟩)
      go_quiet (fail)
      go_wp2
      go_ret3
      exact ⟨ret_ttt (by simp [pmag32, pok32, hb, h1, h2]) (by simp [pexp32, pok32, hb, h1, h2]) (by simp [pok32, hb, h1]), gDrewN (gDrewN (((Gr.refl _).alloc _ _).alloc _ _) _) _⟩
    · go_enter Tryz.func114, Tryz.ntmps114
      go_wp2_with (go_at_call 142; refine (split32 _ _).mono ?_; rintro e w1 ⟨rfl, n, rfl⟩)
      go_quiet (fail)
      go_wp2
      go_ret3
      exact ⟨ret_ttt (by simp [pmag32, pok32, hb, h1, h2]) (by simp [pexp32, pok32, hb, h1, h2]; omega) (by simp [pok32, hb, h1]), gDrewN (gDrewN (((Gr.refl _).alloc _ _).alloc _ _) _) _⟩
end Go.Proofs.YtfgmhmkbilkfbaaGreatDoor
