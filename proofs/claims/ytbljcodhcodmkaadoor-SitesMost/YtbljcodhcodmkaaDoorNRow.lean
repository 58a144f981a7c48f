/-
  Lists of ints in memory: a slice that is read (Row), a block that the call itself has made and writes (Blk), a slice that is answered (Out). Each is carried over what a call leaves behind.
-/
import Derived.Test.YtbljcodhcodmkaaDoorNV
import Derived.Test.YtbljcodhcodmkaaDoorProg
import Derived.WalkKit
import Derived.OwnWalk
import Derived.Below
import Derived.Laws.OwnMore
import Derived.Laws.AppendOwnNone
import Derived.Deep.QuietTactic
import Derived.BigQuiet
namespace Go.Proofs.YtbljcodhcodmkaaDoor
open Go Go.RowKit Go.Proofs.YtbljcodhcodmkaaDoor.M
set_option linter.unusedSimpArgs false
set_option linter.unusedVariables false

/-- A slice of n ints that is read: its digits are d's. -/
structure Row (w : World) (ao : Option Addr) (n cap : Nat) (d : Nat → Int) : Prop where
  le : n ≤ cap
  max : cap ≤ 9223372036854775807
  nl : ao = none → cap = 0
  spot : 0 < n → ∃ b off, ao = some ⟨b, off, none⟩ ∧ b < w.heap.size ∧ ∀ i, i < n → w.cell? ⟨b, off + i, none⟩ = some (.int .i64 (d i))

/-- A block of N ints that is the call's own. -/
def Blk (w : World) (g N : Nat) (r : Nat → Int) : Prop :=
  ∃ cur, w.heap[g]? = some (.cells cur 3 (0, 0)) ∧ cur.size = N ∧ ∀ i, i < N → cur[i]? = some (.int .i64 (r i))

/-- The values of n digits. -/
def vals (d : Nat → Int) (n : Nat) : List Value := (List.range n).map fun i => .int .i64 (d i)
theorem vals_length (d : Nat → Int) (n : Nat) : (vals d n).length = n := by simp [vals]
theorem vals_get (d : Nat → Int) {n i : Nat} (h : i < n) : (vals d n)[i]? = some (.int .i64 (d i)) := by simp [vals, h]
theorem vals_ext {xs : List Value} {d : Nat → Int} {n : Nat} (hl : xs.length = n) (h : ∀ i, i < n → xs[i]? = some (.int .i64 (d i))) : xs = vals d n := by
  apply List.ext_getElem?
  intro i
  by_cases hi : i < n
  · rw [h i hi, vals_get d hi]
  · rw [List.getElem?_eq_none (by omega), List.getElem?_eq_none (by rw [vals_length]; omega)]
/-- A slice that is answered: nil, or at the head of a block from B on. -/
def Out (B : Nat) (w : World) (v : Value) (n : Nat) (d : Nat → Int) : Prop := w.ownsRow B 3 1 v n (vals d n)

theorem Row.stays {w w' : World} {ao : Option Addr} {n cap : Nat} {d : Nat → Int} (h : Row w ao n cap d) {B : Nat} (hb : Below B w w') (hB : w.heap.size ≤ B) : Row w' ao n cap d :=
  ⟨h.le, h.max, h.nl, fun hn => by
    obtain ⟨b, off, rfl, hlt, hc⟩ := h.spot hn
    exact ⟨b, off, rfl, Nat.lt_of_lt_of_le hlt hb.size, fun i hi => (hb.cell (p := ⟨b, off + i, none⟩) (Nat.lt_of_lt_of_le hlt hB)).trans (hc i hi)⟩⟩
theorem Row.keeps {w w' : World} {ao : Option Addr} {n cap : Nat} {d : Nat → Int} (h : Row w ao n cap d) (hb : Below w.heap.size w w') : Row w' ao n cap d := h.stays hb (Nat.le_refl _)
theorem Row.congr {w : World} {ao : Option Addr} {n cap : Nat} {d e : Nat → Int} (h : Row w ao n cap d) (he : ∀ i, i < n → d i = e i) : Row w ao n cap e :=
  ⟨h.le, h.max, h.nl, fun hn => by
    obtain ⟨b, off, rfl, hlt, hc⟩ := h.spot hn
    exact ⟨b, off, rfl, hlt, fun i hi => by rw [← he i hi]; exact hc i hi⟩⟩
theorem Row.nil (w : World) (d : Nat → Int) : Row w none 0 0 d := ⟨Nat.le_refl _, by decide, fun _ => rfl, fun h => by omega⟩
theorem Row.alloc {w : World} {ao : Option Addr} {n cap : Nat} {d : Nat → Int} (h : Row w ao n cap d) (o : Obj) : Row (w.alloc o) ao n cap d := h.keeps ((Below.refl _ _).alloc (Nat.le_refl _) _)

theorem Blk.cell {w : World} {g N : Nat} {r : Nat → Int} (h : Blk w g N r) {i : Nat} (hi : i < N) : w.cell? ⟨g, i, none⟩ = some (.int .i64 (r i)) := by
  obtain ⟨cur, hg, hs, hc⟩ := h
  rw [cell_of_row w g i cur _ _ hg]; exact hc i hi
theorem Blk.lt {w : World} {g N : Nat} {r : Nat → Int} (h : Blk w g N r) : g < w.heap.size := by
  obtain ⟨cur, hg, hs, hc⟩ := h
  exact (Array.getElem?_eq_some_iff.1 hg).1
theorem Blk.store {w : World} {g N : Nat} {r : Nat → Int} (h : Blk w g N r) (i : Nat) (x : Int) : Blk (w.setCell ⟨g, i, none⟩ (.int .i64 x)) g N (upd r i x) := by
  obtain ⟨cur, hg, hs, hc⟩ := h
  refine ⟨cur.setIfInBounds i (.int .i64 x), heap_setCell_same w g i cur _ _ hg, by simpa using hs, fun j hj => ?_⟩
  by_cases hji : j = i
  · subst hji; rw [upd_same, Array.getElem?_setIfInBounds_self_of_lt (by omega)]
  · rw [upd_other r x hji, Array.getElem?_setIfInBounds_ne (by omega)]; exact hc j hj
theorem Blk.of_block {w w' : World} {g N : Nat} {r : Nat → Int} (h : Blk w g N r) (hb : w'.heap[g]? = w.heap[g]?) : Blk w' g N r := by
  obtain ⟨cur, hg, hs, hc⟩ := h
  exact ⟨cur, hb.trans hg, hs, hc⟩
theorem Blk.stays {w w' : World} {g N : Nat} {r : Nat → Int} (h : Blk w g N r) {B : Nat} (hb : Below B w w') (hB : g < B) : Blk w' g N r := h.of_block (hb.block g hB)
theorem Blk.keeps {w w' : World} {g N : Nat} {r : Nat → Int} (h : Blk w g N r) (hb : Below w.heap.size w w') : Blk w' g N r := h.stays hb h.lt
theorem Blk.apart {w : World} {g N : Nat} {r : Nat → Int} (h : Blk w g N r) {a : Addr} (ha : g ≠ a.block) (u : Value) : Blk (w.setCell a u) g N r := h.of_block (heap_setCell_other w a g u ha)
theorem Blk.alloc {w : World} {g N : Nat} {r : Nat → Int} (h : Blk w g N r) (o : Obj) : Blk (w.alloc o) g N r := h.of_block (Below.heap_alloc w o g h.lt)
theorem Blk.congr {w : World} {g N : Nat} {r s : Nat → Int} (h : Blk w g N r) (he : ∀ i, i < N → r i = s i) : Blk w g N s := by
  obtain ⟨cur, hg, hs, hc⟩ := h
  exact ⟨cur, hg, hs, fun i hi => by rw [hc i hi, he i hi]⟩
theorem Blk.row {w : World} {g N : Nat} {r : Nat → Int} (h : Blk w g N r) {off n cap : Nat} (hn : off + n ≤ N) (hc : n ≤ cap) (hm : cap ≤ 9223372036854775807) : Row w (some ⟨g, off, none⟩) n cap (fun i => r (off + i)) :=
  ⟨hc, hm, (fun e => by cases e), fun _ => ⟨g, off, rfl, h.lt, fun i hi => h.cell (by omega)⟩⟩
theorem Blk.out {w : World} {g N : Nat} {r : Nat → Int} (h : Blk w g N r) {B n : Nat} (hB : B ≤ g) (hn : n ≤ N) (hm : N ≤ 9223372036854775807) : Out B w (.slice (some ⟨g, 0, none⟩) n N) n r := by
  obtain ⟨cur, hg, hs, hc⟩ := h
  refine ⟨by rw [vals_length]; omega, .inr ⟨g, N, cur, rfl, hB, hg, hn, by unfold maxLen; omega, by omega, ?_⟩⟩
  apply vals_ext (by simp; omega)
  intro i hi
  rw [List.getElem?_take, if_pos (by omega), Array.getElem?_toList]
  exact hc i (by omega)
theorem Blk.made {w : World} {B g N : Nat} (h : w.ownsRow B 3 1 (.slice (some ⟨g, 0, none⟩) N N) N (madeCells (Value.int .i64 0).cells (N * 1)).toList) : Blk w g N (fun _ => 0) := by
  rcases h.2 with ⟨h', _⟩ | ⟨g', cap', cur, h', _, hg, _, _, hs, htake⟩
  · simp at h'
  · simp only [Value.slice.injEq, Option.some.injEq, Addr.mk.injEq, and_true, true_and] at h'
    obtain ⟨rfl, rfl⟩ := h'
    refine ⟨cur, hg, by omega, fun i hi => ?_⟩
    have e : cur.toList[i]? = (madeCells (Value.int .i64 0).cells (N * 1)).toList[i]? := by
      rw [← htake, List.getElem?_take, if_pos (by omega)]
    rw [Array.getElem?_toList] at e
    rw [e]
    show (madeCells #[Value.int .i64 0] (N * 1)).toList[i]? = _
    rw [Nat.mul_one, toList_madeCells_one]
    simp [hi]
theorem Blk.new (w : World) (xs : Array Value) (r : Nat → Int) (h : ∀ i, i < xs.size → xs[i]? = some (.int .i64 (r i))) : Blk (w.alloc (.cells xs 3)) w.heap.size xs.size r :=
  ⟨xs, heap_alloc_new w _, rfl, h⟩

theorem Out.row {B : Nat} {w : World} {v : Value} {n : Nat} {d : Nat → Int} (h : Out B w v n d) : ∃ ao cap, v = .slice ao n cap ∧ Row w ao n cap d := by
  rcases h.2 with ⟨rfl, rfl⟩ | ⟨g, cap, cur, rfl, hb, hg, hn, hm, hs, ht⟩
  · exact ⟨none, 0, rfl, Row.nil _ _⟩
  · refine ⟨_, cap, rfl, hn, by unfold maxLen at hm; exact hm, (fun e => by cases e), fun _ => ⟨g, 0, rfl, (Array.getElem?_eq_some_iff.1 hg).1, fun i hi => ?_⟩⟩
    rw [Nat.zero_add, cell_of_row w g i cur _ _ hg]
    have e : (cur.toList.take (n * 1))[i]? = (vals d n)[i]? := by rw [ht]
    rw [List.getElem?_take, if_pos (by omega), vals_get d hi, Array.getElem?_toList] at e
    exact e
theorem Out.nil (B : Nat) (w : World) (d : Nat → Int) : Out B w (.slice none 0 0) 0 d := World.ownsRow_nil _ _ _ _
theorem Out.stays {B : Nat} {w w' : World} {v : Value} {n : Nat} {d : Nat → Int} (h : Out B w v n d) (hb : Below w.heap.size w w') : Out B w' v n d := by
  refine ⟨h.1, ?_⟩
  rcases h.2 with hn | ⟨g, cap, cur, rfl, hbb, hg, rest⟩
  · exact .inl hn
  · exact .inr ⟨g, cap, cur, rfl, hbb, (hb.block g (Array.getElem?_eq_some_iff.1 hg).1).trans hg, rest⟩
theorem Out.lower {B B' : Nat} {w : World} {v : Value} {n : Nat} {d : Nat → Int} (h : Out B w v n d) (hB : B' ≤ B) : Out B' w v n d := by
  refine ⟨h.1, ?_⟩
  rcases h.2 with hn | ⟨g, cap, cur, rfl, hbb, rest⟩
  · exact .inl hn
  · exact .inr ⟨g, cap, cur, rfl, by omega, rest⟩
theorem Out.congr {B : Nat} {w : World} {v : Value} {n : Nat} {d e : Nat → Int} (h : Out B w v n d) (he : ∀ i, i < n → d i = e i) : Out B w v n e := by
  unfold Out at h ⊢
  rwa [show vals e n = vals d n from (vals_ext (vals_length d n) fun i hi => by rw [vals_get d hi, he i hi]).symm]
/-- What a Go call hands back: one value of slices. -/
theorem bel_trans {a b c : World} (h : Below a.heap.size a b) (k : Below b.heap.size b c) : Below a.heap.size a c := h.trans (k.mono h.size)
theorem bel_refl (w : World) : Below w.heap.size w w := Below.refl _ _
/-- A slice cut to its first t; nil where nothing is left. -/
def cutV (ao : Option Addr) (t cap : Nat) : Value := if t = 0 then .slice none 0 0 else .slice ao t cap
theorem Blk.cut {w : World} {g N : Nat} {r : Nat → Int} (h : Blk w g N r) {B t : Nat} (hB : B ≤ g) (ht : t ≤ N) (hm : N ≤ 9223372036854775807) : Out B w (cutV (some ⟨g, 0, none⟩) t N) t r := by
  unfold cutV
  split
  · rename_i h0; subst h0; exact Out.nil _ _ _
  · exact h.out hB ht hm
/-- The list of V, without zeros on top, in memory that is new since w; nothing of w has turned. -/
def Ans (w w' : World) (V : Int) (v : Value) : Prop := ∃ t d, Out w.heap.size w' v t d ∧ Nrm d t ∧ val d t = V ∧ Below w.heap.size w w'
theorem Ans.below {w w' : World} {V : Int} {v : Value} (h : Ans w w' V v) : Below w.heap.size w w' := h.choose_spec.choose_spec.2.2.2
theorem Ans.from {w0 w w' : World} {V : Int} {v : Value} (h : Ans w w' V v) (hb : Below w0.heap.size w0 w) : Ans w0 w' V v := by
  obtain ⟨t, d, h1, h2, h3, h4⟩ := h
  exact ⟨t, d, h1.lower hb.size, h2, h3, bel_trans hb h4⟩
theorem Ans.stays {w w1 w2 : World} {V : Int} {v : Value} (h : Ans w w1 V v) (hb : Below w1.heap.size w1 w2) : Ans w w2 V v := by
  obtain ⟨t, d, h1, h2, h3, h4⟩ := h
  exact ⟨t, d, h1.stays hb, h2, h3, bel_trans h4 hb⟩
theorem Ans.nil {w w' : World} (hb : Below w.heap.size w w') : Ans w w' 0 (.slice none 0 0) := ⟨0, fun _ => 0, Out.nil _ _ _, ⟨fun i hi => by omega, .inl rfl⟩, rfl, hb⟩
/-- Two digits. -/
def d2 (x y : Int) : Nat → Int := fun i => if i = 0 then x else y
theorem add_none (b off n : Nat) : (⟨b, off, none⟩ : Addr).add n = ⟨b, off + n, none⟩ := by
  unfold Addr.add; split <;> simp_all
/-- A number that is read: a list without zeros on top, and its value. -/
def Num (w : World) (v : Value) (V : Int) : Prop := ∃ ao n cap d, v = .slice ao n cap ∧ Row w ao n cap d ∧ Nrm d n ∧ val d n = V
theorem Ans.num {w w' : World} {V : Int} {v : Value} (h : Ans w w' V v) : Num w' v V := by
  obtain ⟨t, d, h1, h2, h3, h4⟩ := h
  obtain ⟨ao, cap, rfl, hR⟩ := h1.row
  exact ⟨ao, t, cap, d, rfl, hR, h2, h3⟩
theorem Num.keeps {w w' : World} {v : Value} {V : Int} (h : Num w v V) (hb : Below w.heap.size w w') : Num w' v V := by
  obtain ⟨ao, n, cap, d, rfl, hR, h2⟩ := h
  exact ⟨ao, n, cap, d, rfl, hR.keeps hb, h2⟩
theorem Num.shape {w : World} {v : Value} {V : Int} (h : Num w v V) : ∃ ao n cap, v = .slice ao n cap := by
  obtain ⟨ao, n, cap, d, e, _⟩ := h
  exact ⟨ao, n, cap, e⟩
theorem Num.alloc {w : World} {v : Value} {V : Int} (h : Num w v V) (o : Obj) : Num (w.alloc o) v V := h.keeps ((Below.refl _ _).alloc (Nat.le_refl _) _)
theorem Num.len {w : World} {ao : Option Addr} {n cap : Nat} {V : Int} (h : Num w (.slice ao n cap) V) {k : Nat} (hV : V < P k) : n ≤ k := by
  obtain ⟨ao', n', cap', d, e, hR, h2, h3⟩ := h
  simp only [Value.slice.injEq] at e
  obtain ⟨rfl, rfl, rfl⟩ := e
  by_cases hk : n ≤ k
  · exact hk
  · have a := val_top h2.1 (by omega) h2.2
    have b := P_le (show k ≤ n - 1 by omega)
    omega
theorem Num.zero {w : World} {ao : Option Addr} {n cap : Nat} {V : Int} (h : Num w (.slice ao n cap) V) : V = 0 ↔ n = 0 := by
  obtain ⟨ao', n', cap', d, e, hR, h2, rfl⟩ := h
  simp only [Value.slice.injEq] at e
  obtain ⟨rfl, rfl, rfl⟩ := e
  exact val_zero h2
theorem bel_alloc (w : World) (o : Obj) : Below w.heap.size w (w.alloc o) := (Below.refl _ _).alloc (Nat.le_refl _) _
theorem bel_alloc2 (w : World) (o p : Obj) : Below w.heap.size w ((w.alloc o).alloc p) := (bel_alloc w o).alloc (by simp) _
end Go.Proofs.YtbljcodhcodmkaaDoor
