/-
  Parts of the proof, one behind another.
-/
import Derived.Test.YthpachmmjjlomaaGreatDoorPart1
import Derived.Test.YthpachmmjjlomaaGreatDoorProg
import Derived.WalkKit
import Derived.OwnWalk
import Derived.Below
import Derived.Laws.OwnMore
import Derived.Laws.AppendOwnNone
import Derived.Deep.QuietTactic
import Derived.BigQuiet
import Derived.Tactics
import Derived.Tactics2
import Derived.Defers
import Derived.Recover
import Derived.Laws.Pointers
import Derived.WalkLawsBesides
namespace Go.Proofs.YthpachmmjjlomaaGreatDoor
open Go Go.RowKit Go.Proofs.YthpachmmjjlomaaGreatDoor.M
set_option linter.unusedSimpArgs false
set_option linter.unusedVariables false
structure Row (w : World) (ao : Option Addr) (n cap : Nat) (d : Nat -> Int) : Prop where
  le : n <= cap
  max : cap <= 9223372036854775807
  nl : ao = none -> cap = 0
  spot : 0 < n -> ∃ b off, ao = some ⟨b, off, none⟩ ∧ b < w.heap.size ∧ ∀ i, i < n -> w.cell? ⟨b, off + i, none⟩ = some (.int .i64 (d i))
def Blk (w : World) (g N : Nat) (r : Nat -> Int) : Prop :=
  ∃ cur, w.heap[g]? = some (.cells cur 3 (0, 0)) ∧ cur.size = N ∧ ∀ i, i < N -> cur[i]? = some (.int .i64 (r i))
def vals (d : Nat -> Int) (n : Nat) : List Value := (List.range n).map fun i => .int .i64 (d i)
theorem vals_length (d : Nat -> Int) (n : Nat) : (vals d n).length = n := by simp [vals]
theorem vals_get (d : Nat -> Int) {n i : Nat} (h : i < n) : (vals d n)[i]? = some (.int .i64 (d i)) := by simp [vals, h]
theorem vals_one (d : Nat -> Int) (n : Nat) : ∀ u ∈ vals d n, u.oneCell' = true := by
  intro u hu
  obtain ⟨_, _, rfl⟩ := List.mem_map.1 hu
  rfl
theorem vals_ext {xs : List Value} {d : Nat -> Int} {n : Nat} (hl : xs.length = n) (h : ∀ i, i < n -> xs[i]? = some (.int .i64 (d i))) : xs = vals d n := by
  apply List.ext_getElem?
  intro i
  by_cases hi : i < n
  . rw [h i hi, vals_get d hi]
  . rw [List.getElem?_eq_none (by omega), List.getElem?_eq_none (by rw [vals_length]; omega)]
def Out (B : Nat) (w : World) (v : Value) (n : Nat) (d : Nat -> Int) : Prop := w.ownsRow B 3 1 v n (vals d n)
theorem Row.stays {w w' : World} {ao : Option Addr} {n cap : Nat} {d : Nat -> Int} (h : Row w ao n cap d) {B : Nat} (hb : Below B w w') (hB : w.heap.size <= B) : Row w' ao n cap d :=
  ⟨h.le, h.max, h.nl, fun hn => by
    obtain ⟨b, off, rfl, hlt, hc⟩ := h.spot hn
    exact ⟨b, off, rfl, Nat.lt_of_lt_of_le hlt hb.size, fun i hi => (hb.cell (p := ⟨b, off + i, none⟩) (Nat.lt_of_lt_of_le hlt hB)).trans (hc i hi)⟩⟩
theorem Row.keeps {w w' : World} {ao : Option Addr} {n cap : Nat} {d : Nat -> Int} (h : Row w ao n cap d) (hb : Below w.heap.size w w') : Row w' ao n cap d := h.stays hb (Nat.le_refl _)
theorem Row.congr {w : World} {ao : Option Addr} {n cap : Nat} {d e : Nat -> Int} (h : Row w ao n cap d) (he : ∀ i, i < n -> d i = e i) : Row w ao n cap e :=
  ⟨h.le, h.max, h.nl, fun hn => by
    obtain ⟨b, off, rfl, hlt, hc⟩ := h.spot hn
    exact ⟨b, off, rfl, hlt, fun i hi => by rw [<- he i hi]; exact hc i hi⟩⟩
theorem Row.nil (w : World) (d : Nat -> Int) : Row w none 0 0 d := ⟨Nat.le_refl _, by decide, fun _ => rfl, fun h => by omega⟩
theorem Row.alloc {w : World} {ao : Option Addr} {n cap : Nat} {d : Nat -> Int} (h : Row w ao n cap d) (o : Obj) : Row (w.alloc o) ao n cap d := h.keeps ((Below.refl _ _).alloc (Nat.le_refl _) _)
theorem Blk.cell {w : World} {g N : Nat} {r : Nat -> Int} (h : Blk w g N r) {i : Nat} (hi : i < N) : w.cell? ⟨g, i, none⟩ = some (.int .i64 (r i)) := by
  obtain ⟨cur, hg, hs, hc⟩ := h
  rw [cell_of_row w g i cur _ _ hg]; exact hc i hi
theorem Blk.frozen {w : World} {g N : Nat} {r : Nat -> Int} (h : Blk w g N r) (i : Nat) : w.frozen? ⟨g, i, none⟩ = false := by
  obtain ⟨cur, hg, hs, hc⟩ := h
  exact frozen_of_row w g i cur _ hg
theorem Blk.lt {w : World} {g N : Nat} {r : Nat -> Int} (h : Blk w g N r) : g < w.heap.size := by
  obtain ⟨cur, hg, hs, hc⟩ := h
  exact (Array.getElem?_eq_some_iff.1 hg).1
theorem Blk.store {w : World} {g N : Nat} {r : Nat -> Int} (h : Blk w g N r) (i : Nat) (x : Int) : Blk (w.setCell ⟨g, i, none⟩ (.int .i64 x)) g N (upd r i x) := by
  obtain ⟨cur, hg, hs, hc⟩ := h
  refine ⟨cur.setIfInBounds i (.int .i64 x), heap_setCell_same w g i cur _ _ hg, by simpa using hs, fun j hj => ?_⟩
  by_cases hji : j = i
  . subst hji; rw [upd_same, Array.getElem?_setIfInBounds_self_of_lt (by omega)]
  . rw [upd_other r x hji, Array.getElem?_setIfInBounds_ne (by omega)]; exact hc j hj
theorem Blk.of_block {w w' : World} {g N : Nat} {r : Nat -> Int} (h : Blk w g N r) (hb : w'.heap[g]? = w.heap[g]?) : Blk w' g N r := by
  obtain ⟨cur, hg, hs, hc⟩ := h
  exact ⟨cur, hb.trans hg, hs, hc⟩
theorem Blk.stays {w w' : World} {g N : Nat} {r : Nat -> Int} (h : Blk w g N r) {B : Nat} (hb : Below B w w') (hB : g < B) : Blk w' g N r := h.of_block (hb.block g hB)
theorem Blk.keeps {w w' : World} {g N : Nat} {r : Nat -> Int} (h : Blk w g N r) (hb : Below w.heap.size w w') : Blk w' g N r := h.stays hb h.lt
theorem Blk.apart {w : World} {g N : Nat} {r : Nat -> Int} (h : Blk w g N r) {a : Addr} (ha : g ≠ a.block) (u : Value) : Blk (w.setCell a u) g N r := h.of_block (heap_setCell_other w a g u ha)
theorem Blk.alloc {w : World} {g N : Nat} {r : Nat -> Int} (h : Blk w g N r) (o : Obj) : Blk (w.alloc o) g N r := h.of_block (Below.heap_alloc w o g h.lt)
theorem Blk.congr {w : World} {g N : Nat} {r s : Nat -> Int} (h : Blk w g N r) (he : ∀ i, i < N -> r i = s i) : Blk w g N s := by
  obtain ⟨cur, hg, hs, hc⟩ := h
  exact ⟨cur, hg, hs, fun i hi => by rw [hc i hi, he i hi]⟩
theorem Blk.row {w : World} {g N : Nat} {r : Nat -> Int} (h : Blk w g N r) {off n cap : Nat} (hn : off + n <= N) (hc : n <= cap) (hm : cap <= 9223372036854775807) : Row w (some ⟨g, off, none⟩) n cap (fun i => r (off + i)) :=
  ⟨hc, hm, (fun e => by cases e), fun _ => ⟨g, off, rfl, h.lt, fun i hi => h.cell (by omega)⟩⟩
theorem Blk.row0 {w : World} {g N : Nat} {r : Nat -> Int} (h : Blk w g N r) {n : Nat} (hn : n <= N) (hm : N <= 9223372036854775807) : Row w (some ⟨g, 0, none⟩) n N r :=
  ⟨hn, hm, (fun e => by cases e), fun _ => ⟨g, 0, rfl, h.lt, fun i hi => by rw [Nat.zero_add]; exact h.cell (by omega)⟩⟩
theorem Blk.out {w : World} {g N : Nat} {r : Nat -> Int} (h : Blk w g N r) {B n : Nat} (hB : B <= g) (hn : n <= N) (hm : N <= 9223372036854775807) : Out B w (.slice (some ⟨g, 0, none⟩) n N) n r := by
  obtain ⟨cur, hg, hs, hc⟩ := h
  refine ⟨by rw [vals_length]; omega, .inr ⟨g, N, cur, rfl, hB, hg, hn, by unfold maxLen; omega, by omega, ?_⟩⟩
  apply vals_ext (by simp; omega)
  intro i hi
  rw [List.getElem?_take, if_pos (by omega), Array.getElem?_toList]
  exact hc i (by omega)
theorem Blk.made {w : World} {B g N : Nat} (h : w.ownsRow B 3 1 (.slice (some ⟨g, 0, none⟩) N N) N (madeCells (Value.int .i64 0).cells (N * 1)).toList) : Blk w g N (fun _ => 0) := by
  rcases h.2 with ⟨h', _⟩ | ⟨g', cap', cur, h', _, hg, _, _, hs, htake⟩
  . simp at h'
  . simp only [Value.slice.injEq, Option.some.injEq, Addr.mk.injEq, and_true, true_and] at h'
    obtain ⟨rfl, rfl⟩ := h'
    refine ⟨cur, hg, by omega, fun i hi => ?_⟩
    have e : cur.toList[i]? = (madeCells (Value.int .i64 0).cells (N * 1)).toList[i]? := by
      rw [<- htake, List.getElem?_take, if_pos (by omega)]
    rw [Array.getElem?_toList] at e
    rw [e]
    show (madeCells #[Value.int .i64 0] (N * 1)).toList[i]? = _
    rw [Nat.mul_one, toList_madeCells_one]
    simp [hi]
theorem Blk.new (w : World) (xs : Array Value) (r : Nat -> Int) (h : ∀ i, i < xs.size -> xs[i]? = some (.int .i64 (r i))) : Blk (w.alloc (.cells xs 3)) w.heap.size xs.size r :=
  ⟨xs, heap_alloc_new w _, rfl, h⟩
theorem Out.row {B : Nat} {w : World} {v : Value} {n : Nat} {d : Nat -> Int} (h : Out B w v n d) : ∃ ao cap, v = .slice ao n cap ∧ Row w ao n cap d := by
  rcases h.2 with ⟨rfl, rfl⟩ | ⟨g, cap, cur, rfl, hb, hg, hn, hm, hs, ht⟩
  . exact ⟨none, 0, rfl, Row.nil _ _⟩
  . refine ⟨_, cap, rfl, hn, by unfold maxLen at hm; exact hm, (fun e => by cases e), fun _ => ⟨g, 0, rfl, (Array.getElem?_eq_some_iff.1 hg).1, fun i hi => ?_⟩⟩
    rw [Nat.zero_add, cell_of_row w g i cur _ _ hg]
    have e : (cur.toList.take (n * 1))[i]? = (vals d n)[i]? := by rw [ht]
    rw [List.getElem?_take, if_pos (by omega), vals_get d hi, Array.getElem?_toList] at e
    exact e
theorem Out.nil (B : Nat) (w : World) (d : Nat -> Int) : Out B w (.slice none 0 0) 0 d := World.ownsRow_nil _ _ _ _
theorem Out.stays {B : Nat} {w w' : World} {v : Value} {n : Nat} {d : Nat -> Int} (h : Out B w v n d) (hb : Below w.heap.size w w') : Out B w' v n d := by
  refine ⟨h.1, ?_⟩
  rcases h.2 with hn | ⟨g, cap, cur, rfl, hbb, hg, rest⟩
  . exact .inl hn
  . exact .inr ⟨g, cap, cur, rfl, hbb, (hb.block g (Array.getElem?_eq_some_iff.1 hg).1).trans hg, rest⟩
theorem Out.lower {B B' : Nat} {w : World} {v : Value} {n : Nat} {d : Nat -> Int} (h : Out B w v n d) (hB : B' <= B) : Out B' w v n d := by
  refine ⟨h.1, ?_⟩
  rcases h.2 with hn | ⟨g, cap, cur, rfl, hbb, rest⟩
  . exact .inl hn
  . exact .inr ⟨g, cap, cur, rfl, by omega, rest⟩
theorem Out.congr {B : Nat} {w : World} {v : Value} {n : Nat} {d e : Nat -> Int} (h : Out B w v n d) (he : ∀ i, i < n -> d i = e i) : Out B w v n e := by
  unfold Out at h ⊢
  rwa [show vals e n = vals d n from (vals_ext (vals_length d n) fun i hi => by rw [vals_get d hi, he i hi]).symm]
theorem bel_trans {a b c : World} (h : Below a.heap.size a b) (k : Below b.heap.size b c) : Below a.heap.size a c := h.trans (k.mono h.size)
theorem bel_refl (w : World) : Below w.heap.size w w := Below.refl _ _
theorem bDrewN {B : Nat} {a w : World} (h : Below B a w) (n : Nat) : Below B a (w.drewN n) := ⟨h.os, h.tape, h.output, h.size, h.block⟩
def cutV (ao : Option Addr) (t cap : Nat) : Value := if t = 0 then .slice none 0 0 else .slice ao t cap
theorem Blk.cut {w : World} {g N : Nat} {r : Nat -> Int} (h : Blk w g N r) {B t : Nat} (hB : B <= g) (ht : t <= N) (hm : N <= 9223372036854775807) : Out B w (cutV (some ⟨g, 0, none⟩) t N) t r := by
  unfold cutV
  split
  . rename_i h0; subst h0; exact Out.nil _ _ _
  . exact h.out hB ht hm
def Ans (w w' : World) (V : Int) (v : Value) : Prop := ∃ t d, Out w.heap.size w' v t d ∧ Nrm d t ∧ val d t = V ∧ Below w.heap.size w w'
theorem Ans.below {w w' : World} {V : Int} {v : Value} (h : Ans w w' V v) : Below w.heap.size w w' := h.choose_spec.choose_spec.2.2.2
theorem Ans.from {w0 w w' : World} {V : Int} {v : Value} (h : Ans w w' V v) (hb : Below w0.heap.size w0 w) : Ans w0 w' V v := by
  obtain ⟨t, d, h1, h2, h3, h4⟩ := h
  exact ⟨t, d, h1.lower hb.size, h2, h3, bel_trans hb h4⟩
theorem Ans.stays {w w1 w2 : World} {V : Int} {v : Value} (h : Ans w w1 V v) (hb : Below w1.heap.size w1 w2) : Ans w w2 V v := by
  obtain ⟨t, d, h1, h2, h3, h4⟩ := h
  exact ⟨t, d, h1.stays hb, h2, h3, bel_trans h4 hb⟩
theorem Ans.nil {w w' : World} (hb : Below w.heap.size w w') : Ans w w' 0 (.slice none 0 0) := ⟨0, fun _ => 0, Out.nil _ _ _, ⟨fun i hi => by omega, .inl rfl⟩, rfl, hb⟩
def Fit (w w' : World) (V : Int) (v : Value) (er : Int) : Prop := Below w.heap.size w w' ∧ ((V < P 2000 ∧ er = 0 ∧ Ans w w' V v) ∨ (P 2000 <= V ∧ er = 2 ∧ v = .slice none 0 0))
theorem info_int : (Tryz.prog.info? 3).map (fun i => (i.zero, i.size, i.bytes)) = some (some (.int .i64 0), 1, 8) := by kernel_rfl
theorem grown_below {w w' : World} (h : w.grownBy w' none) : Below w.heap.size w w' := ⟨h.os, h.tape, h.output, h.size, fun k hk => h.block k hk (by simp)⟩
theorem wpList_mk {w : World} {ops : Array Oper} {rest : List Oper} {o : Oper} {a : Act} {Q : Exit -> Act -> World -> Prop} (hg : o.guard = none) (l c : Operand) (hop : o.op = Op.makeSlice 33 l c)
    (L C : Int) (n : Nat) (hl : a.eval l = .int .i64 L) (hc : a.eval c = .int .i64 C) (hL : L = (n : Int)) (hC : C = (n : Int)) (hn : n <= 1000000)
    (hK : ∀ w', Blk w' w.heap.size n (fun _ => 0) -> Below w.heap.size w w' -> wpList Tryz.prog ops Q rest (a.put o.dst (.slice (some ⟨w.heap.size, 0, none⟩) n n)) w') :
    wpList Tryz.prog ops Q (o :: rest) a w := by
  obtain ⟨i0, hi, hz0, hz1, hz2⟩ := info_parts info_int
  exact wpList_make_full w hg l c 33 hop w.heap.size 3 i0 (.int .i64 0) 1 Tryz.underlying33 hi hz0 hz1 .i64 .i64 L C n hl hc hL hC (by rw [hz2]; omega) (by unfold maxLen; omega) (Nat.le_refl _)
    fun w' h1 h2 => hK w' (Blk.made h1) (grown_below h2)
theorem row1 (w : World) (x : Int) {g : Nat} (hg : g = w.heap.size) : Row (w.alloc (.cells #[.int .i64 x] 3)) (some ⟨g, 0, none⟩) 1 1 (fun _ => x) := by
  subst hg
  exact (Blk.new w #[.int .i64 x] (fun _ => x) (fun i hi => by simp at hi; subst hi; rfl)).row0 (Nat.le_refl _) (show 1 <= 9223372036854775807 by decide)
def d2 (x y : Int) : Nat -> Int := fun i => if i = 0 then x else y
def cat (d : Nat -> Int) (n : Nat) (e : Nat -> Int) : Nat -> Int := fun i => if i < n then d i else e (i - n)
theorem vals_cat (d e : Nat -> Int) (n m : Nat) : vals d n ++ vals e m = vals (cat d n e) (n + m) := by
  apply vals_ext (by simp [vals_length])
  intro i hi
  by_cases h : i < n
  . rw [List.getElem?_append_left (by rw [vals_length]; exact h), vals_get d h]; simp [cat, h]
  . rw [List.getElem?_append_right (by rw [vals_length]; omega), vals_length, vals_get e (by omega)]; simp [cat, h]
theorem add_none (b off n : Nat) : (⟨b, off, none⟩ : Addr).add n = ⟨b, off + n, none⟩ := by
  unfold Addr.add; split <;> simp_all
theorem wpList_app {w : World} {ops : Array Oper} {rest : List Oper} {o : Oper} {a : Act} {Q : Exit -> Act -> World -> Prop} (hgd : o.guard = none) (s x : Operand)
    (ho : o.op = .call { callee := .builtin .append, args := #[s, x], argTypes := #[33, 33] }) (B : Nat) (v : Value) (n : Nat) (d : Nat -> Int) (hs : a.eval s = v) (hO : Out B w v n d)
    (bo : Option Addr) (m cb : Nat) (e : Nat -> Int) (hx : a.eval x = .slice bo m cb) (hR : Row w bo m cb e) (hlen : n + m <= 1000000) (hB : B <= w.heap.size)
    (h : ∀ v' w', Out B w' v' (n + m) (cat d n e) -> w.grownBy w' v.ownBlock -> wpList Tryz.prog ops Q rest (a.put o.dst v') w') : wpList Tryz.prog ops Q (o :: rest) a w := by
  obtain ⟨i0, hi, hz0, hz1, hz2⟩ := info_parts info_int
  cases bo with
  | none =>
    have hc := hR.nl rfl
    have hl := hR.le
    subst hc
    obtain rfl : m = 0 := by omega
    refine wpList_append_own_none hgd s x 33 ho B 3 i0 1 Tryz.underlying33 hi v n (vals d n) hs hO hx ?_
    refine h v w ?_ ⟨rfl, rfl, rfl, Nat.le_refl _, fun _ _ _ => rfl⟩
    exact Out.congr hO fun i hi => by simp [cat]; omega
  | some ad =>
    refine wpList_append_own w hgd s x 33 ho B 3 i0 (.int .i64 0) 1 8 Tryz.underlying33 hi hz0 hz1 hz2 rfl (by decide) v n (vals d n) hs hO ad m cb (vals e m) hx (by rw [vals_length]; omega) ?_ (vals_one e m) (by unfold maxLen; omega) (by omega) hB ?_
    . intro j u hu
      have hj : j < m := by have := (List.getElem?_eq_some_iff.1 hu).1; rwa [vals_length] at this
      obtain ⟨b, off, hb, _, hc⟩ := hR.spot (by omega)
      obtain rfl := Option.some.inj hb
      rw [vals_get e hj] at hu
      rw [add_none, hc j hj]; exact hu
    . intro v' w' h1 h2 _
      rw [vals_cat] at h1
      exact h v' w' h1 h2
theorem own_ge {B : Nat} {w : World} {v : Value} {n : Nat} {d : Nat -> Int} (h : Out B w v n d) : ∀ k, v.ownBlock = some k -> B <= k := fun k hk => (World.ownsRow.lt h k hk).1
def Num (w : World) (v : Value) (V : Int) : Prop := ∃ ao n cap d, v = .slice ao n cap ∧ Row w ao n cap d ∧ Nrm d n ∧ val d n = V
theorem Ans.num {w w' : World} {V : Int} {v : Value} (h : Ans w w' V v) : Num w' v V := by
  obtain ⟨t, d, h1, h2, h3, h4⟩ := h
  obtain ⟨ao, cap, rfl, hR⟩ := h1.row
  exact ⟨ao, t, cap, d, rfl, hR, h2, h3⟩
theorem Num.keeps {w w' : World} {v : Value} {V : Int} (h : Num w v V) (hb : Below w.heap.size w w') : Num w' v V := by
  obtain ⟨ao, n, cap, d, rfl, hR, h2⟩ := h
  exact ⟨ao, n, cap, d, rfl, hR.keeps hb, h2⟩
theorem Num.shape {w : World} {v : Value} {V : Int} (h : Num w v V) : ∃ ao n cap, v = .slice ao n cap := by
  obtain ⟨ao, n, cap, d, e, _⟩ := h
  exact ⟨ao, n, cap, e⟩
theorem Num.alloc {w : World} {v : Value} {V : Int} (h : Num w v V) (o : Obj) : Num (w.alloc o) v V := h.keeps ((Below.refl _ _).alloc (Nat.le_refl _) _)
theorem Num.len {w : World} {ao : Option Addr} {n cap : Nat} {V : Int} (h : Num w (.slice ao n cap) V) {k : Nat} (hV : V < P k) : n <= k := by
  obtain ⟨ao', n', cap', d, e, hR, h2, h3⟩ := h
  simp only [Value.slice.injEq] at e
  obtain ⟨rfl, rfl, rfl⟩ := e
  by_cases hk : n <= k
  . exact hk
  . have a := val_top h2.1 (by omega) h2.2
    have b := P_le (show k <= n - 1 by omega)
    omega
theorem Num.nonneg {w : World} {v : Value} {V : Int} (h : Num w v V) : 0 <= V := by
  obtain ⟨ao', n', cap', d, e, hR, h2, rfl⟩ := h
  exact val_nonneg h2.1
theorem Num.zero {w : World} {ao : Option Addr} {n cap : Nat} {V : Int} (h : Num w (.slice ao n cap) V) : V = 0 ↔ n = 0 := by
  obtain ⟨ao', n', cap', d, e, hR, h2, rfl⟩ := h
  simp only [Value.slice.injEq] at e
  obtain ⟨rfl, rfl, rfl⟩ := e
  exact val_zero h2
theorem bel_alloc (w : World) (o : Obj) : Below w.heap.size w (w.alloc o) := (Below.refl _ _).alloc (Nat.le_refl _) _
theorem bel_alloc2 (w : World) (o p : Obj) : Below w.heap.size w ((w.alloc o).alloc p) := (bel_alloc w o).alloc (by simp) _
end Go.Proofs.YthpachmmjjlomaaGreatDoor
namespace Go.Proofs.YthpachmmjjlomaaGreatDoor.M
open Go
set_option linter.unusedSimpArgs false
set_option linter.unusedVariables false
def IsLow (V : Int) (l : Nat) : Prop := ∃ m : Int, V = (2 * m + 1) * 2 ^ l
theorem two_pos (k : Nat) : (0 : Int) < 2 ^ k := Int.pow_pos (by decide)
theorem P_two (n : Nat) : P n = 2 ^ (30 * n) := by
  induction n with
  | zero => rfl
  | succ n ih => rw [P_succ, ih, show 30 * (n + 1) = 30 * n + 30 by omega, Int.pow_add]; rfl
theorem two_split (k : Nat) : (2 : Int) ^ k = P (k / 30) * 2 ^ (k % 30) := by
  rw [P_two, <- Int.pow_add]; congr 1; omega
theorem two_le {j k : Nat} (h : j <= k) : (2 : Int) ^ j <= 2 ^ k := by
  obtain ⟨m, rfl⟩ := Nat.exists_eq_add_of_le h
  rw [Int.pow_add]
  have h1 := two_pos j
  have h2 := two_pos m
  have h3 : (2 : Int) ^ j * 1 <= 2 ^ j * 2 ^ m := Int.mul_le_mul_of_nonneg_left (by omega) (by omega)
  omega
theorem or_add (x m : Int) (k : Nat) (hx : 0 <= x) (hxk : x < 2 ^ k) (hm : 0 <= m) (hs : x + m * 2 ^ k < 9223372036854775808) : bits .or .i64 x (m * 2 ^ k) = x + m * 2 ^ k := by
  have hp := two_pos k
  have hy : 0 <= m * 2 ^ k := Int.mul_nonneg hm (by omega)
  obtain ⟨m', rfl⟩ := Int.eq_ofNat_of_zero_le hm
  obtain ⟨x', rfl⟩ := Int.eq_ofNat_of_zero_le hx
  have e2 : ((m' : Int) * 2 ^ k) = ((m' * 2 ^ k : Nat) : Int) := by simp
  rw [e2] at hs hy ⊢
  have hx' : x' < 2 ^ k := by
    have : ((x' : Nat) : Int) < ((2 ^ k : Nat) : Int) := by simpa using hxk
    exact Int.ofNat_lt.1 this
  have e3 : x' ||| m' * 2 ^ k = m' * 2 ^ k + x' := by rw [Nat.or_comm, Nat.mul_comm m', Nat.two_pow_add_eq_or_of_lt hx' m']
  generalize m' * 2 ^ k = M at *
  rw [bits_or64, show (((x' : Int)) % 18446744073709551616).toNat = x' by omega, show ((M : Int) % 18446744073709551616).toNat = M by omega, e3, wrap_i64_eq]
  omega
def low (s : Nat -> Int) (u v : Int) : Nat -> Int := fun i => s i / u + s (i + 1) % u * v
theorem low_dig {s : Nat -> Int} {u v : Int} {n : Nat} (hu : 0 < u) (huv : u * v = 1073741824) (h : Dig s (n + 1)) : Dig (low s u v) n := by
  intro i hi
  have a := h i (by omega)
  have hv : 0 < v := by
    rcases Int.lt_or_le 0 v with h | h
    . exact h
    . have := Int.mul_nonneg (show 0 <= u by omega) (show 0 <= -v by omega); rw [Int.mul_neg] at this; omega
  have b0 : 0 <= s (i + 1) % u := Int.emod_nonneg _ (by omega)
  have b1 : s (i + 1) % u < u := Int.emod_lt_of_pos _ hu
  have c0 : 0 <= s i / u := Int.ediv_nonneg a.1 (by omega)
  have c1 : s i / u < v := (Int.ediv_lt_iff_lt_mul hu).2 (by rw [Int.mul_comm, huv]; exact a.2)
  have d1 : s (i + 1) % u * v <= (u - 1) * v := Int.mul_le_mul_of_nonneg_right (by omega) (by omega)
  have d0 : 0 <= s (i + 1) % u * v := Int.mul_nonneg b0 (by omega)
  rw [Int.sub_mul, huv] at d1
  unfold low
  omega
theorem low_val (s : Nat -> Int) {u v : Int} (huv : u * v = 1073741824) (n : Nat) : val (low s u v) n * u = val s n - s 0 % u + s n % u * P n := by
  induction n with
  | zero => show (0 : Int) * u = 0 - s 0 % u + s 0 % u * 1; omega
  | succ n ih =>
    rw [val_succ, val_succ, P_succ]
    have e : s n / u * u = s n - s n % u := by have := Int.emod_add_ediv_mul (s n) u; omega
    unfold low at ih ⊢
    have e2 : (val (fun i => s i / u + s (i + 1) % u * v) n + (s n / u + s (n + 1) % u * v) * P n) * u = val (fun i => s i / u + s (i + 1) % u * v) n * u + (s n / u * u) * P n + s (n + 1) % u * (u * v) * P n := by grind
    rw [e2, ih, e, huv]; grind
theorem low_eq {s : Nat -> Int} {u v : Int} (hu : 0 < u) (huv : u * v = 1073741824) {n : Nat} (h : s n = 0) : val (low s u v) n = val s n / u := by
  have h1 := low_val s huv n
  rw [h, Int.zero_emod, Int.zero_mul, Int.add_zero] at h1
  have b0 : 0 <= s 0 % u := Int.emod_nonneg _ (by omega)
  have b1 : s 0 % u < u := Int.emod_lt_of_pos _ hu
  have : val s n = s 0 % u + val (low s u v) n * u := by omega
  rw [this, Int.add_mul_ediv_right _ _ (by omega), Int.ediv_eq_zero_of_lt b0 b1]; omega
theorem val_drop (d : Nat -> Int) {w n : Nat} (h : w <= n) (hd : Dig d n) : val (fun i => d (w + i)) (n - w) = val d n / P w := by
  have e := val_split d w (n - w)
  rw [show w + (n - w) = n by omega] at e
  rw [e, Int.add_mul_ediv_left _ _ (by have := P_pos w; omega), Int.ediv_eq_zero_of_lt (val_nonneg (hd.le h)) (val_lt (hd.le h))]; omega
theorem val_shift0 (d : Nat -> Int) (w n : Nat) (h : ∀ i, i < w -> d i = 0) : val d (w + n) = P w * val (fun i => d (w + i)) n := by
  rw [val_split, val_zeros (Nat.zero_le w) (fun i _ b => h i b)]; show 0 + _ = _; omega
theorem dig_mul {x y : Int} (hx : 0 <= x ∧ x < 1073741824) (hy : 0 <= y ∧ y < 1073741824) : 0 <= x * y ∧ x * y <= 1152921502459363329 := by
  refine ⟨Int.mul_nonneg hx.1 hy.1, ?_⟩
  have h1 : x * y <= 1073741823 * y := Int.mul_le_mul_of_nonneg_right (by omega) hy.1
  omega
theorem zero_dig (n : Nat) : Dig (fun _ => 0) n := fun i _ => ⟨Int.le_refl 0, show (0 : Int) < 1073741824 by decide⟩
theorem mod_dig (x : Int) : 0 <= x % 1073741824 ∧ x % 1073741824 < 1073741824 := by omega
theorem sum_step {r : Nat -> Int} {k : Nat} {c x V : Int} (h : val r k + c * P k = V) : val (upd r k ((c + x) % 1073741824)) (k + 1) + (c + x) / 1073741824 * P (k + 1) = V + x * P k := by
  rw [val_succ, val_upd_ge r _ (Nat.le_refl k), upd_same, P_succ, carry_step, h]
theorem mul_step {r r0 b : Nat -> Int} {i j : Nat} {c ai : Int} (h : val r (i + j) + c * P (i + j) = val r0 (i + j) + ai * val b j * P i) (hr : r (i + j) = r0 (i + j)) :
    val (upd r (i + j) ((c + (ai * b j + r (i + j))) % 1073741824)) (i + (j + 1)) + (c + (ai * b j + r (i + j))) / 1073741824 * P (i + (j + 1)) = val r0 (i + (j + 1)) + ai * val b (j + 1) * P i := by
  have e := sum_step (x := ai * b j + r (i + j)) h
  rw [<- Nat.add_assoc, e, val_succ, val_succ, P_add, hr]
  grind
theorem mul_row {r r0 b : Nat -> Int} {i m : Nat} {c ai A : Int} (h : val r (i + m) + c * P (i + m) = val r0 (i + m) + ai * val b m * P i) (h0 : val r0 (i + m) = A * val b m) :
    val (upd r (i + m) c) (i + 1 + m) = (A + ai * P i) * val b m := by
  rw [show i + 1 + m = i + m + 1 by omega, val_succ, upd_same, val_upd_ge r _ (Nat.le_refl _), h, h0]
  grind
theorem nrm_of_top {d : Nat -> Int} {n t : Nat} (hd : Dig d n) (ht : t <= n) (htop : Top d t) (hz : ∀ i, t <= i -> i < n -> d i = 0) : Nrm d t ∧ val d t = val d n :=
  ⟨⟨hd.le ht, htop⟩, (val_zeros ht hz).symm⟩
def ord (a b : Int) : Int := if a < b then -1 else if b < a then 1 else 0
theorem ord_lt {a b : Int} (h : a < b) : ord a b = -1 := by simp [ord, h]
theorem ord_gt {a b : Int} (h : b < a) : ord a b = 1 := by simp [ord, h]; omega
theorem ord_eq {a b : Int} (h : a = b) : ord a b = 0 := by simp [ord, h]
theorem mul_le_r {a b c : Int} (h : a <= b) (hc : 0 <= c) : a * c <= b * c := Int.mul_le_mul_of_nonneg_right h hc
theorem mul_le_l {a b c : Int} (h : a <= b) (hc : 0 <= c) : c * a <= c * b := Int.mul_le_mul_of_nonneg_left h hc
theorem knuth_long {U V p v1 v2 vl head u2 ul times left : Int} (hV : V = (v1 * 1073741824 + v2) * p + vl) (hvl : vl < p) (hv2 : v2 < 1073741824) (hU : U = (head * 1073741824 + u2) * p + ul) (hul : 0 <= ul) (hu2 : 0 <= u2)
    (hp : 0 < p) (hh : head = times * v1 + left) (ht : 0 <= times) (ht2 : times < 1073741824) (h : 1073741824 <= left) : times * V <= U := by
  have h0 : v2 * p <= 1073741823 * p := mul_le_r (by omega) (by omega)
  have e0 : (v1 + 1) * (1073741824 * p) = v1 * 1073741824 * p + 1073741823 * p + p := by grind
  have e1 : V = v1 * 1073741824 * p + v2 * p + vl := by rw [hV]; grind
  have h1 : times * V <= times * ((v1 + 1) * (1073741824 * p)) := mul_le_l (by omega) ht
  have h2 : (times * v1 + times) * (1073741824 * p) <= head * (1073741824 * p) := mul_le_r (by omega) (by omega)
  have h3 : 0 <= u2 * p := Int.mul_nonneg hu2 (by omega)
  have e2 : U = head * (1073741824 * p) + u2 * p + ul := by rw [hU]; grind
  have e3 : times * ((v1 + 1) * (1073741824 * p)) = (times * v1 + times) * (1073741824 * p) := by grind
  omega
theorem knuth_short {U V p v1 v2 vl head u2 ul times left : Int} (hV : V = (v1 * 1073741824 + v2) * p + vl) (hvl0 : 0 <= vl) (hvl : vl < p) (hv1 : 1 <= v1) (hv2 : 0 <= v2) (hU : U = (head * 1073741824 + u2) * p + ul) (hul : 0 <= ul)
    (hp : 0 < p) (hh : head = times * v1 + left) (ht : 0 <= times) (ht2 : times < 1073741824) (h : times * v2 <= left * 1073741824 + u2) : (times - 1) * V <= U := by
  have h1 : times * vl <= times * p := mul_le_l (by omega) ht
  have h2 : times * v2 * p <= (left * 1073741824 + u2) * p := mul_le_r h (by omega)
  have h3 : times * p <= 1073741824 * p := mul_le_r (by omega) (by omega)
  have h4 : 1 * (1073741824 * p) <= v1 * (1073741824 * p) := mul_le_r hv1 (by omega)
  have h5 : 0 <= v2 * p := Int.mul_nonneg hv2 (by omega)
  have e0 : V = v1 * (1073741824 * p) + v2 * p + vl := by rw [hV]; grind
  have e1 : (times - 1) * V = times * v1 * 1073741824 * p + times * v2 * p + times * vl - V := by rw [hV]; grind
  have e2 : U = times * v1 * 1073741824 * p + (left * 1073741824 + u2) * p + ul := by rw [hU, hh]; grind
  omega
structure Steps (x0 y0 x y fA fB nA nB sg : Int) : Prop where
  sgn : sg = 1 ∨ sg = -1
  ex : x = sg * (fA * x0 - fB * y0)
  ey : y = sg * (nB * y0 - nA * x0)
  det : fA * nB - fB * nA = sg
  fA0 : 0 <= fA
  fB0 : 0 <= fB
  nA0 : 0 <= nA
  nB1 : 1 <= nB
theorem Steps.start (x0 y0 : Int) : Steps x0 y0 x0 y0 1 0 0 1 1 := ⟨.inl rfl, by omega, by omega, by omega, by omega, by omega, by omega, by omega⟩
theorem Steps.step {x0 y0 x y fA fB nA nB sg : Int} (h : Steps x0 y0 x y fA fB nA nB sg) {q : Int} (hq : 1 <= q) :
    Steps x0 y0 y (x - q * y) nA nB (fA + q * nA) (fB + q * nB) (-sg) := by
  have h1 := Int.mul_nonneg (show 0 <= q by omega) h.nA0
  have h2 : 1 * nB <= q * nB := mul_le_r hq (by have := h.nB1; omega)
  have hf := h.fA0
  have hg := h.fB0
  have hn := h.nB1
  refine ⟨by rcases h.sgn with e | e <;> omega, ?_, ?_, ?_, h.nA0, by omega, by omega, by omega⟩
  . rw [h.ey]; grind
  . rw [h.ey, h.ex]; grind
  . have := h.det; grind
theorem Steps.whole {x0 y0 x y fA fB nA nB sg S al be : Int} (h : Steps x0 y0 x y fA fB nA nB sg) (hS : 0 < S) (ha0 : 0 <= al) (ha : al < S) (hb0 : 0 <= be) (hb : be < S)
    (hab : nA <= nB) (hfb : fA <= fB) (hy : nB <= y) (hx : nB + fB <= x - y) :
    0 < sg * (nB * (y0 * S + be) - nA * (x0 * S + al)) ∧ sg * (nB * (y0 * S + be) - nA * (x0 * S + al)) < sg * (fA * (x0 * S + al) - fB * (y0 * S + be)) := by
  have hn := h.nB1
  have hf := h.fB0
  have k1 : nB * be <= nB * (S - 1) := mul_le_l (by omega) (by omega)
  have k2 : nA * al <= nA * (S - 1) := mul_le_l (by omega) h.nA0
  have k3 : nA * (S - 1) <= nB * (S - 1) := mul_le_r hab (by omega)
  have k4 : 0 <= nB * be := Int.mul_nonneg (by omega) hb0
  have k5 : 0 <= nA * al := Int.mul_nonneg h.nA0 ha0
  have k6 : nB * S <= y * S := mul_le_r hy (by omega)
  have k7 : (nB + fB) * S <= (x - y) * S := mul_le_r hx (by omega)
  have m1 : fB * be <= fB * (S - 1) := mul_le_l (by omega) hf
  have m2 : fA * al <= fA * (S - 1) := mul_le_l (by omega) h.fA0
  have m3 : fA * (S - 1) <= fB * (S - 1) := mul_le_r hfb (by omega)
  have m4 : 0 <= fB * be := Int.mul_nonneg hf hb0
  have m5 : 0 <= fA * al := Int.mul_nonneg h.fA0 ha0
  have ex := h.ex
  have ey := h.ey
  have e1 : nB * (y0 * S + be) - nA * (x0 * S + al) = (nB * y0 - nA * x0) * S + nB * be - nA * al := by grind
  have e2 : fA * (x0 * S + al) - fB * (y0 * S + be) = (fA * x0 - fB * y0) * S + fA * al - fB * be := by grind
  have e3 : nB * (S - 1) = nB * S - nB := by grind
  have e4 : fB * (S - 1) = fB * S - fB := by grind
  have e5 : (nB + fB) * S = nB * S + fB * S := by grind
  have e6 : (x - y) * S = x * S - y * S := by grind
  rw [e1, e2]
  rcases h.sgn with rfl | rfl
  . have e7 : (nB * y0 - nA * x0) * S = y * S := by rw [ey]; grind
    have e8 : (fA * x0 - fB * y0) * S = x * S := by rw [ex]; grind
    constructor <;> omega
  . have e7 : (nB * y0 - nA * x0) * S = - (y * S) := by rw [ey]; grind
    have e8 : (fA * x0 - fB * y0) * S = - (x * S) := by rw [ex]; grind
    constructor <;> omega
end Go.Proofs.YthpachmmjjlomaaGreatDoor.M
namespace Go.Proofs.YthpachmmjjlomaaGreatDoor
open Go Go.RowKit Go.Proofs.YthpachmmjjlomaaGreatDoor.M
set_option linter.unusedSimpArgs false
set_option linter.unusedVariables false
structure Wr (g : Nat) (w w' : World) : Prop where
  os : w'.os = w.os
  tape : w'.tape = w.tape
  output : w'.output = w.output
  size : w.heap.size <= w'.heap.size
  block : ∀ k, k < w.heap.size -> k ≠ g -> w'.heap[k]? = w.heap[k]?
theorem Wr.refl (g : Nat) (w : World) : Wr g w w := ⟨rfl, rfl, rfl, Nat.le_refl _, fun _ _ _ => rfl⟩
theorem Wr.trans {g : Nat} {a b c : World} (h : Wr g a b) (k : Wr g b c) : Wr g a c :=
  ⟨k.os.trans h.os, k.tape.trans h.tape, k.output.trans h.output, Nat.le_trans h.size k.size, fun i hi hg => (k.block i (Nat.lt_of_lt_of_le hi h.size) hg).trans (h.block i hi hg)⟩
theorem Wr.setCell {g : Nat} {a w : World} (h : Wr g a w) (o : Nat) (u : Value) : Wr g a (w.setCell ⟨g, o, none⟩ u) :=
  ⟨h.os, h.tape, h.output, by simp [World.setCell]; exact h.size, fun k hk hg => (Below.heap_setCell _ _ _ _ hg).trans (h.block k hk hg)⟩
theorem Wr.drew {g : Nat} {a w : World} (h : Wr g a w) : Wr g a w.drew := ⟨h.os, h.tape, h.output, h.size, h.block⟩
theorem Wr.drewN {g : Nat} {a w : World} (h : Wr g a w) (n : Nat) : Wr g a (w.drewN n) := ⟨h.os, h.tape, h.output, h.size, h.block⟩
theorem Below.wr {B g : Nat} {a w : World} (h : Below B a w) (hB : w.heap.size <= B) : Wr g w w -> Below B a w := fun _ => h
theorem wr_of {g : Nat} {a w : World} (h : Below a.heap.size a w) : Wr g a w := ⟨h.os, h.tape, h.output, h.size, fun k hk _ => h.block k hk⟩
theorem Wr.below {B g : Nat} {a w w' : World} (h : Wr g w w') (hb : Below B a w) (hB : B <= w.heap.size) (hg : B <= g) : Below B a w' :=
  hb.trans ⟨h.os, h.tape, h.output, h.size, fun k hk => h.block k (by omega) (by omega)⟩
theorem Wr.cell {g : Nat} {w w' : World} (h : Wr g w w') {p : Addr} (hp : p.block < w.heap.size) (hg : p.block ≠ g) : w'.cell? p = w.cell? p := World.cell?_of_block (w := w) (h.block p.block hp hg)
structure RowX (g : Nat) (w : World) (ao : Option Addr) (n cap : Nat) (d : Nat -> Int) : Prop where
  le : n <= cap
  max : cap <= 9223372036854775807
  spot : 0 < n -> ∃ b off, ao = some ⟨b, off, none⟩ ∧ b < w.heap.size ∧ b ≠ g ∧ ∀ i, i < n -> w.cell? ⟨b, off + i, none⟩ = some (.int .i64 (d i))
theorem RowX.keeps {g : Nat} {w w' : World} {ao : Option Addr} {n cap : Nat} {d : Nat -> Int} (h : RowX g w ao n cap d) (hw : Wr g w w') : RowX g w' ao n cap d :=
  ⟨h.le, h.max, fun hn => by
    obtain ⟨b, off, rfl, hlt, hg, hc⟩ := h.spot hn
    exact ⟨b, off, rfl, Nat.lt_of_lt_of_le hlt hw.size, hg, fun i hi => (hw.cell (p := ⟨b, off + i, none⟩) hlt hg).trans (hc i hi)⟩⟩
theorem RowX.of {g : Nat} {w : World} {ao : Option Addr} {n cap : Nat} {d : Nat -> Int} (h : Row w ao n cap d) (hg : w.heap.size <= g) : RowX g w ao n cap d :=
  ⟨h.le, h.max, fun hn => by
    obtain ⟨b, off, rfl, hlt, hc⟩ := h.spot hn
    exact ⟨b, off, rfl, hlt, by omega, hc⟩⟩
theorem Out.store {B : Nat} {w : World} {g n cap : Nat} {d : Nat -> Int} (h : Out B w (.slice (some ⟨g, 0, none⟩) n cap) n d) {i : Nat} (hi : i < n) (x : Int) :
    Out B (w.setCell ⟨g, i, none⟩ (.int .i64 x)) (.slice (some ⟨g, 0, none⟩) n cap) n (upd d i x) := by
  have h1 := (World.ownsRow.stored h i (.int .i64 x)).1
  unfold Out
  have e : vals (upd d i x) n = (vals d n).set i (.int .i64 x) := by
    refine (vals_ext (by simp [vals_length]) fun j hj => ?_).symm
    by_cases hji : j = i
    . subst hji; rw [upd_same, List.getElem?_set_self (by rw [vals_length]; exact hj)]
    . rw [upd_other d x hji, List.getElem?_set_ne (by omega), vals_get d hj]
  rw [e]; exact h1
theorem Out.spot {B : Nat} {w : World} {ao : Option Addr} {n cap : Nat} {d : Nat -> Int} (h : Out B w (.slice ao n cap) n d) (hn : 0 < n) : ∃ g, ao = some ⟨g, 0, none⟩ ∧ B <= g ∧ g < w.heap.size := by
  rcases h.2 with ⟨_, h0⟩ | ⟨g, cap', cur, hv, hB, hg, _⟩
  . omega
  . simp only [Value.slice.injEq] at hv
    exact ⟨g, hv.1, hB, (Array.getElem?_eq_some_iff.1 hg).1⟩
theorem Out.cell {B : Nat} {w : World} {g n cap : Nat} {d : Nat -> Int} (h : Out B w (.slice (some ⟨g, 0, none⟩) n cap) n d) {i : Nat} (hi : i < n) : w.cell? ⟨g, i, none⟩ = some (.int .i64 (d i)) := by
  rw [World.ownsRow.cellAt h i (by omega), vals_get d hi]
theorem Out.frozen {B : Nat} {w : World} {g n cap : Nat} {d : Nat -> Int} (h : Out B w (.slice (some ⟨g, 0, none⟩) n cap) n d) (i : Nat) : w.frozen? ⟨g, i, none⟩ = false := World.ownsRow.frozenAt h i
end Go.Proofs.YthpachmmjjlomaaGreatDoor
namespace Go.Proofs.YthpachmmjjlomaaGreatDoor.M
open Go
set_option linter.unusedSimpArgs false
set_option linter.unusedVariables false
def LL : Nat := 4194304
def pw (e : Int) : Int := 2 ^ (e + 4194304).toNat
def sg (b : Bool) (x : Int) : Int := if b then -x else x
theorem pw_pos (e : Int) : 0 < pw e := two_pos _
theorem pw_add {e : Int} (h : -4194304 <= e) (l : Nat) : pw (e + l) = pw e * 2 ^ l := by
  unfold pw
  rw [show (e + l + 4194304).toNat = (e + 4194304).toNat + l by omega, Int.pow_add]
theorem pw_sub {e low : Int} (h : -4194304 <= low) (h1 : low <= e) : pw e = 2 ^ (e - low).toNat * pw low := by
  have := pw_add h (e - low).toNat
  rw [show low + ((e - low).toNat : Int) = e by omega] at this
  rw [this, Int.mul_comm]
theorem pw_mul {a b : Int} (ha : -2097152 <= a) (hb : -2097152 <= b) : pw a * pw b = pw (a + b) * 2 ^ 4194304 := by
  unfold pw
  rw [<- Int.pow_add, <- Int.pow_add, show (a + 4194304).toNat + (b + 4194304).toNat = (a + b + 4194304).toNat + 4194304 by omega]
theorem sg_mul (a b : Bool) (x y : Int) : sg a x * sg b y = sg (a != b) (x * y) := by
  cases a <;> cases b <;> simp [sg, Int.neg_mul, Int.mul_neg]
theorem sg_sgn (b : Bool) (x : Int) : sg b x = (if b then -1 else 1) * x := by cases b <;> simp [sg]
theorem sg_not (b : Bool) (x : Int) : sg (!b) x = -sg b x := by cases b <;> simp [sg]
theorem sg_zero (b : Bool) : sg b 0 = 0 := by cases b <;> rfl
theorem sg_eq_zero {b : Bool} {x : Int} (h : sg b x = 0) : x = 0 := by cases b <;> simp [sg] at h <;> exact h
structure Dy (V : Int) (ng : Bool) (m e : Int) : Prop where
  val : V = sg ng m * pw e
  low : -4194304 <= e
  form : (m = 0 ∧ ng = false ∧ e = 0) ∨ (0 < m ∧ m % 2 = 1)
def Dok (V : Int) : Prop := ∃ ng m e, Dy V ng m e ∧ m < P 2000 ∧ -1048576 <= e ∧ e <= 1048576
theorem Dy.zero : Dy 0 false 0 0 := ⟨by simp [sg], by decide, .inl ⟨rfl, rfl, rfl⟩⟩
theorem dok_zero : Dok 0 := ⟨_, _, _, Dy.zero, P_pos _, by decide, by decide⟩
theorem Dy.eq_zero {V : Int} {ng : Bool} {m e : Int} (h : Dy V ng m e) : V = 0 ↔ m = 0 := by
  constructor
  . intro h0
    have := h.val
    rw [h0] at this
    rcases Int.mul_eq_zero.1 this.symm with h1 | h1
    . exact sg_eq_zero h1
    . have := pw_pos e; omega
  . intro h0
    rw [h.val, h0, sg_zero, Int.zero_mul]
theorem Dy.nonneg {V : Int} {ng : Bool} {m e : Int} (h : Dy V ng m e) : 0 <= m := by rcases h.form with h | h <;> omega
theorem Dy.neg_iff {V : Int} {ng : Bool} {m e : Int} (h : Dy V ng m e) : ng = true ↔ V < 0 := by
  have hp := pw_pos e
  rcases h.form with ⟨h1, h2, h3⟩ | ⟨h1, _⟩
  . have := h.eq_zero.2 h1; simp [h2]; omega
  . have hm : 0 < m * pw e := Int.mul_pos h1 hp
    have := h.val
    cases ng
    . simp [sg] at this; simp; omega
    . simp [sg, Int.neg_mul] at this; simp; omega
theorem odd_pow {m m' : Int} {a b : Nat} (h : m % 2 = 1) (h' : m' % 2 = 1) (e : m * 2 ^ a = m' * 2 ^ b) : ¬ a < b := by
  intro hlt
  obtain ⟨d, rfl⟩ : ∃ d, b = a + 1 + d := ⟨b - a - 1, by omega⟩
  rw [Int.pow_add, Int.pow_add] at e
  have e1 : m * 2 ^ a = (m' * (2 ^ d * 2)) * 2 ^ a := by rw [e]; grind
  have e2 := Int.eq_of_mul_eq_mul_right (Int.ne_of_gt (two_pos a)) e1
  rw [show m' * (2 ^ d * 2) = 2 * (m' * 2 ^ d) by grind] at e2
  omega
theorem Dy.unique {V : Int} {ng ng' : Bool} {m m' e e' : Int} (h : Dy V ng m e) (k : Dy V ng' m' e') : ng = ng' ∧ m = m' ∧ e = e' := by
  have hn : ng = ng' := by
    have a := h.neg_iff
    have b := k.neg_iff
    cases ng <;> cases ng' <;> simp_all <;> omega
  subst hn
  rcases h.form with ⟨h1, h2, h3⟩ | ⟨h1, h2⟩
  . have h0 := k.eq_zero.1 (h.eq_zero.2 h1)
    rcases k.form with ⟨k1, k2, k3⟩ | ⟨k1, k2⟩
    . exact ⟨rfl, by omega, by omega⟩
    . omega
  . rcases k.form with ⟨k1, k2, k3⟩ | ⟨k1, k2⟩
    . have := h.eq_zero.1 (k.eq_zero.2 k1); omega
    . have e1 : m * pw e = m' * pw e' := by
        have := h.val.symm.trans k.val
        cases ng
        . simpa [sg] using this
        . simpa [sg, Int.neg_mul] using this
      have a1 := odd_pow h2 k2 e1
      have a2 := odd_pow k2 h2 e1.symm
      have l1 := h.low
      have l2 := k.low
      obtain rfl : e = e' := by omega
      exact ⟨rfl, Int.eq_of_mul_eq_mul_right (Int.ne_of_gt (pw_pos _)) e1, rfl⟩
theorem Dy.ok {V : Int} {ng : Bool} {m e : Int} (h : Dy V ng m e) : Dok V ↔ m < P 2000 ∧ -1048576 <= e ∧ e <= 1048576 := by
  constructor
  . rintro ⟨ng', m', e', k, h3⟩
    obtain ⟨_, rfl, rfl⟩ := h.unique k
    exact h3
  . exact fun h3 => ⟨_, _, _, h, h3⟩
theorem Dy.neg {V : Int} {ng : Bool} {m e : Int} (h : Dy V ng m e) (h0 : 0 < m) : Dy (-V) (!ng) m e :=
  ⟨by rw [sg_not, Int.neg_mul, <- h.val], h.low, by rcases h.form with ⟨h1, _⟩ | h1; (· omega); (· exact .inr h1)⟩
theorem sg_abs {V : Int} {ng : Bool} {m e : Int} (h : Dy V ng m e) : m * pw e = V.natAbs := by
  have := h.val
  have h0 := h.nonneg
  have : 0 <= m * pw e := Int.mul_nonneg h0 (Int.le_of_lt (pw_pos _))
  cases ng <;> simp [sg, Int.neg_mul] at * <;> omega
theorem Dy.abs {V : Int} {ng : Bool} {m e : Int} (h : Dy V ng m e) : Dy V.natAbs false m e :=
  ⟨by rw [<- sg_abs h]; simp [sg], h.low, by rcases h.form with ⟨h1, _, h3⟩ | h1; (· exact .inl ⟨h1, rfl, h3⟩); (· exact .inr h1)⟩
theorem isLow_odd {M : Int} {l : Nat} (h : IsLow M l) (h0 : 0 < M) : 0 < M / 2 ^ l ∧ (M / 2 ^ l) % 2 = 1 ∧ M / 2 ^ l * 2 ^ l = M := by
  obtain ⟨k, hk⟩ := h
  have hp := two_pos l
  have e : M / 2 ^ l = 2 * k + 1 := by rw [hk]; exact Int.mul_ediv_cancel _ (by omega)
  rw [e]
  refine ⟨?_, by omega, hk.symm⟩
  by_cases h1 : 0 < 2 * k + 1
  . exact h1
  . have : (2 * k + 1) * 2 ^ l <= 0 := Int.mul_nonpos_of_nonpos_of_nonneg (by omega) (by omega)
    omega
theorem Dy.of {M e : Int} {l : Nat} (ng : Bool) (h : IsLow M l) (h0 : 0 < M) (he : -4194304 <= e) : Dy (sg ng M * pw e) ng (M / 2 ^ l) (e + l) := by
  obtain ⟨a, b, c⟩ := isLow_odd h h0
  refine ⟨?_, by omega, .inr ⟨a, b⟩⟩
  rw [pw_add he, sg_sgn, sg_sgn]
  rw [show (if ng = true then (-1 : Int) else 1) * (M / 2 ^ l) * (pw e * 2 ^ l) = (if ng = true then (-1 : Int) else 1) * (M / 2 ^ l * 2 ^ l) * pw e by grind, c]
theorem Dy.sum {V V' : Int} {low s s' : Int} (h : V = s * pw low) (h' : V' = s' * pw low) : V + V' = (s + s') * pw low := by rw [h, h', Int.add_mul]
theorem Dy.at {V : Int} {ng : Bool} {m e low : Int} (h : Dy V ng m e) (hl : -4194304 <= low) (h1 : low <= e) : V = sg ng (m * 2 ^ (e - low).toNat) * pw low := by
  rw [h.val, pw_sub hl h1, sg_sgn, sg_sgn]; grind
theorem scale_inj {x y : Int} (h : x * 2 ^ 4194304 = y * 2 ^ 4194304) : x = y := Int.eq_of_mul_eq_mul_right (Int.ne_of_gt (two_pos _)) h
end Go.Proofs.YthpachmmjjlomaaGreatDoor.M
namespace Go.Proofs.YthpachmmjjlomaaGreatDoor
open Go Go.RowKit Go.Proofs.YthpachmmjjlomaaGreatDoor.M
set_option linter.unusedSimpArgs false
set_option linter.unusedVariables false
theorem blkC {w : World} {g : Nat} {xs : Array Value} {t : TypeId} (h : w.heap[g]? = some (.cells xs t (0, 0))) (i : Nat) {v : Value} (hi : xs[i]? = some v) : w.cell? ⟨g, i, none⟩ = some v := by
  rw [cell_of_row w g i xs _ _ h]; exact hi
theorem blkF {w : World} {g : Nat} {xs : Array Value} {t : TypeId} (h : w.heap[g]? = some (.cells xs t (0, 0))) (i : Nat) : w.frozen? ⟨g, i, none⟩ = false := by
  simp [World.frozen?, h]
theorem heap_a2 (w : World) (a b : Obj) : ((w.alloc a).alloc b).heap[w.heap.size]? = some a := by
  show ((w.heap.push a).push b)[w.heap.size]? = some a
  simp [Array.getElem?_push]
theorem heap_b2 (w : World) (a b : Obj) : ((w.alloc a).alloc b).heap[w.heap.size + 1]? = some b := by
  show ((w.heap.push a).push b)[w.heap.size + 1]? = some b
  rw [Array.getElem?_push, if_pos (by simp)]
theorem size2 (w : World) (a b : Obj) : ((w.alloc a).alloc b).heap.size = w.heap.size + 2 := by
  show ((w.heap.push a).push b).size = _
  simp
theorem Out.set_below {B : Nat} {w : World} {v : Value} {n : Nat} {d : Nat -> Int} (h : Out B w v n d) {a : Addr} (ha : a.block < B) (u : Value) : Out B (w.setCell a u) v n d := ownsRow_setCell_below h ha u
def DNum (w : World) (v : Value) (V : Int) : Prop := ∃ ng s m e, v = .agg #[.bool ng, s, .int .i64 e] ∧ Dy V ng m e ∧ Num w s m
def DAns (w w' : World) (V : Int) (v : Value) : Prop := ∃ ng s m e, v = .agg #[.bool ng, s, .int .i64 e] ∧ Dy V ng m e ∧ Ans w w' m s
def zeroV : Value := .agg #[.bool false, .slice none 0 0, .int .i64 0]
theorem DAns.below {w w' : World} {V : Int} {v : Value} (h : DAns w w' V v) : Below w.heap.size w w' := by
  obtain ⟨ng, s, m, e, _, _, h3⟩ := h
  exact h3.below
theorem DAns.num {w w' : World} {V : Int} {v : Value} (h : DAns w w' V v) : DNum w' v V := by
  obtain ⟨ng, s, m, e, h1, h2, h3⟩ := h
  exact ⟨ng, s, m, e, h1, h2, h3.num⟩
theorem DAns.from {w0 w w' : World} {V : Int} {v : Value} (h : DAns w w' V v) (hb : Below w0.heap.size w0 w) : DAns w0 w' V v := by
  obtain ⟨ng, s, m, e, h1, h2, h3⟩ := h
  exact ⟨ng, s, m, e, h1, h2, h3.from hb⟩
theorem DAns.stays {w w1 w2 : World} {V : Int} {v : Value} (h : DAns w w1 V v) (hb : Below w1.heap.size w1 w2) : DAns w w2 V v := by
  obtain ⟨ng, s, m, e, h1, h2, h3⟩ := h
  exact ⟨ng, s, m, e, h1, h2, h3.stays hb⟩
theorem DAns.zero {w w' : World} (hb : Below w.heap.size w w') : DAns w w' 0 zeroV := ⟨_, _, _, _, rfl, Dy.zero, Ans.nil hb⟩
theorem DNum.keeps {w w' : World} {v : Value} {V : Int} (h : DNum w v V) (hb : Below w.heap.size w w') : DNum w' v V := by
  obtain ⟨ng, s, m, e, h1, h2, h3⟩ := h
  exact ⟨ng, s, m, e, h1, h2, h3.keeps hb⟩
theorem DNum.zero (w : World) : DNum w zeroV 0 := (DAns.zero (bel_refl w)).num
def DFit (w w' : World) (V : Int) (v : Value) (er : Int) : Prop := Below w.heap.size w w' ∧ ((Dok V ∧ er = 0 ∧ DAns w w' V v) ∨ (¬ Dok V ∧ er = 2 ∧ v = zeroV))
theorem if_nil (w : World) : (binOp .eql 20 Value.nilIface Value.nilIface).run Tryz.prog w = .ok (.bool true) w := by kernel_rfl
theorem if_not (w : World) : (binOp .eql 20 (.iface 29 (.int .i64 2)) Value.nilIface).run Tryz.prog w = .ok (.bool false) w := by kernel_rfl
theorem if_long (w : World) : (binOp .eql 20 (.iface 29 (.int .i64 2)) (.iface 29 (.int .i64 2))).run Tryz.prog w = .ok (.bool true) w := by kernel_rfl
theorem catch_panicking (p : Addr) (x : Value) (older : List PanicEntry) (w : World) (hc : w.cell? p = some x) (hz : w.frozen? p = false) :
    CallsD Tryz.prog 105 #[.pointer (some p)] (.panicking ({ v := .iface 29 (.int .i64 2), recovered := false } :: older)) w fun e u' w' =>
      e = .returned (.tuple #[]) ∧ u' = .panicking ({ v := .iface 29 (.int .i64 2), recovered := true } :: older) ∧ w' = w.setCell p (.int .i64 2) := by
  have h1 := if_not
  have h2 := if_long
  refine callsD_of_wpS Tryz.func105 rfl fun c₀ cs hu => ?_
  apply wpS_seq
  apply wpS_region
  simp [wpOpsS, go_sem, recoverD, hu, Tryz.ntmps105, Exit.thenS]
  refine wpS_of_wp ?_
  go_wp2
  simp [bodyPostS, results, Tryz.results105]
theorem catch_idle (p : Addr) (w : World) :
    CallsD Tryz.prog 105 #[.pointer (some p)] .returning w fun e u' w' => e = .returned (.tuple #[]) ∧ u' = .returning ∧ w' = w := by
  have h1 := if_nil
  refine callsD_of_wpS Tryz.func105 rfl fun c₀ cs hu => ?_
  apply wpS_seq
  apply wpS_region
  simp [wpOpsS, go_sem, recoverD, hu, Tryz.ntmps105, Exit.thenS]
  refine wpS_of_wp ?_
  go_wp2
  cases c₀
  simp_all [bodyPostS, results, Tryz.results105]
set_option maxRecDepth 100000 in
set_option maxHeartbeats 1000000 in
theorem told_no (F : Nat) (cap : Array Value) (w : World) (hE : ∀ w, (callFunc F cap).run Tryz.prog w = .ok (.enter F cap) w) (hF : ∀ W, Below w.heap.size w W -> Calls Tryz.prog F cap W fun r W' => r = .panicked [{ v := .iface 29 (.int .i64 2), recovered := false }] ∧ Below W.heap.size W W') :
    Calls Tryz.prog 72 #[.func (.func F) #[] cap] w fun r w' => r = .returned (.tuple #[.agg #[.bool false, .slice none 0 0, .int .i64 0], .int .i64 2]) ∧ Below w.heap.size w w' := by
  have hmf : ∀ (fn : Fn) (first cap : Array Value) (w : World), (Instr.makeFunc fn first cap).run Tryz.prog w = .ok (.func fn first cap) w := fun _ _ _ _ => rfl
  go_enter_defers Tryz.func72, Tryz.ntmps72
  go_wp2_with fail
  refine (hF _ (bel_alloc2 _ _ _)).mono ?_
  rintro r W' ⟨rfl, hb⟩
  have q1 := (hb.block (w.heap.size + 1) (by rw [size2]; omega)).trans (heap_b2 _ _ _)
  have q0 := (hb.block w.heap.size (by rw [size2]; omega)).trans (heap_a2 _ _ _)
  have f0 := blkF q1 0
  have k0 := blkC q1 0 rfl
  go_wp2_with fail
  refine leaves_cons (f := 105) (args := #[.pointer (some ⟨w.heap.size + 1, 0, none⟩)]) (by simp) (by simp [go_sem]) ?_
  refine (catch_panicking ⟨w.heap.size + 1, 0, none⟩ _ [] _ k0 f0).mono ?_
  rintro e u' w'' ⟨rfl, rfl, rfl⟩
  have c0 := blkC q0 0 rfl
  have c1 := blkC q0 1 rfl
  have c2 := blkC q0 2 rfl
  simp [Leaves, settle, results, Tryz.results72, go_sem, c0, c1, c2, k0]
  exact ((bel_alloc2 _ _ _).trans (hb.mono (bel_alloc2 _ _ _).size)).setCell (Nat.le_succ _) _
theorem dans_res {w W w3 : World} {V : Int} {v : Value} (hv : DAns W w3 V v) (hb : Below w.heap.size w W) {g : Nat} (h0 : w.heap.size <= g) (h1 : g + 1 < W.heap.size) (a b c x : Value) :
    DAns w ((((w3.setCell ⟨g, 0, none⟩ a).setCell ⟨g, 1, none⟩ b).setCell ⟨g, 2, none⟩ c).setCell ⟨g + 1, 0, none⟩ x) V v := by
  obtain ⟨ng, s, m, e, h2, h3, t, d, hO, hN, hV, hB⟩ := hv
  refine ⟨ng, s, m, e, h2, h3, t, d, ?_, hN, hV, ?_⟩
  . exact ((((hO.set_below (a := ⟨g, 0, none⟩) (by show g < _; omega) a).set_below (a := ⟨g, 1, none⟩) (by show g < _; omega) b).set_below (a := ⟨g, 2, none⟩) (by show g < _; omega) c).set_below (a := ⟨g + 1, 0, none⟩) h1 x).lower hb.size
  . exact ((((hb.trans (hB.mono hb.size)).setCell (p := ⟨g, 0, none⟩) h0 a).setCell (p := ⟨g, 1, none⟩) h0 b).setCell (p := ⟨g, 2, none⟩) h0 c).setCell (p := ⟨g + 1, 0, none⟩) (Nat.le_succ_of_le h0) x
set_option maxRecDepth 100000 in
set_option maxHeartbeats 1000000 in
theorem told_yes (F : Nat) (cap : Array Value) (w : World) (V : Int) (hE : ∀ w, (callFunc F cap).run Tryz.prog w = .ok (.enter F cap) w) (hF : ∀ W, Below w.heap.size w W -> Calls Tryz.prog F cap W fun r W' => ∃ v, r = .returned v ∧ DAns W W' V v) :
    Calls Tryz.prog 72 #[.func (.func F) #[] cap] w fun r w' => ∃ v, r = .returned (.tuple #[v, .int .i64 0]) ∧ DAns w w' V v := by
  have hmf : ∀ (fn : Fn) (first cap : Array Value) (w : World), (Instr.makeFunc fn first cap).run Tryz.prog w = .ok (.func fn first cap) w := fun _ _ _ _ => rfl
  go_enter_defers Tryz.func72, Tryz.ntmps72
  go_wp2_with fail
  refine (hF _ (bel_alloc2 _ _ _)).mono ?_
  rintro r W' ⟨v, rfl, hD⟩
  have hb := hD.below
  obtain ⟨ng, s, m, e, rfl, hy, hA⟩ := id hD
  obtain ⟨so, sn, sc, rfl⟩ := hA.num.shape
  have q1 := (hb.block (w.heap.size + 1) (by rw [size2]; omega)).trans (heap_b2 _ _ _)
  have q0 := (hb.block w.heap.size (by rw [size2]; omega)).trans (heap_a2 _ _ _)
  have f0 := blkF q1 0
  have k0 := blkC q1 0 rfl
  have c0 := blkC q0 0 rfl
  have c1 := blkC q0 1 rfl
  have c2 := blkC q0 2 rfl
  have z0 := blkF q0 0
  have z1 := blkF q0 1
  have z2 := blkF q0 2
  go_wp2_with fail
  refine leaves_cons (f := 105) (args := #[.pointer (some ⟨w.heap.size + 1, 0, none⟩)]) (by simp) (by simp [go_sem]) ?_
  refine (catch_idle ⟨w.heap.size + 1, 0, none⟩ _).mono ?_
  rintro e u' w'' ⟨rfl, rfl, rfl⟩
  simp [Leaves, settle, results, Tryz.results72, go_sem, c0, c1, c2, k0]
  exact dans_res (g := w.heap.size) hD (bel_alloc2 _ _ _) (Nat.le_refl _) (by rw [size2]; omega) _ _ _ _
end Go.Proofs.YthpachmmjjlomaaGreatDoor
