/-
  Parts of the proof, one behind another.
-/
import Derived.Test.YtnhkagiionkjaaaGreatDoorPart2
import Derived.Deep.AppendLies
import Derived.Deep.RegionHeld3
import Derived.Deep.RegionLaw
/-
  plumblaw2's Keep: lists of answers that are kept, in memory: what it is (Kp), Add, by its contract.
-/
namespace Go.Proofs.YtnhkagiionkjaaaGreatDoor
open Go Go.RowKit Go.Proofs.YtnhkagiionkjaaaGreatDoor.M
set_option linter.unusedSimpArgs false
set_option linter.unusedVariables false

/-- One put in another's place. -/
def updV {α : Type} (v : Nat → α) (i : Nat) (x : α) : Nat → α := fun j => if j = i then x else v j
theorem updV_same {α : Type} (v : Nat → α) (i : Nat) (x : α) : updV v i x i = x := by simp [updV]
theorem updV_other {α : Type} (v : Nat → α) {i j : Nat} (x : α) (h : j ≠ i) : updV v i x j = v j := by simp [updV, h]
/-- The first m of v. -/
def valsV (v : Nat → Value) (m : Nat) : List Value := (List.range m).map v
theorem valsV_length (v : Nat → Value) (m : Nat) : (valsV v m).length = m := by simp [valsV]
theorem valsV_get (v : Nat → Value) {m i : Nat} (h : i < m) : (valsV v m)[i]? = some (v i) := by simp [valsV, h]
theorem valsV_snoc (v : Nat → Value) (m : Nat) (x : Value) : valsV v m ++ [x] = valsV (updV v m x) (m + 1) := by
  apply List.ext_getElem?
  intro i
  by_cases h : i < m
  · rw [List.getElem?_append_left (by rw [valsV_length]; exact h), valsV_get v h, valsV_get _ (by omega), updV_other v x (by omega)]
  · by_cases e : i = m
    · subst e; rw [List.getElem?_append_right (by rw [valsV_length]; omega), valsV_length, valsV_get _ (by omega), updV_same]; simp
    · rw [List.getElem?_eq_none (by simp [valsV_length]; omega), List.getElem?_eq_none (by rw [valsV_length]; omega)]
/-- A list of slices that is the call's own. -/
def OutV (B : Nat) (w : World) (x : Value) (m : Nat) (v : Nat → Value) : Prop := w.ownsRow B 23 1 x m (valsV v m)
theorem OutV.shape {B : Nat} {w : World} {x : Value} {m : Nat} {v : Nat → Value} (h : OutV B w x m v) : ∃ xo xc, x = .slice xo m xc ∧ m ≤ xc ∧ xc ≤ 9223372036854775807 ∧ (0 < m → ∃ g, xo = some ⟨g, 0, none⟩) := by
  rcases h.2 with ⟨rfl, rfl⟩ | ⟨g, cap, cur, rfl, hb, hg, hn, hm, _⟩
  · exact ⟨none, 0, rfl, Nat.le_refl _, by decide, fun h => by omega⟩
  · exact ⟨_, cap, rfl, hn, by unfold maxLen at hm; exact hm, fun _ => ⟨g, rfl⟩⟩
theorem OutV.of_block {B : Nat} {w w' : World} {x : Value} {m : Nat} {v : Nat → Value} (h : OutV B w x m v) (hb : ∀ g, x.ownBlock = some g → w'.heap[g]? = w.heap[g]?) : OutV B w' x m v := by
  refine ⟨h.1, ?_⟩
  rcases h.2 with hn | ⟨g, cap, cur, rfl, hbb, hg, rest⟩
  · exact .inl hn
  · exact .inr ⟨g, cap, cur, rfl, hbb, (hb g rfl).trans hg, rest⟩
theorem Out.of_block {B : Nat} {w w' : World} {x : Value} {n : Nat} {d : Nat → Int} (h : Out B w x n d) (hb : ∀ g, x.ownBlock = some g → w'.heap[g]? = w.heap[g]?) : Out B w' x n d := by
  refine ⟨h.1, ?_⟩
  rcases h.2 with hn | ⟨g, cap, cur, rfl, hbb, hg, rest⟩
  · exact .inl hn
  · exact .inr ⟨g, cap, cur, rfl, hbb, (hb g rfl).trans hg, rest⟩
theorem Out.typed {B : Nat} {w : World} {x : Value} {n : Nat} {d : Nat → Int} (h : Out B w x n d) {g : Nat} (hg : x.ownBlock = some g) : ∃ cur z, w.heap[g]? = some (.cells cur 3 z) := by
  rcases h.2 with ⟨rfl, _⟩ | ⟨g', cap, cur, rfl, hbb, hg', rest⟩
  · simp [Value.ownBlock] at hg
  · simp only [Value.ownBlock, Option.some.injEq] at hg; subst hg; exact ⟨cur, _, hg'⟩
theorem OutV.typed {B : Nat} {w : World} {x : Value} {n : Nat} {v : Nat → Value} (h : OutV B w x n v) {g : Nat} (hg : x.ownBlock = some g) : ∃ cur z, w.heap[g]? = some (.cells cur 23 z) := by
  rcases h.2 with ⟨rfl, _⟩ | ⟨g', cap, cur, rfl, hbb, hg', rest⟩
  · simp [Value.ownBlock] at hg
  · simp only [Value.ownBlock, Option.some.injEq] at hg; subst hg; exact ⟨cur, _, hg'⟩
theorem OutV.ge {B : Nat} {w : World} {x : Value} {n : Nat} {v : Nat → Value} (h : OutV B w x n v) {g : Nat} (hg : x.ownBlock = some g) : B ≤ g ∧ g < w.heap.size := by
  rcases h.2 with ⟨rfl, _⟩ | ⟨g', cap, cur, rfl, hbb, hg', rest⟩
  · simp [Value.ownBlock] at hg
  · simp only [Value.ownBlock, Option.some.injEq] at hg; subst hg; exact ⟨hbb, (Array.getElem?_eq_some_iff.1 hg').1⟩
theorem Out.ge {B : Nat} {w : World} {x : Value} {n : Nat} {v : Nat → Int} (h : Out B w x n v) {g : Nat} (hg : x.ownBlock = some g) : B ≤ g ∧ g < w.heap.size := by
  rcases h.2 with ⟨rfl, _⟩ | ⟨g', cap, cur, rfl, hbb, hg', rest⟩
  · simp [Value.ownBlock] at hg
  · simp only [Value.ownBlock, Option.some.injEq] at hg; subst hg; exact ⟨hbb, (Array.getElem?_eq_some_iff.1 hg').1⟩
/-- All blocks are left as they are but those of lists of slices and of Keep itself. -/
structure Ik (B : Nat) (w w' : World) : Prop where
  below : Below B w w'
  block : ∀ (g : Nat) (cur : Array Value) (t : TypeId) z, t ≠ 23 → t ≠ 34 → w.heap[g]? = some (Obj.cells cur t z) → w'.heap[g]? = w.heap[g]?
theorem Ik.refl (B : Nat) (w : World) : Ik B w w := ⟨Below.refl _ _, fun _ _ _ _ _ _ _ => rfl⟩
theorem Ik.trans {B : Nat} {a b c : World} (h : Ik B a b) (k : Ik B b c) : Ik B a c :=
  ⟨h.below.trans k.below, fun g cur t z t1 t2 hg => (k.block g cur t z t1 t2 ((h.block g cur t z t1 t2 hg).trans hg)).trans (h.block g cur t z t1 t2 hg)⟩
theorem Ik.of {B : Nat} {a b : World} (h : Below a.heap.size a b) (hB : B ≤ a.heap.size) : Ik B a b :=
  ⟨h.mono hB, fun g cur t z _ _ hg => h.block g (Array.getElem?_eq_some_iff.1 hg).1⟩
theorem Out.ik {B B' : Nat} {w w' : World} {x : Value} {n : Nat} {d : Nat → Int} (h : Out B w x n d) (k : Ik B' w w') : Out B w' x n d :=
  h.of_block fun g hg => by obtain ⟨cur, z, hc⟩ := h.typed hg; exact k.block g cur _ z (by decide) (by decide) hc
/-- Blocks that were there are left, but those of lists of slices and of Keep itself. -/
def Fr (w w' : World) : Prop := ∀ (g : Nat) (cur : Array Value) (t : TypeId) z, t ≠ 23 → t ≠ 34 → w.heap[g]? = some (Obj.cells cur t z) → w'.heap[g]? = w.heap[g]?
theorem Ik.fr {B : Nat} {w w' : World} (h : Ik B w w') : Fr w w' := h.block
theorem Fr.of {w w' : World} (h : Below w.heap.size w w') : Fr w w' := fun g cur t z _ _ hg => h.block g (Array.getElem?_eq_some_iff.1 hg).1
theorem Fr.trans {a b c : World} (h : Fr a b) (k : Fr b c) : Fr a c := fun g cur t z t1 t2 hg => (k g cur t z t1 t2 ((h g cur t z t1 t2 hg).trans hg)).trans (h g cur t z t1 t2 hg)
theorem Fr.wr {w w' w'' : World} {g : Nat} (h : Fr w w') (hw : Wr g w' w'') (hg : w.heap.size ≤ g) (hs : w.heap.size ≤ w'.heap.size) : Fr w w'' := fun k cur t z t1 t2 hk => by
  have hlt := (Array.getElem?_eq_some_iff.1 hk).1
  exact (hw.block k (by omega) (by omega)).trans (h k cur t z t1 t2 hk)
/-- What is kept: m answers v, what they were (u), of n digits d. -/
structure Kp (B : Nat) (w : World) (k m : Nat) (v u : Nat → Value) (n : Nat → Nat) (d : Nat → Nat → Int) : Prop where
  blk : ∃ x y, w.heap[k]? = some (Obj.cells #[x, y] 34 (0, 0)) ∧ OutV B w x m v ∧ OutV B w y m u ∧ ∀ g, x.ownBlock = some g → y.ownBlock ≠ some g
  ge : B ≤ k
  ans : ∀ i, i < m → Out B w (v i) (n i) (d i)
  was : ∀ i, i < m → Out B w (u i) (n i) (d i)
  len : ∀ i, i < m → n i ≤ 100000
  apart : ∀ i j, i < m → j < m → i ≠ j → ∀ g, (v i).ownBlock = some g → (v j).ownBlock ≠ some g
theorem Kp.keeps {B : Nat} {w w' : World} {k m : Nat} {v u : Nat → Value} {n : Nat → Nat} {d : Nat → Nat → Int} (h : Kp B w k m v u n d) (hb : Below w.heap.size w w') : Kp B w' k m v u n d := by
  obtain ⟨⟨x, y, hk, hx, hy, hxy⟩, hge, hans, hwas, hlen, hapart⟩ := h
  exact ⟨⟨x, y, (hb.block k (Array.getElem?_eq_some_iff.1 hk).1).trans hk, hx.of_block fun g hg => hb.block g (hx.ge hg).2, hy.of_block fun g hg => hb.block g (hy.ge hg).2, hxy⟩, hge, fun i hi => (hans i hi).stays hb, fun i hi => (hwas i hi).stays hb, hlen, hapart⟩
theorem info_slice : (Tryz.prog.info? 23).map (fun i => (i.zero, i.size, i.bytes)) = some (some (.slice none 0 0), 1, 24) := by kernel_rfl
theorem cell_one (w : World) (x : Value) (t : TypeId) {g : Nat} (hg : g = w.heap.size) : (w.alloc (.cells #[x] t)).cell? ⟨g, 0, none⟩ = some x := by
  subst hg
  rw [cell_of_row _ _ 0 _ _ _ (heap_alloc_new w _)]; rfl
/-- 'append(xs, x)' of a list of slices. -/
theorem wpList_appV {w : World} {ops : Array Oper} {rest : List Oper} {o : Oper} {a : Act} {Q : Exit → Act → World → Prop} (hgd : o.guard = none) (s x : Operand)
    (ho : o.op = .call { callee := .builtin .append, args := #[s, x], argTypes := #[32, 32] }) (B : Nat) (v : Value) (m : Nat) (f : Nat → Value) (hs : a.eval s = v) (hO : OutV B w v m f)
    (g : Nat) (y : Value) (hx : a.eval x = .slice (some ⟨g, 0, none⟩) 1 1) (hy : w.cell? ⟨g, 0, none⟩ = some y) (h1 : y.oneCell' = true) (hlen : m ≤ 1000) (hB : B ≤ w.heap.size)
    (h : ∀ v' w', OutV B w' v' (m + 1) (updV f m y) → w.grownBy w' v.ownBlock → (v'.ownBlock = v.ownBlock ∨ v'.ownBlock = some w.heap.size) → wpList Tryz.prog ops Q rest (a.put o.dst v') w') : wpList Tryz.prog ops Q (o :: rest) a w := by
  obtain ⟨i0, hi, hz0, hz1, hz2⟩ := info_parts info_slice
  refine wpList_append_own_at w hgd s x 32 ho B 23 i0 (.slice none 0 0) 1 24 Tryz.underlying32 hi hz0 hz1 hz2 rfl (by decide) v m (valsV f m) hs hO ⟨g, 0, none⟩ 1 1 [y] hx rfl ?_ (by simpa using h1) (by unfold maxLen; omega) (by omega) hB ?_
  · intro j u hu
    have hj : j = 0 := by have := (List.getElem?_eq_some_iff.1 hu).1; simp at this; exact this
    subst hj
    simp at hu
    subst hu
    rw [add_none]; exact hy
  · intro v' w' h1 h2 _ h3
    rw [valsV_snoc] at h1
    exact h v' w' h1 h2 h3
theorem Ik.grownV {B : Nat} {a w w' : World} {row : Option Nat} (h : Ik B a w) (hg : w.grownBy w' row) (hB : B ≤ w.heap.size) (hr : ∀ g, row = some g → B ≤ g ∧ ∃ (cur : Array Value) (z : Nat × Nat), w.heap[g]? = some (Obj.cells cur 23 z)) : Ik B a w' := by
  refine ⟨h.below.grown hg hB fun k hk => (hr k hk).1, fun g cur t z t1 t2 hc => ?_⟩
  have e := (h.block g cur t z t1 t2 hc).trans hc
  refine (hg.block g (Array.getElem?_eq_some_iff.1 e).1 fun he => ?_).trans (h.block g cur t z t1 t2 hc)
  obtain ⟨_, cur', z', hc'⟩ := hr g he.symm
  rw [e] at hc'
  simp only [Option.some.injEq, Obj.cells.injEq] at hc'
  exact t1 hc'.2.1
theorem Ik.alloc {B : Nat} {a w : World} (h : Ik B a w) (hB : B ≤ w.heap.size) (o : Obj) : Ik B a (w.alloc o) :=
  ⟨h.below.alloc hB o, fun g cur t z t1 t2 hc => by
    have e := (h.block g cur t z t1 t2 hc).trans hc
    exact (Below.heap_alloc _ _ _ (Array.getElem?_eq_some_iff.1 e).1).trans (h.block g cur t z t1 t2 hc)⟩
theorem Ik.setK {B : Nat} {a w : World} (h : Ik B a w) {k : Nat} {cs : Array Value} {z : Nat × Nat} (hk : w.heap[k]? = some (Obj.cells cs 34 z)) (hB : B ≤ k) (o : Nat) (u : Value) : Ik B a (w.setCell ⟨k, o, none⟩ u) :=
  ⟨h.below.setCell hB u, fun g cur t z' t1 t2 hc => by
    have e := (h.block g cur t z' t1 t2 hc).trans hc
    refine (Below.heap_setCell _ _ _ _ fun he => ?_).trans (h.block g cur t z' t1 t2 hc)
    change g = k at he
    subst he
    rw [e] at hk
    simp only [Option.some.injEq, Obj.cells.injEq] at hk
    exact t2 hk.2.1⟩
theorem grown_out {B : Nat} {w w' : World} {row : Option Nat} {x : Value} {m : Nat} {v : Nat → Value} (h : OutV B w x m v) (hg : w.grownBy w' row) (hne : ∀ g, x.ownBlock = some g → row ≠ some g) : OutV B w' x m v :=
  h.of_block fun g hgx => hg.block g (h.ge hgx).2 fun e => hne g hgx e.symm
theorem OutV.alloc {B : Nat} {w : World} {x : Value} {m : Nat} {v : Nat → Value} (h : OutV B w x m v) (o : Obj) : OutV B (w.alloc o) x m v := h.of_block fun g hg => Below.heap_alloc _ _ _ (h.ge hg).2
theorem OutV.setK {B : Nat} {w : World} {x : Value} {m : Nat} {v : Nat → Value} (h : OutV B w x m v) {k : Nat} {cs : Array Value} {z : Nat × Nat} (hk : w.heap[k]? = some (Obj.cells cs 34 z)) (o : Nat) (u : Value) : OutV B (w.setCell ⟨k, o, none⟩ u) x m v :=
  h.of_block fun g hg => Below.heap_setCell _ _ _ _ fun he => by
    change g = k at he
    subst he
    obtain ⟨cur, z', hc⟩ := h.typed hg
    rw [hk] at hc
    simp at hc
theorem keep_at {w : World} {k : Nat} {x y : Value} (hk : w.heap[k]? = some (Obj.cells #[x, y] 34 (0, 0))) : w.cell? ⟨k, 0, none⟩ = some x ∧ w.cell? ⟨k, 1, none⟩ = some y ∧ w.frozen? ⟨k, 0, none⟩ = false ∧ w.frozen? ⟨k, 1, none⟩ = false :=
  ⟨by rw [cell_of_row w k 0 _ _ _ hk]; rfl, by rw [cell_of_row w k 1 _ _ _ hk]; rfl, frozen_of_row w k 0 _ _ hk, frozen_of_row w k 1 _ _ hk⟩

/-- The two lists of what is kept, as they lie: x of m, y of m'. -/
structure KX (B : Nat) (w : World) (k : Nat) (x y : Value) (m : Nat) (v : Nat → Value) (m' : Nat) (u : Nat → Value) : Prop where
  blk : w.heap[k]? = some (Obj.cells #[x, y] 34 (0, 0))
  ox : OutV B w x m v
  oy : OutV B w y m' u
  ne : ∀ g, x.ownBlock = some g → y.ownBlock ≠ some g
  ge : B ≤ k
theorem KX.keeps {B : Nat} {w w' : World} {k : Nat} {x y : Value} {m : Nat} {v : Nat → Value} {m' : Nat} {u : Nat → Value} (h : KX B w k x y m v m' u) (hb : Below w.heap.size w w') : KX B w' k x y m v m' u :=
  ⟨(hb.block k (Array.getElem?_eq_some_iff.1 h.blk).1).trans h.blk, h.ox.of_block fun g hg => hb.block g (h.ox.ge hg).2, h.oy.of_block fun g hg => hb.block g (h.oy.ge hg).2, h.ne, h.ge⟩
theorem KX.lt {B : Nat} {w : World} {k : Nat} {x y : Value} {m : Nat} {v : Nat → Value} {m' : Nat} {u : Nat → Value} (h : KX B w k x y m v m' u) : k < w.heap.size := (Array.getElem?_eq_some_iff.1 h.blk).1
theorem set_keep0 {w : World} {k : Nat} {x y x' : Value} (hk : w.heap[k]? = some (Obj.cells #[x, y] 34 (0, 0))) : (w.setCell ⟨k, 0, none⟩ x').heap[k]? = some (Obj.cells #[x', y] 34 (0, 0)) := by
  rw [heap_setCell_same w k 0 _ _ _ hk]; rfl
theorem set_keep1 {w : World} {k : Nat} {x y y' : Value} (hk : w.heap[k]? = some (Obj.cells #[x, y] 34 (0, 0))) : (w.setCell ⟨k, 1, none⟩ y').heap[k]? = some (Obj.cells #[x, y'] 34 (0, 0)) := by
  rw [heap_setCell_same w k 1 _ _ _ hk]; rfl
theorem KX.stepX {B : Nat} {w w2 : World} {k : Nat} {x y x' : Value} {m : Nat} {v v' : Nat → Value} {m' : Nat} {u : Nat → Value} (h : KX B w k x y m v m' u) (hB : B ≤ w.heap.size)
    (hg : w.grownBy w2 x.ownBlock) (hX : OutV B w2 x' (m + 1) v') (hat : x'.ownBlock = x.ownBlock ∨ x'.ownBlock = some w.heap.size) :
    w2.heap[k]? = some (Obj.cells #[x, y] 34 (0, 0)) ∧ KX B (w2.setCell ⟨k, 0, none⟩ x') k x' y (m + 1) v' m' u ∧ Ik B w (w2.setCell ⟨k, 0, none⟩ x') := by
  have hk2 : w2.heap[k]? = some (Obj.cells #[x, y] 34 (0, 0)) := (hg.block k h.lt fun e => by
    obtain ⟨cur, z, hc⟩ := h.ox.typed e.symm
    rw [h.blk] at hc
    simp at hc).trans h.blk
  have oy2 := grown_out h.oy hg fun g hgy e => h.ne g e hgy
  refine ⟨hk2, ⟨set_keep0 hk2, hX.setK hk2 _ _, oy2.setK hk2 _ _, fun g e => ?_, h.ge⟩, ((Ik.refl B w).grownV hg hB fun g e => ⟨(h.ox.ge e).1, h.ox.typed e⟩).setK hk2 h.ge _ _⟩
  rcases hat with q | q
  · exact h.ne g (q.symm.trans e)
  · intro hy'
    rw [e] at q
    have := (h.oy.ge hy').2
    simp at q
    omega
theorem KX.stepY {B : Nat} {w w2 : World} {k : Nat} {x y y' : Value} {m : Nat} {v : Nat → Value} {m' : Nat} {u u' : Nat → Value} (h : KX B w k x y m v m' u) (hB : B ≤ w.heap.size)
    (hg : w.grownBy w2 y.ownBlock) (hY : OutV B w2 y' (m' + 1) u') (hat : y'.ownBlock = y.ownBlock ∨ y'.ownBlock = some w.heap.size) :
    w2.heap[k]? = some (Obj.cells #[x, y] 34 (0, 0)) ∧ KX B (w2.setCell ⟨k, 1, none⟩ y') k x y' m v (m' + 1) u' ∧ Ik B w (w2.setCell ⟨k, 1, none⟩ y') := by
  have hk2 : w2.heap[k]? = some (Obj.cells #[x, y] 34 (0, 0)) := (hg.block k h.lt fun e => by
    obtain ⟨cur, z, hc⟩ := h.oy.typed e.symm
    rw [h.blk] at hc
    simp at hc).trans h.blk
  have ox2 := grown_out h.ox hg fun g hgx e => h.ne g hgx e
  refine ⟨hk2, ⟨set_keep1 hk2, ox2.setK hk2 _ _, hY.setK hk2 _ _, fun g e e' => ?_, h.ge⟩, ((Ik.refl B w).grownV hg hB fun g e => ⟨(h.oy.ge e).1, h.oy.typed e⟩).setK hk2 h.ge _ _⟩
  rcases hat with q | q
  · exact h.ne g e (q.symm.trans e')
  · rw [e'] at q
    have := (h.ox.ge e).2
    simp at q
    omega
/-- 'append' of ints, as it runs, and where the new slice lies. -/
theorem run_app {w : World} (ty : TypeId) (B : Nat) (v : Value) (n : Nat) (d : Nat → Int) (hO : Out B w v n d) (bo : Option Addr) (m cb : Nat) (e : Nat → Int) (hR : Row w bo m cb e) (hlen : n + m ≤ 1000000) (hB : B ≤ w.heap.size) :
    ∃ v' w', (Builtin.append_ #[23, 23] ty #[v, .slice bo m cb]).run Tryz.prog w = .ok v' w' ∧ Out B w' v' (n + m) (cat d n e) ∧ w.grownBy w' v.ownBlock ∧ (v'.ownBlock = v.ownBlock ∨ v'.ownBlock = some w.heap.size) := by
  obtain ⟨i0, hi, hz0, hz1, hz2⟩ := info_parts info_int
  cases bo with
  | none =>
    have hc := hR.nl rfl
    have hl := hR.le
    subst hc
    obtain rfl : m = 0 := by omega
    have hr := run_append_owned_none (P := Tryz.prog) w B 23 ty 3 i0 1 Tryz.underlying23 hi v n (vals d n) hO
    exact ⟨v, w, hr, hO.congr fun i hi => by simp [cat]; omega, ⟨rfl, rfl, rfl, Nat.le_refl _, fun _ _ _ => rfl⟩, .inl rfl⟩
  | some ad =>
    obtain ⟨v', w', hr, h2, h3, _, h5⟩ := run_append_own_at (P := Tryz.prog) w B 23 ty 3 i0 (.int .i64 0) 1 8 Tryz.underlying23 hi hz0 hz1 hz2 rfl (by decide) v n (vals d n) hO ad m cb (vals e m) (by rw [vals_length]; omega)
      (fun j u hu => by
        have hj : j < m := by have := (List.getElem?_eq_some_iff.1 hu).1; rwa [vals_length] at this
        obtain ⟨b, off, hb, _, hc⟩ := hR.spot (by omega)
        obtain rfl := Option.some.inj hb
        rw [vals_get e hj] at hu
        rw [add_none, hc j hj]; exact hu) (vals_one e m) (by unfold maxLen; omega) (by omega) hB
    rw [vals_cat] at h2
    exact ⟨v', w', hr, h2, h3, h5⟩
theorem wp_app {w : World} {o : Oper} {a : Act} {K : Act → World → Prop} {Q : Exit → Act → World → Prop} (s x : Operand) (ho : o.op = .call { callee := .builtin .append, args := #[s, x], argTypes := #[23, 23] })
    (B : Nat) (v : Value) (n : Nat) (d : Nat → Int) (hs : a.eval s = v) (hO : Out B w v n d) (bo : Option Addr) (m cb : Nat) (e : Nat → Int) (hx : a.eval x = .slice bo m cb) (hR : Row w bo m cb e) (hlen : n + m ≤ 1000000) (hB : B ≤ w.heap.size)
    (h : ∀ v' w', Out B w' v' (n + m) (cat d n e) → w.grownBy w' v.ownBlock → (v'.ownBlock = v.ownBlock ∨ v'.ownBlock = some w.heap.size) → K (a.put o.dst v') w') : o.wp Tryz.prog a w K Q := by
  obtain ⟨v', w', hr, h2, h3, h4⟩ := run_app o.type B v n d hO bo m cb e hR hlen hB
  unfold Oper.wp execOp
  simp only [ho, resolve, invoke, builtin, Sem.run_bind, Sem.run_pure, Result.andThen_ok, List.map_toArray, List.map_cons, List.map_nil, hs, hx, hr]
  exact h v' w' h2 h3 h4
theorem step_app {w : World} {ops : Array Oper} {o : Oper} {a : Act} {K : Act → World → Prop} {Q : Exit → Act → World → Prop} {E : Prop} (hgd : o.guard = none) (s x : Operand) (ho : o.op = .call { callee := .builtin .append, args := #[s, x], argTypes := #[23, 23] })
    (B : Nat) (v : Value) (n : Nat) (d : Nat → Int) (hs : a.eval s = v) (hO : Out B w v n d) (bo : Option Addr) (m cb : Nat) (e : Nat → Int) (hx : a.eval x = .slice bo m cb) (hR : Row w bo m cb e) (hlen : n + m ≤ 1000000) (hB : B ≤ w.heap.size)
    (h : ∀ v' w', Out B w' v' (n + m) (cat d n e) → w.grownBy w' v.ownBlock → (v'.ownBlock = v.ownBlock ∨ v'.ownBlock = some w.heap.size) → K (a.put o.dst v') w') : if Region.wanted o (yielded ops a.tmps) = true then Oper.wp Tryz.prog o a w K Q else E := by
  rw [if_pos (show Region.wanted o (yielded ops a.tmps) = true by simp [Region.wanted, hgd])]
  exact wp_app s x ho B v n d hs hO bo m cb e hx hR hlen hB h
theorem step_appV {w : World} {ops : Array Oper} {o : Oper} {a : Act} {K : Act → World → Prop} {Q : Exit → Act → World → Prop} {E : Prop} (hgd : o.guard = none) (s x : Operand)
    (ho : o.op = .call { callee := .builtin .append, args := #[s, x], argTypes := #[32, 32] }) (B : Nat) (v : Value) (m : Nat) (f : Nat → Value) (hs : a.eval s = v) (hO : OutV B w v m f)
    (g : Nat) (y : Value) (hx : a.eval x = .slice (some ⟨g, 0, none⟩) 1 1) (hy : w.cell? ⟨g, 0, none⟩ = some y) (h1 : y.oneCell' = true) (hlen : m ≤ 1000) (hB : B ≤ w.heap.size)
    (h : ∀ v' w', OutV B w' v' (m + 1) (updV f m y) → w.grownBy w' v.ownBlock → (v'.ownBlock = v.ownBlock ∨ v'.ownBlock = some w.heap.size) → K (a.put o.dst v') w') : if Region.wanted o (yielded ops a.tmps) = true then Oper.wp Tryz.prog o a w K Q else E := by
  rw [if_pos (show Region.wanted o (yielded ops a.tmps) = true by simp [Region.wanted, hgd])]
  obtain ⟨i0, hi, hz0, hz1, hz2⟩ := info_parts info_slice
  obtain ⟨v', w', hr, h2, h3, _, h5⟩ := run_append_own_at (P := Tryz.prog) w B 32 o.type 23 i0 (.slice none 0 0) 1 24 Tryz.underlying32 hi hz0 hz1 hz2 rfl (by decide) v m (valsV f m) hO ⟨g, 0, none⟩ 1 1 [y] rfl
    (fun j u hu => by
      have hj : j = 0 := by have := (List.getElem?_eq_some_iff.1 hu).1; simp at this; exact this
      subst hj
      simp at hu
      subst hu
      rw [add_none]; exact hy) (by simpa using h1) (by unfold maxLen; omega) (by omega) hB
  rw [valsV_snoc] at h2
  unfold Oper.wp execOp
  simp only [ho, resolve, invoke, builtin, Sem.run_bind, Sem.run_pure, Result.andThen_ok, List.map_toArray, List.map_cons, List.map_nil, hs, hx, hr]
  exact h v' w' h2 h3 h5

theorem Kp.more {B : Nat} {w w7 : World} {k m ln : Nat} {v u : Nat → Value} {n : Nat → Nat} {d : Nat → Nat → Int} {x y l c : Value} {ld : Nat → Int} (h : Kp B w k m v u n d) (hi : Ik B w w7)
    (hk : KX B w7 k x y (m + 1) (updV v m l) (m + 1) (updV u m c)) (hl : Out B w l ln ld) (hc : Out B w7 c ln ld) (hn : ln ≤ 100000) (hap : ∀ i, i < m → ∀ g, (v i).ownBlock = some g → l.ownBlock ≠ some g) :
    Kp B w7 k (m + 1) (updV v m l) (updV u m c) (updV n m ln) (updV d m ld) := by
  refine ⟨⟨x, y, hk.blk, hk.ox, hk.oy, hk.ne⟩, hk.ge, fun i hi' => ?_, fun i hi' => ?_, fun i hi' => ?_, fun i j hi' hj hij g => ?_⟩
  · by_cases e : i = m
    · subst e; simp only [updV_same]; exact hl.ik hi
    · rw [updV_other _ _ e, updV_other _ _ e, updV_other _ _ e]; exact (h.ans i (by omega)).ik hi
  · by_cases e : i = m
    · subst e; simp only [updV_same]; exact hc
    · rw [updV_other _ _ e, updV_other _ _ e, updV_other _ _ e]; exact (h.was i (by omega)).ik hi
  · by_cases e : i = m
    · subst e; simp only [updV_same]; exact hn
    · rw [updV_other _ _ e]; exact h.len i (by omega)
  · by_cases e : i = m
    · subst e
      rw [updV_same, updV_other _ _ (fun q => hij q.symm)]
      exact fun hg hg' => hap j (by omega) g hg' hg
    · rw [updV_other _ _ e]
      by_cases e' : j = m
      · subst e'; rw [updV_same]; exact hap i (by omega) g
      · rw [updV_other _ _ e']; exact h.apart i j (by omega) (by omega) hij g
/-- A list that is read, whatever is kept besides. -/
def Rd (B : Nat) (w : World) (xo : Option Addr) (n xc : Nat) (d : Nat → Int) : Prop := ∀ w', Ik B w w' → Row w' xo n xc d
theorem Out.rd {B : Nat} {w : World} {xo : Option Addr} {n xc : Nat} {d : Nat → Int} (h : Out B w (.slice xo n xc) n d) : Rd B w xo n xc d := fun w' k => by
  obtain ⟨_, _, e, hR⟩ := (h.ik k).row
  simp only [Value.slice.injEq] at e
  obtain ⟨rfl, _, rfl⟩ := e
  exact hR
theorem Rd.ik {B : Nat} {w w' : World} {xo : Option Addr} {n xc : Nat} {d : Nat → Int} (h : Rd B w xo n xc d) (k : Ik B w w') : Rd B w' xo n xc d := fun w2 k2 => h w2 (k.trans k2)
theorem Rd.row {B : Nat} {w : World} {xo : Option Addr} {n xc : Nat} {d : Nat → Int} (h : Rd B w xo n xc d) : Row w xo n xc d := h w (Ik.refl _ _)
theorem Rd.of0 {w0 w : World} {xo : Option Addr} {n xc : Nat} {d : Nat → Int} (h : Row w0 xo n xc d) (hb : Below w0.heap.size w0 w) : Rd w0.heap.size w xo n xc d := fun w' k => h.keeps (hb.trans k.below)
theorem Rd.congr {B : Nat} {w : World} {xo : Option Addr} {n xc : Nat} {d e : Nat → Int} (h : Rd B w xo n xc d) (he : ∀ i, i < n → d i = e i) : Rd B w xo n xc e := fun w' k => (h w' k).congr he

set_option maxHeartbeats 4000000 in
set_option maxRecDepth 100000 in
theorem keepAdd_any (B k m : Nat) (v u : Nat → Value) (n : Nat → Nat) (d : Nat → Nat → Int) (w : World) (h : Kp B w k m v u n d)
    (lo : Option Addr) (ln lc : Nat) (ld : Nat → Int) (hl : Out B w (.slice lo ln lc) ln ld) (wo : Option Addr) (wc : Nat) (hw : Rd B w wo ln wc ld) (hn : ln ≤ 100000) (hB : B ≤ w.heap.size)
    (hap : ∀ i, i < m → ∀ g, (v i).ownBlock = some g → (Value.slice lo ln lc).ownBlock ≠ some g) :
    Calls Tryz.prog 20 #[.pointer (some ⟨k, 0, none⟩), .slice lo ln lc, .slice wo ln wc] w fun e w' => e = .returned (.bool true) ∧ Ik B w w' ∧
      ((m < 400 ∧ ∃ c, (∀ g, c.ownBlock = some g → w.heap.size ≤ g) ∧ Kp B w' k (m + 1) (updV v m (.slice lo ln lc)) (updV u m c) (updV n m ln) (updV d m ld)) ∨ Kp B w' k m v u n d) := by
  have HK : Hid (Kp B w k m v u n d) := h
  have HA : Hid (∀ i, i < m → ∀ g, (v i).ownBlock = some g → (Value.slice lo ln lc).ownBlock ≠ some g) := hap
  clear hap
  obtain ⟨x, y, hk, hx, hy, hxy⟩ := h.blk
  have HX : Hid (KX B w k x y m v m u) := ⟨hk, hx, hy, hxy, h.ge⟩
  obtain ⟨xo, xc, rfl, hxl, hxm, hxs⟩ := hx.shape
  obtain ⟨yo, yc, rfl, hyl, hym, hys⟩ := hy.shape
  obtain ⟨ck0, ck1, fk0, fk1⟩ := keep_at hk
  have HL : Hid (Out B w (.slice lo ln lc) ln ld) := hl
  have HW : Hid (Rd B w wo ln wc ld) := hw
  clear hk hxs hys hx hy hl hw h hxy
  by_cases h4 : m < 400
  · go_enter Tryz.func20, Tryz.ntmps20
    go_wp2_with (first
      | (at_builtin
         refine wpList_appV rfl _ _ rfl B _ m v rfl (HX.out.ox.alloc _) _ _ rfl (cell_one _ _ _ rfl) rfl (by omega) (by simp; omega) ?_
         intro x' w2 hX2 hg2 hat2
         obtain ⟨xo2, xc2, rfl, _, _, _⟩ := hX2.shape
         obtain ⟨hk2, HS2, hik2⟩ := (HX.out.keeps (bel_alloc _ _)).stepX (by simp; omega) hg2 hX2 hat2
         obtain ⟨ck20, ck21, fk20, fk21⟩ := keep_at hk2))
    replace hik2 := ((Ik.refl B w).alloc hB _).trans hik2
    clear ck0 ck1 fk0 fk1 hk2 hX2 hg2 hat2 fk20 fk21 ck20 ck21
    generalize w2.setCell ⟨k, 0, none⟩ (.slice xo2 (m + 1) xc2) = w3 at HS2 hik2 ⊢
    obtain ⟨ck0, ck1, fk0, fk1⟩ := keep_at HS2.blk
    have HS3 : Hid (KX B w3 k (.slice xo2 (m + 1) xc2) (.slice yo m yc) (m + 1) (updV v m (.slice lo ln lc)) m u) := HS2
    have HI3 : Hid (Ik B w w3) := hik2
    clear HS2 hik2
    obtain ⟨_, _, e1, r1⟩ := (HL.out.ik HI3.out).row
    have r2 := (HW.out.ik HI3.out).row
    simp only [Value.slice.injEq] at e1
    obtain ⟨rfl, _, rfl⟩ := e1
    have hB3 : B ≤ w3.heap.size := Nat.le_trans hB HI3.out.below.size
    go_region_law (first
        | ((have _t := ck4; refine step_appV (by rfl) _ _ (by rfl) B _ m u (by rfl) ((HX4.out.keeps (bel_alloc _ _)).oy) w4.heap.size (.slice co ln cc) (by rfl) (cell_one _ _ _ rfl) rfl (by omega) (by simp; omega) ?_; intro y' w6 hY6 hg6 hat6; obtain ⟨yo6, yc6, rfl, _, _, _⟩ := hY6.shape; obtain ⟨hk6, hx6, hik6⟩ := (HX4.out.keeps (bel_alloc _ _)).stepY (by simp; omega) hg6 hY6 hat6; obtain ⟨ck60, ck61, fk60, fk61⟩ := keep_at hk6))
        | ((refine step_app (by rfl) _ _ (by rfl) w3.heap.size _ 0 (fun _ => 0) (by rfl) (Out.nil _ _ _) wo ln wc ld (by rfl) (r2.keeps (bel_refl _).drew) (by omega) (Nat.le_refl _) ?_; intro c w4 hO4' hg4 _; have hO4 := hO4'.lower hB3; have hb4 := bel_trans (bel_refl w3).drew (grown_below hg4); have HX4 : Hid (KX B w4 k (.slice xo2 (m + 1) xc2) (.slice yo m yc) (m + 1) (updV v m (.slice lo ln lc)) m u) := HS3.out.keeps hb4; have ck4 := (keep_at HX4.out.blk).2.1; rw [Nat.zero_add] at hO4; have hB4 := Nat.le_trans hB3 hb4.size; obtain ⟨co, cc, rfl, rc⟩ := hO4.row; have HN4 : Hid (∀ g, (Value.slice co ln cc).ownBlock = some g → w3.heap.size ≤ g) := own_ge hO4'; have HB4 : Hid (Below w3.heap.size w3 w4) := hb4; have HO4 : Hid (Out B w4 (.slice co ln cc) ln (cat (fun _ => 0) 0 ld)) := hO4; have ck4a := (keep_at (HX4.out.keeps (bel_alloc _ (.cells #[.slice co ln cc] 23))).blk).2.1; clear hb4 hO4 hg4 hO4')))
    all_goals
      have hi7 := ((Ik.of HB4.out hB3).alloc hB4 _).trans hik6
      have hiw := HI3.out.trans hi7
      have kp := Kp.more HK.out hiw hx6 HL.out (((HO4.out.ik ((Ik.refl B w4).alloc hB4 _)).ik hik6).congr fun i hi => by simp [cat]) hn HA.out
      have HKP : Hid (Kp B (w6.setCell ⟨k, 1, none⟩ (.slice yo6 (m + 1) yc6)) k (m + 1) (updV v m (.slice lo ln lc)) (updV u m (.slice co ln cc)) (updV n m ln) (updV d m ld)) := kp
      have HIW : Hid (Ik B w (w6.setCell ⟨k, 1, none⟩ (.slice yo6 (m + 1) yc6))) := hiw
      obtain ⟨_, _, e1, s1⟩ := (HL.out.ik hiw).row
      have s2 := (HW.out.ik hiw).row
      simp only [Value.slice.injEq] at e1
      obtain ⟨rfl, _, rfl⟩ := e1
      clear kp hiw hi7 hx6 hik6 hk6 ck60 ck61 fk60 fk61 hY6 hg6 hat6 ck4 ck4a ck0 ck1 fk0 fk1
      generalize w6.setCell ⟨k, 1, none⟩ (.slice yo6 (m + 1) yc6) = w7 at HKP HIW s1 s2 ⊢
      go_wp2_with fail
      refine (same_any lo wo ln ln lc wc ld ld _ s1 s2).mono ?_
      rintro e w8 ⟨rfl, hb8⟩
      go_wp2
      go_ret
      exact ⟨ret_bool (decide_eq_true ⟨rfl, fun _ _ => rfl⟩), HIW.out.trans (Ik.of hb8 (Nat.le_trans hB HIW.out.below.size)), .inl ⟨h4, _, fun g hg => Nat.le_trans HI3.out.below.size (HN4.out g hg), HKP.out.keeps hb8⟩⟩
  · go_enter Tryz.func20, Tryz.ntmps20
    go_wp2_with fail
    obtain ⟨_, _, e1, r1⟩ := HL.out.row
    have r2 := HW.out.row
    simp only [Value.slice.injEq] at e1
    obtain ⟨rfl, _, rfl⟩ := e1
    refine (same_any lo wo ln ln lc wc ld ld w r1 r2).mono ?_
    rintro e w' ⟨rfl, hb⟩
    go_wp2
    go_ret
    exact ⟨ret_bool (decide_eq_true ⟨rfl, fun _ _ => rfl⟩), Ik.of hb hB, .inr (HK.out.keeps hb)⟩
end Go.Proofs.YtnhkagiionkjaaaGreatDoor

/-
  The statements' own helper digits: a valid list out of any ints, by its contract.
-/
namespace Go.Proofs.YtnhkagiionkjaaaGreatDoor
open Go Go.RowKit Go.Proofs.YtnhkagiionkjaaaGreatDoor.M
set_option linter.unusedSimpArgs false
set_option linter.unusedVariables false

theorem Out.cut {B : Nat} {w : World} {ao : Option Addr} {n cap m : Nat} {d : Nat → Int} (h : Out B w (.slice ao n cap) n d) (hm : m ≤ n) : Out B w (.slice ao m cap) m d := by
  refine ⟨by rw [vals_length]; omega, ?_⟩
  rcases h.2 with ⟨hn, h0⟩ | ⟨g, cap', cur, hv, hB, hg, hnc, hcm, hs, ht⟩
  · simp only [Value.slice.injEq] at hn
    obtain ⟨rfl, rfl, rfl⟩ := hn
    obtain rfl : m = 0 := by omega
    exact .inl ⟨rfl, rfl⟩
  · simp only [Value.slice.injEq] at hv
    obtain ⟨rfl, _, rfl⟩ := hv
    refine .inr ⟨g, cap, cur, rfl, hB, hg, by omega, hcm, hs, ?_⟩
    apply vals_ext (by simp; omega)
    intro i hi
    have e : (cur.toList.take (n * 1))[i]? = (vals d n)[i]? := by rw [ht]
    rw [List.getElem?_take, if_pos (by omega), vals_get d (by omega)] at e
    rw [List.getElem?_take, if_pos (by omega)]; exact e

/-- A list of less than N digits. -/
def AnsLt (w w' : World) (N : Nat) (v : Value) : Prop := ∃ V, Ans w w' V v ∧ V < P N
def lenOf : Value → Nat | .slice _ t _ => t | _ => 0
theorem cat_last (f : Nat → Int) (k i : Nat) (hi : i < k + 1) : cat f k (fun _ => f k) i = f i := by
  by_cases h : i < k
  · simp [cat, h]
  · simp [cat, h]; rw [show i = k by omega]
end Go.Proofs.YtnhkagiionkjaaaGreatDoor

/-
  The document's own answers (plumbref2): Valid, trim, Two, Answer, Cmp, Add, Sub, by contracts over the same values.
-/
namespace Go.Proofs.YtnhkagiionkjaaaGreatDoor
open Go Go.RowKit Go.Proofs.YtnhkagiionkjaaaGreatDoor.M
set_option linter.unusedSimpArgs false
set_option linter.unusedVariables false

set_option maxHeartbeats 400000 in
theorem rvalid_any (ao : Option Addr) (n cap : Nat) (d : Nat → Int) (w : World) (h : Row w ao n cap d) :
    Calls Tryz.prog 49 #[.slice ao n cap] w fun e w' => e = .returned (.bool (okB d n)) ∧ w' = w := by
  have hl := h.le
  have hm := h.max
  by_cases h2k : n ≤ 2000
  · by_cases hz : 0 < n ∧ d (n - 1) = 0
    · obtain ⟨h0, hz⟩ := hz
      obtain ⟨b, off, rfl, hb, hc⟩ := h.spot h0
      have c := hc (n - 1) (by omega)
      have hzb : (d (n - 1) == 0) = true := by simp [hz]
      go_enter Tryz.func49, Tryz.ntmps49
      go_wp2
      go_ret
      exact ⟨ret_bool (okB_no (fun ⟨_, q⟩ => by rcases q.2 with e | e <;> omega)).symm, rfl⟩
    · have main : ∀ (P0 : Prop), P0 → Top d n := fun _ _ => by
        by_cases h0 : n = 0
        · exact .inl h0
        · exact .inr (fun e => hz ⟨by omega, e⟩)
      have htop := main True trivial
      clear main
      by_cases h0 : n = 0
      · subst h0
        go_enter Tryz.func49, Tryz.ntmps49
        go_wp2
        go_loop [3] (fun i => i = .int .i64 0) (fun _ => 0)
        case atStart => rfl
        case round =>
          subst hrel
          go_wp2
          go_ret
          exact ⟨ret_bool (okB_yes (by omega) ⟨fun i hi => by omega, htop⟩).symm, rfl⟩
      · obtain ⟨b, off, rfl, hb, hc⟩ := h.spot (by omega)
        have ct := hc (n - 1) (by omega)
        have hzb : (d (n - 1) == 0) = false := by simp; intro e; exact hz ⟨by omega, e⟩
        clear hz
        go_enter Tryz.func49, Tryz.ntmps49
        go_wp2
        go_loop [3] (fun i => ∃ k : Nat, k ≤ n ∧ i = .int .i64 k ∧ Dig d k) (fun i => n - (intOf i).toNat)
        case atStart => exact ⟨0, Nat.zero_le _, rfl, fun i hi => absurd hi (by omega)⟩
        case round =>
          obtain ⟨k, hk, rfl, hd⟩ := hrel
          by_cases hlt : k < n
          · have c := hc k hlt
            by_cases h0 : d k < 0
            · go_wp2
              go_ret
              exact ⟨ret_bool (okB_no (fun ⟨_, q⟩ => by have := (q.1 k hlt).1; omega)).symm, rfl⟩
            · by_cases h1 : 1073741824 ≤ d k
              · go_wp2
                go_ret
                exact ⟨ret_bool (okB_no (fun ⟨_, q⟩ => by have := (q.1 k hlt).2; omega)).symm, rfl⟩
              · go_wp2
                go_round
                case rel => exact ⟨k + 1, by omega, by go_num, dig_snoc hd (by omega) (by omega)⟩
                case measure => simp [intOf]; omega
          · obtain rfl : k = n := by omega
            go_wp2
            go_ret
            exact ⟨ret_bool (okB_yes h2k ⟨hd, htop⟩).symm, rfl⟩
  · go_enter Tryz.func49, Tryz.ntmps49
    go_wp2
    go_ret
    exact ⟨ret_bool (okB_no (fun ⟨q, _⟩ => h2k q)).symm, rfl⟩
set_option maxHeartbeats 400000 in
theorem rtrim_any (g n cap : Nat) (d : Nat → Int) (w : World) (h : Row w (some ⟨g, 0, none⟩) n cap d) :
    Calls Tryz.prog 108 #[.slice (some ⟨g, 0, none⟩) n cap] w fun e w' => ∃ t : Nat, t ≤ n ∧ Top d t ∧ (∀ i, t ≤ i → i < n → d i = 0) ∧ e = .returned (.slice (some ⟨g, 0, none⟩) t cap) ∧ w' = w := by
  have hl := h.le
  have hm := h.max
  go_enter Tryz.func108, Tryz.ntmps108
  go_wp2
  go_loop [3] (fun i => ∃ k : Nat, k ≤ n ∧ i = .int .i64 k ∧ ∀ i, k ≤ i → i < n → d i = 0) (fun i => (intOf i).toNat)
  case atStart => exact ⟨n, Nat.le_refl _, rfl, fun i a b => by omega⟩
  case round =>
    obtain ⟨k, hk, rfl, hz⟩ := hrel
    have HZ : Hid (∀ i, k ≤ i → i < n → d i = 0) := hz
    clear hz
    by_cases h0 : k = 0
    · subst h0
      go_wp2
      go_ret
      exact ⟨0, by omega, .inl rfl, HZ.out, by simp, rfl⟩
    · obtain ⟨b, off, eb, hb, hc⟩ := h.spot (by omega)
      simp only [Option.some.injEq, Addr.mk.injEq, and_true] at eb
      obtain ⟨rfl, rfl⟩ := eb
      have c := hc (k - 1) (by omega)
      rw [Nat.zero_add] at c
      by_cases h1 : d (k - 1) = 0
      · go_wp2
        go_round
        case rel => exact ⟨k - 1, by omega, by go_num, fun i a b => by by_cases e : i = k - 1; (· rw [e]; exact h1); (· exact HZ.out i (by omega) b)⟩
        case measure => simp [intOf]; omega
      · go_wp2
        go_ret
        exact ⟨k, hk, .inr h1, HZ.out, by simp, rfl⟩
theorem top_of {d : Nat → Int} {t : Nat} (hd : Dig d t) (h : 0 < t → P (t - 1) ≤ val d t) : Top d t := by
  by_cases h0 : t = 0
  · exact .inl h0
  · refine .inr fun e => ?_
    obtain ⟨k, rfl⟩ : ∃ k, t = k + 1 := ⟨t - 1, by omega⟩
    rw [Nat.add_sub_cancel] at e h
    have h1 := h (by omega)
    rw [val_succ, e] at h1
    have h2 := val_lt (hd.le (Nat.le_succ k))
    omega
theorem cat_upd (r : Nat → Int) (k : Nat) (x : Int) : ∀ i, i < k + 1 → cat r k (fun _ => x) i = upd r k x i := fun i hi => by
  by_cases e : i < k
  · simp [cat, e, upd_other r _ (show i ≠ k by omega)]
  · obtain rfl : i = k := by omega
    simp [cat, upd_same]
theorem dig_upd2 {r : Nat → Int} {k : Nat} {x : Int} (h : Dig r k) (hx : 0 ≤ x ∧ x < 1073741824) : Dig (upd r k x) (k + 1) := fun i hi => by
  by_cases e : i = k
  · rw [e, upd_same]; exact hx
  · rw [upd_other r x e]; exact h i (by omega)
set_option maxHeartbeats 1000000 in
theorem radd_any (ao bo : Option Addr) (n m ca cb : Nat) (a b : Nat → Int) (w : World) (ha : Row w ao n ca a) (hb : Row w bo m cb b) (na : Nrm a n) (nb : Nrm b m) (hn : n ≤ 100000) (hm : m ≤ 100000) :
    Calls Tryz.prog 79 #[.slice ao n ca, .slice bo m cb] w fun e w' => ∃ v, e = .returned v ∧ Ans w w' (val a n + val b m) v := by
  have hla := ha.le
  have hma := ha.max
  have hlb := hb.le
  have hmb := hb.max
  have da := na.1
  have db := nb.1
  obtain ⟨M, hM1, hM2, hM3⟩ : ∃ M, n ≤ M ∧ m ≤ M ∧ (M ≤ n ∨ M ≤ m) := ⟨max n m, by omega, by omega, by omega⟩
  go_enter Tryz.func79, Tryz.ntmps79
  go_wp2
  go_loopw [5, 6, 7] (fun l c i wr => ∃ (k : Nat) (q : Int) (r : Nat → Int), (k ≤ M ∨ (k = M + 1 ∧ q = 0)) ∧ i = .int .i64 k ∧ c = .int .i64 q ∧ 0 ≤ q ∧ q ≤ 1 ∧ Out w.heap.size wr l k r ∧ Dig r k ∧ Hid (val r k + q * P k = val (ext a n) k + val (ext b m) k) ∧ Hid (k = M + 1 → P M ≤ val a n + val b m) ∧ Below w.heap.size w wr) (fun _ _ i _ => M + 1 - (intOf i).toNat)
  case atStart => exact ⟨0, 0, fun _ => 0, .inl (Nat.zero_le _), rfl, rfl, by omega, by omega, Out.nil _ _ _, fun i hi => by omega, by show _ = _; rfl, fun h => by omega, bel_refl _⟩
  case round =>
    obtain ⟨k, q, r, hk, rfl, rfl, hq0, hq1, hO, hD, HV, HT, hbw⟩ := hrel
    have hkM : k ≤ M + 1 := by omega
    by_cases hkn : k < n
    · by_cases hkm : k < m
      · obtain ⟨ba, fa, rfl, hba, hca⟩ := ha.spot (by omega)
        have c1 := (hbw.cell (p := ⟨ba, fa + k, none⟩) hba).trans (hca k hkn)
        have dk := da k hkn
        obtain ⟨bb, fb, rfl, hbb, hcb⟩ := hb.spot (by omega)
        have c2 := (hbw.cell (p := ⟨bb, fb + k, none⟩) hbb).trans (hcb k hkm)
        have dbk := db k hkm
        have HX : Hid (q + a k + b k = q + (ext a n k + ext b m k)) := by show _ = _; rw [ext_lt a hkn, ext_lt b hkm]; omega
        go_wp2_with (at_builtin; refine wpList_app rfl _ _ rfl w.heap.size _ k r rfl (hO.stays (bel_alloc _ _)) _ 1 1 (fun _ => (q + a k + b k) % 1073741824) rfl (row1 _ _ rfl) (by omega) (by have := hbw.size; simp; omega) ?_; intro v' w1 hO1 hg1)
        have hb1 : Below w.heap.size w w1 := (hbw.alloc hbw.size _).grown hg1 (by have := hbw.size; simp; omega) (own_ge hO)
        have hs := sum_step (x := ext a n k + ext b m k) HV.out
        rw [← HX.out] at hs
        go_roundw
        case rel => exact ⟨k + 1, (q + a k + b k) / 1073741824, upd r k ((q + a k + b k) % 1073741824), by omega, by go_num, rfl, by omega, by omega, hO1.congr (cat_upd r k _), dig_upd2 hD (mod_dig _), by show _ = _; rw [hs, val_succ, val_succ]; grind, fun h => by omega, hb1⟩
        case measure => simp [intOf]; omega
      · obtain ⟨ba, fa, rfl, hba, hca⟩ := ha.spot (by omega)
        have c1 := (hbw.cell (p := ⟨ba, fa + k, none⟩) hba).trans (hca k hkn)
        have dk := da k hkn
        have HX : Hid (q + a k = q + (ext a n k + ext b m k)) := by show _ = _; rw [ext_lt a hkn, ext_ge b (by omega)]; omega
        go_wp2_with (at_builtin; refine wpList_app rfl _ _ rfl w.heap.size _ k r rfl (hO.stays (bel_alloc _ _)) _ 1 1 (fun _ => (q + a k) % 1073741824) rfl (row1 _ _ rfl) (by omega) (by have := hbw.size; simp; omega) ?_; intro v' w1 hO1 hg1)
        have hb1 : Below w.heap.size w w1 := (hbw.alloc hbw.size _).grown hg1 (by have := hbw.size; simp; omega) (own_ge hO)
        have hs := sum_step (x := ext a n k + ext b m k) HV.out
        rw [← HX.out] at hs
        go_roundw
        case rel => exact ⟨k + 1, (q + a k) / 1073741824, upd r k ((q + a k) % 1073741824), by omega, by go_num, rfl, by omega, by omega, hO1.congr (cat_upd r k _), dig_upd2 hD (mod_dig _), by show _ = _; rw [hs, val_succ, val_succ]; grind, fun h => by omega, hb1⟩
        case measure => simp [intOf]; omega
    · by_cases hkm : k < m
      · obtain ⟨bb, fb, rfl, hbb, hcb⟩ := hb.spot (by omega)
        have c2 := (hbw.cell (p := ⟨bb, fb + k, none⟩) hbb).trans (hcb k hkm)
        have dbk := db k hkm
        have HX : Hid (q + b k = q + (ext a n k + ext b m k)) := by show _ = _; rw [ext_ge a (by omega), ext_lt b hkm]; omega
        go_wp2_with (at_builtin; refine wpList_app rfl _ _ rfl w.heap.size _ k r rfl (hO.stays (bel_alloc _ _)) _ 1 1 (fun _ => (q + b k) % 1073741824) rfl (row1 _ _ rfl) (by omega) (by have := hbw.size; simp; omega) ?_; intro v' w1 hO1 hg1)
        have hb1 : Below w.heap.size w w1 := (hbw.alloc hbw.size _).grown hg1 (by have := hbw.size; simp; omega) (own_ge hO)
        have hs := sum_step (x := ext a n k + ext b m k) HV.out
        rw [← HX.out] at hs
        go_roundw
        case rel => exact ⟨k + 1, (q + b k) / 1073741824, upd r k ((q + b k) % 1073741824), by omega, by go_num, rfl, by omega, by omega, hO1.congr (cat_upd r k _), dig_upd2 hD (mod_dig _), by show _ = _; rw [hs, val_succ, val_succ]; grind, fun h => by omega, hb1⟩
        case measure => simp [intOf]; omega
      · by_cases hq : 0 < q
        · have hkE : k = M := by omega
          have HTT : Hid (P M ≤ val a n + val b m) := by
            show _ ≤ _
            have h := HV.out
            rw [val_ext a (by omega), val_ext b (by omega), show q = 1 by omega, hkE] at h
            have := val_nonneg hD
            rw [hkE] at this
            omega
          have HX : Hid (q = q + (ext a n k + ext b m k)) := by show _ = _; rw [ext_ge a (by omega), ext_ge b (by omega)]; omega
          go_wp2_with (at_builtin; refine wpList_app rfl _ _ rfl w.heap.size _ k r rfl (hO.stays (bel_alloc _ _)) _ 1 1 (fun _ => (q) % 1073741824) rfl (row1 _ _ rfl) (by omega) (by have := hbw.size; simp; omega) ?_; intro v' w1 hO1 hg1)
          have hb1 : Below w.heap.size w w1 := (hbw.alloc hbw.size _).grown hg1 (by have := hbw.size; simp; omega) (own_ge hO)
          have hs := sum_step (x := ext a n k + ext b m k) HV.out
          rw [← HX.out] at hs
          go_roundw
          case rel => exact ⟨k + 1, (q) / 1073741824, upd r k ((q) % 1073741824), by omega, by go_num, rfl, by omega, by omega, hO1.congr (cat_upd r k _), dig_upd2 hD (mod_dig _), by show _ = _; rw [hs, val_succ, val_succ]; grind, fun h => HTT.out, hb1⟩
          case measure => simp [intOf]; omega
        · obtain rfl : q = 0 := by omega
          have hkMM : M ≤ k := by omega
          have hcd : decide ((0 : Int) < 0) = false := by decide
          go_wp2
          go_ret
          have hv : val r k = val a n + val b m := by
            have h := HV.out
            rw [val_ext a (by omega), val_ext b (by omega)] at h
            omega
          refine ⟨_, rfl, k, r, hO, ⟨hD, top_of hD fun hk0 => ?_⟩, hv, hbw⟩
          rw [hv]
          have A0 := val_nonneg da
          have B0 := val_nonneg db
          rcases hk with h | ⟨h, _⟩
          · obtain rfl : k = M := by omega
            rcases hM3 with q | q
            · obtain rfl : k = n := by omega
              have := val_top da hk0 na.2
              omega
            · obtain rfl : k = m := by omega
              have := val_top db hk0 nb.2
              omega
          · rw [h, Nat.add_sub_cancel]; exact HT.out h
end Go.Proofs.YtnhkagiionkjaaaGreatDoor
