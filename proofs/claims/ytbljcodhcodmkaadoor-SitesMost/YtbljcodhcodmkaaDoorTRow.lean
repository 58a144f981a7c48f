/-
  A set of sites as it lies in memory: the list of its sites, the map that finds those alive, the set itself; what stays while it is turned.
-/
import Derived.Test.YtbljcodhcodmkaaDoorTKey
import Derived.Maps.AppendAt
namespace Go.Proofs.YtbljcodhcodmkaaDoor
open Go Go.RowKit Go.Proofs.YtbljcodhcodmkaaDoor.M
set_option linter.unusedSimpArgs false
set_option linter.unusedVariables false

def cellsT (px py : Nat → Int) (al : Nat → Bool) : Nat → List Value
  | 0 => []
  | m + 1 => cellsT px py al m ++ [.int .i64 (px m), .int .i64 (py m), .bool (al m)]
theorem cellsT_len (px py : Nat → Int) (al : Nat → Bool) : ∀ m, (cellsT px py al m).length = m * 3
  | 0 => rfl
  | m + 1 => by
    rw [cellsT, List.length_append, cellsT_len px py al m]
    show m * 3 + 3 = (m + 1) * 3
    omega
theorem cellsT_at (px py : Nat → Int) (al : Nat → Bool) : ∀ m i, i < m → (cellsT px py al m)[i * 3]? = some (.int .i64 (px i)) ∧ (cellsT px py al m)[i * 3 + 1]? = some (.int .i64 (py i)) ∧ (cellsT px py al m)[i * 3 + 2]? = some (.bool (al i))
  | 0, i, hi => by omega
  | m + 1, i, hi => by
    have hl := cellsT_len px py al m
    rw [cellsT]
    by_cases e : i = m
    · subst e
      rw [List.getElem?_append_right (by omega), List.getElem?_append_right (by omega), List.getElem?_append_right (by omega), hl, show i * 3 - i * 3 = 0 by omega, show i * 3 + 1 - i * 3 = 1 by omega, show i * 3 + 2 - i * 3 = 2 by omega]
      exact ⟨rfl, rfl, rfl⟩
    · rw [List.getElem?_append_left (by omega), List.getElem?_append_left (by omega), List.getElem?_append_left (by omega)]
      exact cellsT_at px py al m i (by omega)
theorem cellsT_congr {px py px' py' : Nat → Int} {al al' : Nat → Bool} : ∀ m, (∀ i, i < m → px i = px' i ∧ py i = py' i ∧ al i = al' i) → cellsT px py al m = cellsT px' py' al' m
  | 0, _ => rfl
  | m + 1, h => by
    obtain ⟨h1, h2, h3⟩ := h m (by omega)
    rw [cellsT, cellsT, cellsT_congr m fun i hi => h i (by omega), h1, h2, h3]
def updT {α : Type} (f : Nat → α) (i : Nat) (v : α) : Nat → α := fun k => if k = i then v else f k
theorem updT_same {α : Type} (f : Nat → α) (i : Nat) (v : α) : updT f i v i = v := if_pos rfl
theorem updT_other {α : Type} (f : Nat → α) {i k : Nat} (v : α) (h : k ≠ i) : updT f i v k = f k := if_neg h
theorem cellsT_set {px py : Nat → Int} {al : Nat → Bool} (a : Bool) {i : Nat} : ∀ m, i < m → (cellsT px py al m).set (i * 3 + 2) (.bool a) = cellsT px py (updT al i a) m
  | 0, h => by omega
  | m + 1, h => by
    have hl := cellsT_len px py al m
    rw [cellsT, cellsT]
    by_cases e : i = m
    · subst e
      rw [List.set_append_right _ _ (by omega), hl, show i * 3 + 2 - i * 3 = 2 by omega, updT_same, cellsT_congr i (px' := px) (py' := py) (al := updT al i a) (al' := al) fun k hk => ⟨rfl, rfl, updT_other _ _ (by omega)⟩]
      rfl
    · rw [List.set_append_left _ _ (by omega), cellsT_set a m (by omega), updT_other _ _ (by omega)]
/-- The list of the sites, the set's own. -/
def OutT (B : Nat) (w : World) (v : Value) (n : Nat) (px py : Nat → Int) (al : Nat → Bool) : Prop := w.ownsRow B 54 3 v n (cellsT px py al n)
theorem OutT.nil (B : Nat) (w : World) (px py : Nat → Int) (al : Nat → Bool) : OutT B w (.slice none 0 0) 0 px py al := ⟨rfl, .inl ⟨rfl, rfl⟩⟩
theorem OutT.of_block {B : Nat} {w w' : World} {x : Value} {m : Nat} {px py : Nat → Int} {al : Nat → Bool} (h : OutT B w x m px py al) (hb : ∀ g, x.ownBlock = some g → w'.heap[g]? = w.heap[g]?) : OutT B w' x m px py al := by
  refine ⟨h.1, ?_⟩
  rcases h.2 with hn | ⟨g, cap, cur, rfl, hbb, hg, rest⟩
  · exact .inl hn
  · exact .inr ⟨g, cap, cur, rfl, hbb, (hb g rfl).trans hg, rest⟩
theorem OutT.typed {B : Nat} {w : World} {x : Value} {m : Nat} {px py : Nat → Int} {al : Nat → Bool} (h : OutT B w x m px py al) {g : Nat} (hg : x.ownBlock = some g) : B ≤ g ∧ g < w.heap.size ∧ ∃ cur z, w.heap[g]? = some (.cells cur 54 z) := by
  rcases h.2 with ⟨rfl, _⟩ | ⟨g', cap, cur, rfl, hbb, hg', rest⟩
  · simp [Value.ownBlock] at hg
  · simp only [Value.ownBlock, Option.some.injEq] at hg; subst hg; exact ⟨hbb, (Array.getElem?_eq_some_iff.1 hg').1, cur, _, hg'⟩
theorem OutT.shape {B : Nat} {w : World} {x : Value} {m : Nat} {px py : Nat → Int} {al : Nat → Bool} (h : OutT B w x m px py al) : ∃ xo xc, x = .slice xo m xc ∧ m ≤ xc ∧ xc ≤ 9223372036854775807 ∧ (0 < m → ∃ g, xo = some ⟨g, 0, none⟩) := by
  rcases h.2 with ⟨rfl, rfl⟩ | ⟨g, cap, cur, rfl, hb, hg, hn, hm, _⟩
  · exact ⟨none, 0, rfl, Nat.le_refl _, by decide, fun h => by omega⟩
  · exact ⟨_, cap, rfl, hn, by unfold maxLen at hm; omega, fun _ => ⟨g, rfl⟩⟩
theorem OutT.cell {B : Nat} {w : World} {m xc g : Nat} {px py : Nat → Int} {al : Nat → Bool} (h : OutT B w (.slice (some ⟨g, 0, none⟩) m xc) m px py al) {i : Nat} (hi : i < m) :
    w.cell? ⟨g, i * 3, none⟩ = some (.int .i64 (px i)) ∧ w.cell? ⟨g, i * 3 + 1, none⟩ = some (.int .i64 (py i)) ∧ w.cell? ⟨g, i * 3 + 2, none⟩ = some (.bool (al i)) ∧ w.frozen? ⟨g, i * 3 + 2, none⟩ = false := by
  rcases h.2 with ⟨e, _⟩ | ⟨g', cap, cur, e, hb, hg, hn, hm, hs, ht'⟩
  · cases e
  · simp only [Value.slice.injEq, Option.some.injEq, Addr.mk.injEq, and_true, true_and] at e
    obtain ⟨rfl, rfl⟩ := e
    obtain ⟨h0, h1, h2⟩ := cellsT_at px py al m i hi
    rw [← ht', List.getElem?_take_of_lt (by omega)] at h0 h1 h2
    refine ⟨?_, ?_, ?_, frozen_of_row w g (i * 3 + 2) _ _ hg⟩
    · rw [cell_of_row w g (i * 3) cur _ _ hg]; simpa using h0
    · rw [cell_of_row w g (i * 3 + 1) cur _ _ hg]; simpa using h1
    · rw [cell_of_row w g (i * 3 + 2) cur _ _ hg]; simpa using h2
theorem OutT.set {B : Nat} {w : World} {m xc g : Nat} {px py : Nat → Int} {al : Nat → Bool} (h : OutT B w (.slice (some ⟨g, 0, none⟩) m xc) m px py al) {i : Nat} (hi : i < m) (a : Bool) :
    OutT B (w.setCell ⟨g, i * 3 + 2, none⟩ (.bool a)) (.slice (some ⟨g, 0, none⟩) m xc) m px py (updT al i a) := by
  refine ⟨cellsT_len _ _ _ _, ?_⟩
  rcases h.2 with ⟨e, _⟩ | ⟨g', cap, cur, e, hb, hg, hn, hm, hs, ht'⟩
  · cases e
  · simp only [Value.slice.injEq, Option.some.injEq, Addr.mk.injEq, and_true, true_and] at e
    obtain ⟨rfl, rfl⟩ := e
    refine .inr ⟨g, xc, cur.setIfInBounds (i * 3 + 2) (.bool a), rfl, hb, q_heap_set hg _ _, hn, hm, by simpa using hs, ?_⟩
    rw [← cellsT_set a m hi, ← ht']
    simp [List.take_set]
theorem t_info : (Tryd.prog.info? 54).map (fun i => (i.zero, i.size, i.bytes)) = some (some (.agg #[.int .i64 0, .int .i64 0, .bool false]), 3, 24) := by kernel_rfl
theorem step_appT {ops : Array Oper} {o : Oper} {a : Act} {w : World} {K : Act → World → Prop} {Q : Exit → Act → World → Prop} {E : Prop} (hgd : o.guard = none) (s x : Operand)
    (ho : o.op = .call { callee := .builtin .append, args := #[s, x], argTypes := #[46, 46] }) (B : Nat) (v : Value) (n : Nat) (px py : Nat → Int) (al : Nat → Bool) (hs : a.eval s = v) (hO : OutT B w v n px py al)
    (g : Nat) (X Y : Int) (c : Bool) (hx : a.eval x = .slice (some ⟨g, 0, none⟩) 1 1) (hg : w.heap[g]? = some (.cells #[.int .i64 X, .int .i64 Y, .bool c] 54 (0, 0))) (hlen : n ≤ 1000000) (hB : B ≤ w.heap.size)
    (h : ∀ v' w', OutT B w' v' (n + 1) (updT px n X) (updT py n Y) (updT al n c) → w.grownBy w' v.ownBlock → (v'.ownBlock = v.ownBlock ∨ v'.ownBlock = some w.heap.size) → K (a.put o.dst v') w') : if Region.wanted o (yielded ops a.tmps) = true then Oper.wp Tryd.prog o a w K Q else E := by
  rw [if_pos (by simp [Region.wanted, hgd])]
  obtain ⟨i0, hi, hz0, hz1, hz2⟩ := info_parts t_info
  obtain ⟨v', w', hr, h2, h3, _, h5⟩ := run_append_own_at (P := Tryd.prog) w B 46 o.type 54 i0 (.agg #[.int .i64 0, .int .i64 0, .bool false]) 3 24 Tryd.underlying46 hi hz0 hz1 hz2 rfl (by decide) v n (cellsT px py al n) hO ⟨g, 0, none⟩ 1 1 [.int .i64 X, .int .i64 Y, .bool c] rfl
    (fun j u hu => by
      rw [add_none, Nat.zero_add]
      match j, hu with
      | 0, hu => rw [cell_of_row w g 0 _ _ _ hg]; simpa using hu
      | 1, hu => rw [cell_of_row w g 1 _ _ _ hg]; simpa using hu
      | 2, hu => rw [cell_of_row w g 2 _ _ _ hg]; simpa using hu
      | j + 3, hu => simp at hu) (by intro u hu; simp at hu; rcases hu with rfl | rfl | rfl <;> rfl) (by unfold maxLen; omega) (by omega) hB
  have e : cellsT px py al n ++ [.int .i64 X, .int .i64 Y, .bool c] = cellsT (updT px n X) (updT py n Y) (updT al n c) (n + 1) := by
    rw [cellsT, updT_same, updT_same, updT_same, cellsT_congr n (px := updT px n X) (py := updT py n Y) (al := updT al n c) (px' := px) (py' := py) (al' := al) fun k hk => ⟨updT_other _ _ (by omega), updT_other _ _ (by omega), updT_other _ _ (by omega)⟩]
  rw [e] at h2
  unfold Oper.wp execOp
  simp only [ho, resolve, invoke, builtin, Sem.run_bind, Sem.run_pure, Result.andThen_ok, List.map_toArray, List.map_cons, List.map_nil, hs, hx, hr]
  exact h v' w' h2 h3 h5
/-- What the sites are, and where each is found: f tells of each place the number of the site that lives there. -/
structure StF (n : Nat) (px py : Nat → Int) (al : Nat → Bool) (f : Int → Int → Option Int) : Prop where
  nrm : ∀ i, i < n → rng (px i) ∧ rng (py i) ∧ pok (px i) = true ∧ pok (py i) = true ∧ q0 (px i) = px i ∧ q0 (py i) = py i
  fnd : ∀ i : Nat, i < n → al i = true → f (px i) (py i) = some (i : Int)
  back : ∀ x y v, f x y = some v → ∃ i : Nat, i < n ∧ v = (i : Int) ∧ al i = true ∧ px i = x ∧ py i = y
/-- A set of sites: the block of the set itself, its list, its map. -/
def SetR (B : Nat) (w : World) (g n s : Nat) (px py : Nat → Int) (al : Nat → Bool) (f : Int → Int → Option Int) : Prop :=
  ∃ gv mv, w.heap[g]? = some (.cells #[gv, mv] 49 (0, 0)) ∧ B ≤ g ∧ OutT B w gv n px py al ∧ StF n px py al f ∧ n ≤ 65536 ∧ ((mv = .map none ∧ n = 0 ∧ s = 0 ∧ f = fun _ _ => none) ∨ ∃ b, mv = .map (some b) ∧ B ≤ b ∧ Mp w b n f s)
/-- A block that no set turns. -/
def Pln : Option Obj → Prop
  | some (.cells _ t _) => t ≠ 49 ∧ t ≠ 54
  | _ => False
/-- What stays while a set is turned whose blocks lie from B on. -/
structure FrS (B : Nat) (w w' : World) : Prop where
  os : w'.os = w.os
  tape : w'.tape = w.tape
  output : w'.output = w.output
  size : w.heap.size ≤ w'.heap.size
  keep : ∀ k, k < w.heap.size → (k < B ∨ Pln (w.heap[k]?)) → w'.heap[k]? = w.heap[k]?
theorem FrS.below {B : Nat} {w w' : World} (h : FrS B w w') (hB : B ≤ w.heap.size) : Below B w w' := ⟨h.os, h.tape, h.output, h.size, fun k hk => h.keep k (by omega) (.inl hk)⟩
theorem FrS.of_below {B : Nat} {w w' : World} (h : Below w.heap.size w w') : FrS B w w' := ⟨h.os, h.tape, h.output, h.size, fun k hk _ => h.block k hk⟩
theorem FrS.trans {B : Nat} {a b c : World} (h : FrS B a b) (k : FrS B b c) : FrS B a c :=
  ⟨k.os.trans h.os, k.tape.trans h.tape, k.output.trans h.output, Nat.le_trans h.size k.size, fun i hi hp => by
    have e := h.keep i hi hp
    rw [k.keep i (Nat.lt_of_lt_of_le hi h.size) (hp.imp id fun q => by rw [e]; exact q), e]⟩
theorem FrS.of_grown {B : Nat} {w w' : World} {row : Option Nat} (h : w.grownBy w' row) (hr : ∀ k, row = some k → B ≤ k ∧ ¬ Pln (w.heap[k]?)) : FrS B w w' :=
  ⟨h.os, h.tape, h.output, h.size, fun k hk hp => h.block k hk fun e => by
    obtain ⟨h1, h2⟩ := hr k e.symm
    rcases hp with hp | hp
    · omega
    · exact h2 hp⟩
theorem FrS.set {B g o : Nat} {w : World} (v : Value) (hg : B ≤ g) (hp : ¬ Pln (w.heap[g]?)) : FrS B w (w.setCell ⟨g, o, none⟩ v) :=
  FrS.of_grown (row := some g) ⟨rfl, rfl, rfl, by simp, fun k hk hne => Below.heap_setCell _ _ _ _ fun e => hne (by rw [e])⟩ (fun k hk => by cases hk; exact ⟨hg, hp⟩)
theorem FrS.blk {B k : Nat} {w w' : World} (h : FrS B w w') {xs : Array Value} {t : TypeId} {z : Nat × Nat} (hk : w.heap[k]? = some (.cells xs t z)) (h1 : t ≠ 49) (h2 : t ≠ 54) : w'.heap[k]? = some (.cells xs t z) :=
  (h.keep k (Array.getElem?_eq_some_iff.1 hk).1 (.inr (by rw [hk]; exact ⟨h1, h2⟩))).trans hk
theorem FrS.drew {B : Nat} {w w' : World} (h : FrS B w w') : FrS B w w'.drew := ⟨h.os, h.tape, h.output, h.size, h.keep⟩
theorem SetR.keeps {B : Nat} {w w' : World} {g n s : Nat} {px py : Nat → Int} {al : Nat → Bool} {f : Int → Int → Option Int} (h : SetR B w g n s px py al f) (hb : Below w.heap.size w w') : SetR B w' g n s px py al f := by
  obtain ⟨gv, mv, h1, h2, h3, h4, h5, h6⟩ := h
  refine ⟨gv, mv, (hb.block g (Array.getElem?_eq_some_iff.1 h1).1).trans h1, h2, h3.of_block fun k hk => hb.block k (h3.typed hk).2.1, h4, h5, ?_⟩
  rcases h6 with h6 | ⟨b, e, hb', hm⟩
  · exact .inl h6
  · obtain ⟨es, c, hc⟩ := hm.lt
    exact .inr ⟨b, e, hb', hm.of_block (hb.block b (Array.getElem?_eq_some_iff.1 hc).1)⟩
theorem SetR.stF {B : Nat} {w : World} {g n s : Nat} {px py : Nat → Int} {al : Nat → Bool} {f : Int → Int → Option Int} (h : SetR B w g n s px py al f) : StF n px py al f := by
  obtain ⟨gv, mv, h1, h2, h3, h4, h5, h6⟩ := h
  exact h4
theorem SetR.most {B : Nat} {w : World} {g n s : Nat} {px py : Nat → Int} {al : Nat → Bool} {f : Int → Int → Option Int} (h : SetR B w g n s px py al f) : n ≤ 65536 := by
  obtain ⟨gv, mv, h1, h2, h3, h4, h5, h6⟩ := h
  exact h5
theorem t_blkC {w : World} {g : Nat} {a b : Value} {t : TypeId} (h : w.heap[g]? = some (.cells #[a, b] t (0, 0))) : w.cell? ⟨g, 0, none⟩ = some a ∧ w.cell? ⟨g, 1, none⟩ = some b ∧ w.frozen? ⟨g, 0, none⟩ = false ∧ w.frozen? ⟨g, 1, none⟩ = false :=
  ⟨by rw [cell_of_row w g 0 _ _ _ h]; rfl, by rw [cell_of_row w g 1 _ _ _ h]; rfl, frozen_of_row w g 0 _ _ h, frozen_of_row w g 1 _ _ h⟩
theorem t_new (w : World) (o : Obj) : (w.alloc o).heap[w.heap.size]? = some o := (MapKept.heap_alloc w o).1
theorem t_past {w : World} {k : Nat} {x : Obj} (o : Obj) (h : w.heap[k]? = some x) : (w.alloc o).heap[k]? = some x := (Below.heap_alloc _ _ _ (Array.getElem?_eq_some_iff.1 h).1).trans h
end Go.Proofs.YtbljcodhcodmkaaDoor
