/-
  Lists of numbers that are the call's own: what lies in them, append.
-/
import Derived.Test.YtcpjdgfnblkfpaaGreatDoorDIs
import Derived.Test.YtcpjdgfnblkfpaaGreatDoorDDot
import Derived.Maps.AppendAt
import Derived.Laws.AppendOwnNone
namespace Go.Proofs.YtcpjdgfnblkfpaaGreatDoor
open Go Go.RowKit Go.Proofs.YtcpjdgfnblkfpaaGreatDoor.M
set_option linter.unusedSimpArgs false
set_option linter.unusedVariables false

/-- The cells of the first m. -/
def cells3 (f : Nat → Value) : Nat → List Value
  | 0 => []
  | m + 1 => cells3 f m ++ (f m).cells.toList
/-- A number's value in memory has three cells, each of them one. -/
def Three (v : Value) : Prop := ∃ ng so sn sc e, v = .agg #[.bool ng, .slice so sn sc, .int .i64 e]
theorem DAn.three {B : Nat} {w : World} {V : Int} {v : Value} (h : DAn B w V v) : Three v := by
  obtain ⟨ng, s, m, e, rfl, _, hA⟩ := h
  obtain ⟨so, sn, sc, rfl⟩ := hA.shape
  exact ⟨_, _, _, _, _, rfl⟩
theorem cells3_length {f : Nat → Value} : ∀ m, (∀ i, i < m → Three (f i)) → (cells3 f m).length = m * 3
  | 0, _ => rfl
  | m + 1, h => by
    obtain ⟨ng, so, sn, sc, e, he⟩ := h m (by omega)
    rw [cells3, List.length_append, cells3_length m fun i hi => h i (by omega), he]
    simp [Value.cells]
    omega
theorem cells3_congr {f f' : Nat → Value} : ∀ m, (∀ i, i < m → f i = f' i) → cells3 f m = cells3 f' m
  | 0, _ => rfl
  | m + 1, h => by rw [cells3, cells3, cells3_congr m fun i hi => h i (by omega), h m (by omega)]
theorem cells3_add (f : Nat → Value) (a : Nat) : ∀ b, cells3 f (a + b) = cells3 f a ++ cells3 (fun i => f (a + i)) b
  | 0 => by simp [cells3]
  | b + 1 => by
    show cells3 f (a + b) ++ (f (a + b)).cells.toList = cells3 f a ++ (cells3 (fun i => f (a + i)) b ++ (f (a + b)).cells.toList)
    rw [cells3_add f a b, List.append_assoc]
theorem cells3_at {f : Nat → Value} : ∀ m, (∀ i, i < m → Three (f i)) → ∀ i j, i < m → j < 3 → (cells3 f m)[i * 3 + j]? = (f i).cells[j]?
  | 0, _, i, j, hi, _ => by omega
  | m + 1, h, i, j, hi, hj => by
    have hl := cells3_length m fun i hi => h i (by omega)
    rw [cells3]
    by_cases e : i = m
    · subst e
      rw [List.getElem?_append_right (by omega), hl, show i * 3 + j - i * 3 = j by omega]
      simp
    · rw [List.getElem?_append_left (by omega)]
      exact cells3_at m (fun i hi => h i (by omega)) i j (by omega) hj
/-- A list of numbers that is the call's own. -/
def OutN (B : Nat) (w : World) (x : Value) (m : Nat) (f : Nat → Value) : Prop := w.ownsRow B 37 3 x m (cells3 f m)
theorem OutN.nil (B : Nat) (w : World) (f : Nat → Value) : OutN B w (.slice none 0 0) 0 f := ⟨rfl, .inl ⟨rfl, rfl⟩⟩
theorem OutN.of_block {B : Nat} {w w' : World} {x : Value} {m : Nat} {f : Nat → Value} (h : OutN B w x m f) (hb : ∀ g, x.ownBlock = some g → w'.heap[g]? = w.heap[g]?) : OutN B w' x m f := by
  refine ⟨h.1, ?_⟩
  rcases h.2 with hn | ⟨g, cap, cur, rfl, hbb, hg, rest⟩
  · exact .inl hn
  · exact .inr ⟨g, cap, cur, rfl, hbb, (hb g rfl).trans hg, rest⟩
theorem OutN.typed {B : Nat} {w : World} {x : Value} {m : Nat} {f : Nat → Value} (h : OutN B w x m f) {g : Nat} (hg : x.ownBlock = some g) : B ≤ g ∧ g < w.heap.size ∧ ∃ cur z, w.heap[g]? = some (.cells cur 37 z) := by
  rcases h.2 with ⟨rfl, _⟩ | ⟨g', cap, cur, rfl, hbb, hg', rest⟩
  · simp [Value.ownBlock] at hg
  · simp only [Value.ownBlock, Option.some.injEq] at hg; subst hg; exact ⟨hbb, (Array.getElem?_eq_some_iff.1 hg').1, cur, _, hg'⟩
theorem OutN.keeps {B : Nat} {w w' : World} {x : Value} {m : Nat} {f : Nat → Value} (h : OutN B w x m f) (hb : Below w.heap.size w w') : OutN B w' x m f := h.of_block fun g hg => hb.block g (h.typed hg).2.1
theorem OutN.shape {B : Nat} {w : World} {x : Value} {m : Nat} {f : Nat → Value} (h : OutN B w x m f) : ∃ xo xc, x = .slice xo m xc ∧ m ≤ xc ∧ (0 < m → ∃ g, xo = some ⟨g, 0, none⟩) := by
  rcases h.2 with ⟨rfl, rfl⟩ | ⟨g, cap, cur, rfl, hb, hg, hn, hm, _⟩
  · exact ⟨none, 0, rfl, Nat.le_refl _, fun h => by omega⟩
  · exact ⟨_, cap, rfl, hn, fun _ => ⟨g, rfl⟩⟩
theorem OutN.cell {B : Nat} {w : World} {xo : Option Addr} {m xc g : Nat} {f : Nat → Value} (h : OutN B w (.slice xo m xc) m f) (ht : ∀ i, i < m → Three (f i)) (hx : xo = some ⟨g, 0, none⟩) {i j : Nat} (hi : i < m) (hj : j < 3) : w.cell? ⟨g, i * 3 + j, none⟩ = (f i).cells[j]? := by
  rcases h.2 with ⟨_, rfl⟩ | ⟨g', cap, cur, e, hb, hg, hn, hm, hs, ht'⟩
  · omega
  · simp only [Value.slice.injEq] at e
    obtain ⟨rfl, _, rfl⟩ := e
    simp only [Option.some.injEq, Addr.mk.injEq] at hx
    obtain ⟨rfl, _⟩ := hx
    rw [cell_of_row w g' (i * 3 + j) cur _ _ hg, ← cells3_at m ht i j hi hj, ← ht', List.getElem?_take_of_lt (by omega)]
    simp
/-- A number's list stays where only lists of numbers grow. -/
theorem DAn.of_blocks {B : Nat} {w w' : World} {V : Int} {v : Value} (h : DAn B w V v) (hb : ∀ (g : Nat) (cur : Array Value) z, w.heap[g]? = some (.cells cur 3 z) → w'.heap[g]? = w.heap[g]?) : DAn B w' V v := by
  obtain ⟨ng, s, m, e, h1, h2, t, d, hO, h3⟩ := h
  exact ⟨ng, s, m, e, h1, h2, t, d, hO.of_block fun g hg => by obtain ⟨cur, z, hc⟩ := hO.typed hg; exact hb g cur z hc, h3⟩
theorem grown_ints {w w' : World} {row : Option Nat} (hg : w.grownBy w' row) (hr : ∀ g, row = some g → ∃ (cur : Array Value) (z : Nat × Nat), w.heap[g]? = some (Obj.cells cur 37 z)) : ∀ (g : Nat) (cur : Array Value) z, w.heap[g]? = some (.cells cur 3 z) → w'.heap[g]? = w.heap[g]? := fun g cur z hc => by
  refine hg.block g (Array.getElem?_eq_some_iff.1 hc).1 fun e => ?_
  obtain ⟨cur', z', hc'⟩ := hr g e.symm
  rw [hc] at hc'
  simp at hc'
theorem wpList_appN {w : World} {ops : Array Oper} {rest : List Oper} {o : Oper} {a : Act} {Q : Exit → Act → World → Prop} (hgd : o.guard = none) (s x : Operand)
    (ho : o.op = .call { callee := .builtin .append, args := #[s, x], argTypes := #[129, 129] }) (B : Nat) (v : Value) (m : Nat) (f : Nat → Value) (hs : a.eval s = v) (hO : OutN B w v m f)
    (g k cap : Nat) (f2 : Nat → Value) (h3 : ∀ i, i < k → Three (f2 i)) (hx : a.eval x = .slice (some ⟨g, 0, none⟩) k cap) (hy : ∀ i j, i < k → j < 3 → w.cell? ⟨g, i * 3 + j, none⟩ = (f2 i).cells[j]?) (hlen : m + k ≤ 100000) (hB : B ≤ w.heap.size)
    (h : ∀ v' w', OutN B w' v' (m + k) (fun i => if i < m then f i else f2 (i - m)) → w.grownBy w' v.ownBlock → (v'.ownBlock = v.ownBlock ∨ v'.ownBlock = some w.heap.size) → wpList Tryz.prog ops Q rest (a.put o.dst v') w') : wpList Tryz.prog ops Q (o :: rest) a w := by
  obtain ⟨i0, hi, hz0, hz1, hz2⟩ := info_num
  refine wpList_append_own_at w hgd s x 129 ho B 37 i0 (.agg #[.bool false, .slice none 0 0, .int .i64 0]) 3 40 Tryz.underlying129 hi hz0 hz1 hz2 rfl (by decide) v m (cells3 f m) hs hO ⟨g, 0, none⟩ k cap (cells3 f2 k) hx (cells3_length k h3) ?_ ?_ (by unfold maxLen; omega) (by omega) hB ?_
  · intro j u hu
    have hj : j < k * 3 := by have := (List.getElem?_eq_some_iff.1 hu).1; rw [cells3_length k h3] at this; exact this
    rw [add_none, Nat.zero_add]
    have e : j = j / 3 * 3 + j % 3 := by omega
    have h1 := cells3_at k h3 (j / 3) (j % 3) (by omega) (by omega)
    have h2 := hy (j / 3) (j % 3) (by omega) (by omega)
    rw [← e] at h1 h2
    rw [h2, ← h1, hu]
  · intro u hu
    obtain ⟨j, hj, hu2⟩ := List.mem_iff_getElem.1 hu
    have hj' : j < k * 3 := by rw [cells3_length k h3] at hj; exact hj
    have e : j = j / 3 * 3 + j % 3 := by omega
    have h1 := cells3_at k h3 (j / 3) (j % 3) (by omega) (by omega)
    rw [← e, List.getElem?_eq_getElem hj, hu2] at h1
    obtain ⟨ng, so, sn, sc, ee, he⟩ := h3 (j / 3) (by omega)
    rw [he] at h1
    have h5 : j % 3 = 0 ∨ j % 3 = 1 ∨ j % 3 = 2 := by omega
    rcases h5 with h5 | h5 | h5 <;> rw [h5] at h1 <;> simp [Value.cells] at h1 <;> subst h1 <;> rfl
  · intro v' w' h1 h2 _ h4
    refine h v' w' ?_ h2 h4
    unfold OutN
    rw [cells3_add, cells3_congr (f := fun i => if i < m then f i else f2 (i - m)) (f' := f) m (fun i hi => if_pos hi), cells3_congr (f := fun i => (fun i => if i < m then f i else f2 (i - m)) (m + i)) (f' := f2) k (fun i hi => by simp [show ¬ (m + i < m) by omega, show m + i - m = i by omega])]
    exact h1
theorem wpList_appN0 {w : World} {ops : Array Oper} {rest : List Oper} {o : Oper} {a : Act} {Q : Exit → Act → World → Prop} (hgd : o.guard = none) (s x : Operand)
    (ho : o.op = .call { callee := .builtin .append, args := #[s, x], argTypes := #[129, 129] }) (B : Nat) (v : Value) (m : Nat) (f : Nat → Value) (hs : a.eval s = v) (hO : OutN B w v m f)
    (hx : a.eval x = .slice none 0 0) (h : wpList Tryz.prog ops Q rest (a.put o.dst v) w) : wpList Tryz.prog ops Q (o :: rest) a w := by
  obtain ⟨i0, hi, hz0, hz1, hz2⟩ := info_num
  exact wpList_append_own_none hgd s x 129 ho B 37 i0 3 Tryz.underlying129 hi v m (cells3 f m) hs hO hx h
/-- A literal of one number, in its own new block. -/
theorem lit_cells {w : World} {g : Nat} {v : Value} {ng : Bool} {so : Option Addr} {sn sc : Nat} {e : Int} (hv : v = .agg #[.bool ng, .slice so sn sc, .int .i64 e]) (hg : w.heap[g]? = some (.cells #[.bool ng, .slice so sn sc, .int .i64 e] 37 (0, 0))) : ∀ i j, i < 1 → j < 3 → w.cell? ⟨g, i * 3 + j, none⟩ = ((fun _ => v) i).cells[j]? := fun i j hi hj => by
  obtain rfl : i = 0 := by omega
  rw [Nat.zero_mul, Nat.zero_add, hv]
  match j, hj with
  | 0, _ => exact blkC hg 0 rfl
  | 1, _ => exact blkC hg 1 rfl
  | 2, _ => exact blkC hg 2 rfl
theorem lit_own {w : World} {B g : Nat} {ng : Bool} {so : Option Addr} {sn sc : Nat} {e : Int} (hg : w.heap[g]? = some (.cells #[.bool ng, .slice so sn sc, .int .i64 e] 37 (0, 0))) (hB : B ≤ g) : OutN B w (.slice (some ⟨g, 0, none⟩) 1 1) 1 (fun _ => .agg #[.bool ng, .slice so sn sc, .int .i64 e]) := by
  refine ⟨by simp [cells3, Value.cells], .inr ⟨g, 1, _, rfl, hB, hg, Nat.le_refl _, by decide, by simp, ?_⟩⟩
  simp [cells3, Value.cells]
/-- Lists of numbers that are the call's own, each in a block of its own. -/
structure LS (B : Nat) (w : World) (N : Nat) (X : Nat → Value) (M : Nat → Nat) (F : Nat → Nat → Value) : Prop where
  own : ∀ j, j < N → OutN B w (X j) (M j) (F j)
  ne : ∀ i j, i < N → j < N → i ≠ j → ∀ g, (X i).ownBlock = some g → (X j).ownBlock ≠ some g
theorem LS.keeps {B : Nat} {w w' : World} {N : Nat} {X : Nat → Value} {M : Nat → Nat} {F : Nat → Nat → Value} (h : LS B w N X M F) (hb : Below w.heap.size w w') : LS B w' N X M F := ⟨fun j hj => (h.own j hj).keeps hb, h.ne⟩
theorem LS.put {B : Nat} {w w' : World} {N : Nat} {X : Nat → Value} {M : Nat → Nat} {F : Nat → Nat → Value} (h : LS B w N X M F) (j0 : Nat) {row : Option Nat} (hg : w.grownBy w' row) {v' : Value} {M' : Nat} {F' : Nat → Value} (hO : OutN B w' v' M' F') (h1 : ∀ j, j < N → j ≠ j0 → ∀ g, (X j).ownBlock = some g → row ≠ some g) (h2 : ∀ j, j < N → j ≠ j0 → ∀ g, (X j).ownBlock = some g → v'.ownBlock ≠ some g) :
    LS B w' N (updV X j0 v') (updV M j0 M') (updV F j0 F') := by
  refine ⟨fun j hj => ?_, fun i j hi hj hij g hgi => ?_⟩
  · by_cases e : j = j0
    · subst e; rw [updV_same, updV_same, updV_same]; exact hO
    · rw [updV_other _ _ e, updV_other _ _ e, updV_other _ _ e]
      exact (h.own j hj).of_block fun g hgx => hg.block g ((h.own j hj).typed hgx).2.1 fun e' => h1 j hj e g hgx e'.symm
  · by_cases e : i = j0
    · subst e
      rw [updV_same] at hgi
      rw [updV_other _ _ (Ne.symm hij)]
      exact fun hgj => h2 j hj (Ne.symm hij) g hgj hgi
    · rw [updV_other _ _ e] at hgi
      by_cases e2 : j = j0
      · subst e2
        rw [updV_same]
        exact h2 i hi e g hgi
      · rw [updV_other _ _ e2]
        exact h.ne i j hi hj hij g hgi
/-- Append to one of them. -/
theorem LS.app {B : Nat} {w w' : World} {N : Nat} {X : Nat → Value} {M : Nat → Nat} {F : Nat → Nat → Value} (h : LS B w N X M F) (j0 : Nat) (hj0 : j0 < N) (hg : w.grownBy w' (X j0).ownBlock) {v' : Value} {M' : Nat} {F' : Nat → Value} (hO : OutN B w' v' M' F') (hv : v'.ownBlock = (X j0).ownBlock ∨ v'.ownBlock = some w.heap.size) :
    LS B w' N (updV X j0 v') (updV M j0 M') (updV F j0 F') := by
  refine h.put j0 hg hO (fun j hj hne g hgj e => ?_) (fun j hj hne g hgj e => ?_)
  · exact h.ne j j0 hj hj0 hne g hgj e
  · rcases hv with hv | hv
    · rw [hv] at e; exact h.ne j j0 hj hj0 hne g hgj e
    · rw [hv] at e
      have := ((h.own j hj).typed hgj).2.1
      simp only [Option.some.injEq] at e
      omega
theorem LS.row {B : Nat} {w : World} {N : Nat} {X : Nat → Value} {M : Nat → Nat} {F : Nat → Nat → Value} (h : LS B w N X M F) {j : Nat} (hj : j < N) : ∀ g, (X j).ownBlock = some g → ∃ (cur : Array Value) (z : Nat × Nat), w.heap[g]? = some (Obj.cells cur 37 z) := fun g hg => (((h.own j hj).typed hg).2.2)
theorem LS.ge {B : Nat} {w : World} {N : Nat} {X : Nat → Value} {M : Nat → Nat} {F : Nat → Nat → Value} (h : LS B w N X M F) {j : Nat} (hj : j < N) : ∀ g, (X j).ownBlock = some g → B ≤ g := fun g hg => ((h.own j hj).typed hg).1
/-- As a list that is read. -/
theorem OutN.nums {B : Nat} {w : World} {xo : Option Addr} {m xc : Nat} {f : Nat → Value} {r : Nat → NumR} (h : OutN B w (.slice xo m xc) m f) (hm : m ≤ 100000) (hr : ∀ i, i < m → f i = (r i).v ∧ Row w (r i).ao (r i).n (r i).cap (r i).d) : ∃ c2, xc = c2 ∧ Nums w xo m xc r := by
  have ht : ∀ i, i < m → Three (f i) := fun i hi => ⟨_, _, _, _, _, (hr i hi).1⟩
  refine ⟨xc, rfl, ?_⟩
  obtain ⟨xo', xc', e, hle, hsp⟩ := h.shape
  simp only [Value.slice.injEq] at e
  obtain ⟨rfl, _, rfl⟩ := e
  refine ⟨hle, ?_, fun hm0 => ?_⟩
  · rcases h.2 with ⟨e, _⟩ | ⟨g, cap, cur, e, hb, hg, hn, hmx, hs, _⟩
    · simp only [Value.slice.injEq] at e; omega
    · simp only [Value.slice.injEq] at e
      obtain ⟨_, _, rfl⟩ := e
      unfold maxLen at hmx
      omega
  · obtain ⟨g, rfl⟩ := hsp hm0
    have hlt : g < w.heap.size := (h.typed (g := g) rfl).2.1
    refine ⟨g, 0, rfl, hlt, fun i hi => ?_⟩
    obtain ⟨h1, h2⟩ := hr i hi
    have c := fun j (hj : j < 3) => h.cell ht rfl hi (j := j) hj
    rw [h1] at c
    rw [Nat.zero_add]
    exact ⟨c 0 (by decide), c 1 (by decide), c 2 (by decide), h2⟩
end Go.Proofs.YtcpjdgfnblkfpaaGreatDoor
