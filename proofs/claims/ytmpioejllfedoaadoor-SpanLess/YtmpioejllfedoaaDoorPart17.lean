/-
  Parts of the proof, one behind another.
-/
import Derived.Test.YtmpioejllfedoaaDoorPart16
import Derived.Test.YtmpioejllfedoaaDoorPart7
import Derived.Test.YtmpioejllfedoaaDoorPart6
import Derived.Test.YtmpioejllfedoaaDoorPart8
import Derived.Test.YtmpioejllfedoaaDoorPart12
import Derived.Maps.AppendAt
import Derived.Laws.AppendOwnNone
import Derived.Test.YtmpioejllfedoaaDoorPart14
import Derived.Test.YtmpioejllfedoaaDoorPart9
import Derived.Test.YtmpioejllfedoaaDoorPart13
/-
  plumblaw8's alive: it answers true; what the laws want of laid variables.
-/
namespace Go.Proofs.YtmpioejllfedoaaDoor
open Go Go.RowKit Go.Proofs.YtmpioejllfedoaaDoor.M
set_option linter.unusedSimpArgs false
set_option linter.unusedVariables false

set_option maxRecDepth 100000 in
theorem alive8 (w : World) (L : Lays w) : Calls Tryd.prog 5 #[] w fun e w' => e = .returned (.bool true) ∧ Below w.heap.size w w' := by
  have CA : Hid (∀ W, Lays W → Calls Tryd.prog 7 #[.agg #[.int .i64 4607182418800017408, .int .i64 4607182418800017408], .agg #[.int .i64 4607182418800017408, .int .i64 4611686018427387904]] W fun e w' => e = .returned (.tuple #[.agg #[.int .i64 4611686018427387904, .int .i64 4613937818241073152], .int .i64 0]) ∧ Below W.heap.size W w') := fun W LW => addC W LW
  have CS : Hid (∀ W, Calls Tryd.prog 15 #[.agg #[.int .i64 4611686018427387904, .int .i64 4613937818241073152]] W fun e w' => e = .returned (.tuple #[.int .i64 1, .bool true, .int .i64 0]) ∧ Below W.heap.size W w') := fun W => signC W
  go_enter Tryd.func5, Tryd.ntmps5
  go_wp2_with fail
  refine (CA.out _ L).mono ?_
  rintro _ w1 ⟨rfl, hb1⟩
  have hba := bel_alloc w1 (.cells #[.int .i64 4611686018427387904, .int .i64 4613937818241073152] 23)
  have hg := hl_last w1 (.cells #[.int .i64 4611686018427387904, .int .i64 4613937818241073152] 23) rfl
  go_wp2_with fail
  generalize w1.alloc (.cells #[.int .i64 4611686018427387904, .int .i64 4613937818241073152] 23) = w2 at *
  refine (CS.out _).mono ?_
  rintro _ w3 ⟨rfl, hb2⟩
  have hg3 := (hb2.block _ (Array.getElem?_eq_some_iff.1 hg).1).trans hg
  have c0 := blkC hg3 0 rfl
  have c1 := blkC hg3 1 rfl
  go_wp2
  go_ret
  exact ⟨rfl, bel_trans hb1 (bel_trans hba hb2)⟩
end Go.Proofs.YtmpioejllfedoaaDoor

/-
  Where lists lie that were answered, and what is kept besides.
-/
namespace Go.Proofs.YtmpioejllfedoaaDoor
open Go Go.RowKit Go.Proofs.YtmpioejllfedoaaDoor.M
set_option linter.unusedSimpArgs false
set_option linter.unusedVariables false

/-- Where a value lies: in a block from x on, below y. -/
def Lies (v : Value) (x y : Nat) : Prop := ∀ g, v.ownBlock = some g → x ≤ g ∧ g < y
end Go.Proofs.YtmpioejllfedoaaDoor

/-
  Package plumbref3: Valid, Neg, Sign, by contracts.
-/
namespace Go.Proofs.YtmpioejllfedoaaDoor
open Go Go.RowKit Go.Proofs.YtmpioejllfedoaaDoor.M
set_option linter.unusedSimpArgs false
set_option linter.unusedVariables false

end Go.Proofs.YtmpioejllfedoaaDoor

/-
  Package plumbref3: Neg, Answer, Make, Scale, by contracts.
-/
namespace Go.Proofs.YtmpioejllfedoaaDoor
open Go Go.RowKit Go.Proofs.YtmpioejllfedoaaDoor.M
set_option linter.unusedSimpArgs false
set_option linter.unusedVariables false

end Go.Proofs.YtmpioejllfedoaaDoor

/-
  Package plumbref3: Make, Scale, by contracts.
-/
namespace Go.Proofs.YtmpioejllfedoaaDoor
open Go Go.RowKit Go.Proofs.YtmpioejllfedoaaDoor.M
set_option linter.unusedSimpArgs false
set_option linter.unusedVariables false

/-- The document's own answer: a number, or ErrLong. -/
def RFit (w w' : World) (V : Int) (v : Value) (er : Int) : Prop := DFit w w' V v er
theorem RFit.shape {w w' : World} {V er : Int} {v : Value} (h : RFit w w' V v er) : ∃ ng so sn sc e, v = .agg #[.bool ng, .slice so sn sc, .int .i64 e] := by
  exact DFit.shape h
end Go.Proofs.YtmpioejllfedoaaDoor

/-
  plumblaw3.is: an answer of a number and an error, as the document says, by its contract; a number that is lent.
-/
namespace Go.Proofs.YtmpioejllfedoaaDoor
open Go Go.RowKit Go.Proofs.YtmpioejllfedoaaDoor.M
set_option linter.unusedSimpArgs false
set_option linter.unusedVariables false

/-- A number that was answered, its list from B on. -/
def DAn (B : Nat) (w : World) (V : Int) (v : Value) : Prop := ∃ ng s m e, v = .agg #[.bool ng, s, .int .i64 e] ∧ Dy V ng m e ∧ An B w s m
/-- A number or ErrLong. -/
def DFitA (B : Nat) (w : World) (V : Int) (v : Value) (er : Int) : Prop := (Dok V ∧ er = 0 ∧ DAn B w V v) ∨ (¬ Dok V ∧ er = 2 ∧ v = zeroV)
theorem DAns.dan {w w' : World} {V : Int} {v : Value} (h : DAns w w' V v) : DAn w.heap.size w' V v := by
  obtain ⟨ng, s, m, e, h1, h2, h3⟩ := h
  exact ⟨ng, s, m, e, h1, h2, h3.an⟩
theorem An.wr {B : Nat} {w w' : World} {v : Value} {V : Int} {g : Nat} (h : An B w v V) (hw : Wr g w w') (hg : g < B) : An B w' v V := by
  obtain ⟨t, d, h1, h2⟩ := h
  exact ⟨t, d, h1.of_block fun g' hg' => hw.block g' (h1.ge hg').2 (by have := (h1.ge hg').1; omega), h2⟩
theorem DAn.wr {B : Nat} {w w' : World} {v : Value} {V : Int} {g : Nat} (h : DAn B w V v) (hw : Wr g w w') (hg : g < B) : DAn B w' V v := by
  obtain ⟨ng, s, m, e, h1, h2, h3⟩ := h
  exact ⟨ng, s, m, e, h1, h2, h3.wr hw hg⟩
theorem DAn.keeps {B : Nat} {w w' : World} {v : Value} {V : Int} (h : DAn B w V v) (k : Below w.heap.size w w') : DAn B w' V v := by
  obtain ⟨ng, s, m, e, h1, h2, h3⟩ := h
  exact ⟨ng, s, m, e, h1, h2, h3.keeps k⟩
theorem DAn.lower {B B' : Nat} {w : World} {v : Value} {V : Int} (h : DAn B w V v) (hB : B' ≤ B) : DAn B' w V v := by
  obtain ⟨ng, s, m, e, h1, h2, h3⟩ := h
  exact ⟨ng, s, m, e, h1, h2, h3.lower hB⟩
theorem DAn.num {B : Nat} {w : World} {v : Value} {V : Int} (h : DAn B w V v) : DNum w v V := by
  obtain ⟨ng, s, m, e, h1, h2, h3⟩ := h
  exact ⟨ng, s, m, e, h1, h2, h3.num⟩
theorem DFitA.wr {B : Nat} {w w' : World} {v : Value} {V er : Int} {g : Nat} (h : DFitA B w V v er) (hw : Wr g w w') (hg : g < B) : DFitA B w' V v er := by
  rcases h with ⟨h1, h2, h3⟩ | h
  · exact .inl ⟨h1, h2, h3.wr hw hg⟩
  · exact .inr h
theorem DFitA.keeps {B : Nat} {w w' : World} {v : Value} {V er : Int} (h : DFitA B w V v er) (k : Below w.heap.size w w') : DFitA B w' V v er := by
  rcases h with ⟨h1, h2, h3⟩ | h
  · exact .inl ⟨h1, h2, h3.keeps k⟩
  · exact .inr h
theorem DFitA.lower {B B' : Nat} {w : World} {v : Value} {V er : Int} (h : DFitA B w V v er) (hB : B' ≤ B) : DFitA B' w V v er := by
  rcases h with ⟨h1, h2, h3⟩ | h
  · exact .inl ⟨h1, h2, h3.lower hB⟩
  · exact .inr h
theorem DFitA.shape {B : Nat} {w : World} {v : Value} {V er : Int} (h : DFitA B w V v er) : ∃ ng so sn sc e, v = .agg #[.bool ng, .slice so sn sc, .int .i64 e] := by
  rcases h with ⟨_, _, ng, s, m, e, h1, _, h3⟩ | ⟨_, _, rfl⟩
  · obtain ⟨so, sn, sc, rfl⟩ := h3.shape
    exact ⟨_, _, _, _, _, h1⟩
  · exact ⟨_, _, _, _, _, rfl⟩
theorem DFitA.ge {B : Nat} {w : World} {ng : Bool} {so : Option Addr} {sn sc : Nat} {e V er : Int} (h : DFitA B w V (.agg #[.bool ng, .slice so sn sc, .int .i64 e]) er) : Lies (.slice so sn sc) B w.heap.size := by
  intro g hg
  rcases h with ⟨_, _, ng', s, m, e', h1, _, h3⟩ | ⟨_, _, h1⟩
  · simp only [Value.agg.injEq, Array.mk.injEq, List.cons.injEq, Value.bool.injEq, Value.int.injEq, and_true, true_and] at h1
    obtain ⟨_, h1, _⟩ := h1
    rw [← h1] at h3
    exact h3.ge hg
  · simp only [zeroV, Value.agg.injEq, Array.mk.injEq, List.cons.injEq, Value.bool.injEq, Value.int.injEq, Value.slice.injEq, and_true, true_and] at h1
    obtain ⟨_, ⟨rfl, _, _⟩, _⟩ := h1
    simp [Value.ownBlock] at hg
theorem DAn.parts {B : Nat} {w : World} {ng : Bool} {so : Option Addr} {sn sc : Nat} {e V : Int} (h : DAn B w V (.agg #[.bool ng, .slice so sn sc, .int .i64 e])) : ∃ m, Dy V ng m e ∧ An B w (.slice so sn sc) m := by
  obtain ⟨ng', s, m, e', h1, h2, h3⟩ := h
  simp only [Value.agg.injEq, Array.mk.injEq, List.cons.injEq, Value.bool.injEq, Value.int.injEq, and_true, true_and] at h1
  obtain ⟨rfl, rfl, rfl⟩ := h1
  exact ⟨m, h2, h3⟩
end Go.Proofs.YtmpioejllfedoaaDoor

/-
  Lists of numbers that are the call's own: what lies in them, append.
-/
namespace Go.Proofs.YtmpioejllfedoaaDoor
open Go Go.RowKit Go.Proofs.YtmpioejllfedoaaDoor.M
set_option linter.unusedSimpArgs false
set_option linter.unusedVariables false

/-- The cells of the first m. -/
def cells3 (f : Nat → Value) : Nat → List Value
  | 0 => []
  | m + 1 => cells3 f m ++ (f m).cells.toList
/-- A number's value in memory has three cells, each of them one. -/
def Three (v : Value) : Prop := ∃ ng so sn sc e, v = .agg #[.bool ng, .slice so sn sc, .int .i64 e]
theorem DAn.three {B : Nat} {w : World} {V : Int} {v : Value} (h : DAn B w V v) : Three v := by
  obtain ⟨ng, s, m, e, rfl, _, hA⟩ := h
  obtain ⟨so, sn, sc, rfl⟩ := hA.shape
  exact ⟨_, _, _, _, _, rfl⟩
theorem cells3_length {f : Nat → Value} : ∀ m, (∀ i, i < m → Three (f i)) → (cells3 f m).length = m * 3
  | 0, _ => rfl
  | m + 1, h => by
    obtain ⟨ng, so, sn, sc, e, he⟩ := h m (by omega)
    rw [cells3, List.length_append, cells3_length m fun i hi => h i (by omega), he]
    simp [Value.cells]
    omega
theorem cells3_at {f : Nat → Value} : ∀ m, (∀ i, i < m → Three (f i)) → ∀ i j, i < m → j < 3 → (cells3 f m)[i * 3 + j]? = (f i).cells[j]?
  | 0, _, i, j, hi, _ => by omega
  | m + 1, h, i, j, hi, hj => by
    have hl := cells3_length m fun i hi => h i (by omega)
    rw [cells3]
    by_cases e : i = m
    · subst e
      rw [List.getElem?_append_right (by omega), hl, show i * 3 + j - i * 3 = j by omega]
      simp
    · rw [List.getElem?_append_left (by omega)]
      exact cells3_at m (fun i hi => h i (by omega)) i j (by omega) hj
/-- A list of numbers that is the call's own. -/
def OutN (B : Nat) (w : World) (x : Value) (m : Nat) (f : Nat → Value) : Prop := w.ownsRow B 26 3 x m (cells3 f m)
theorem OutN.nil (B : Nat) (w : World) (f : Nat → Value) : OutN B w (.slice none 0 0) 0 f := ⟨rfl, .inl ⟨rfl, rfl⟩⟩
theorem OutN.of_block {B : Nat} {w w' : World} {x : Value} {m : Nat} {f : Nat → Value} (h : OutN B w x m f) (hb : ∀ g, x.ownBlock = some g → w'.heap[g]? = w.heap[g]?) : OutN B w' x m f := by
  refine ⟨h.1, ?_⟩
  rcases h.2 with hn | ⟨g, cap, cur, rfl, hbb, hg, rest⟩
  · exact .inl hn
  · exact .inr ⟨g, cap, cur, rfl, hbb, (hb g rfl).trans hg, rest⟩
theorem OutN.typed {B : Nat} {w : World} {x : Value} {m : Nat} {f : Nat → Value} (h : OutN B w x m f) {g : Nat} (hg : x.ownBlock = some g) : B ≤ g ∧ g < w.heap.size ∧ ∃ cur z, w.heap[g]? = some (.cells cur 26 z) := by
  rcases h.2 with ⟨rfl, _⟩ | ⟨g', cap, cur, rfl, hbb, hg', rest⟩
  · simp [Value.ownBlock] at hg
  · simp only [Value.ownBlock, Option.some.injEq] at hg; subst hg; exact ⟨hbb, (Array.getElem?_eq_some_iff.1 hg').1, cur, _, hg'⟩
theorem OutN.keeps {B : Nat} {w w' : World} {x : Value} {m : Nat} {f : Nat → Value} (h : OutN B w x m f) (hb : Below w.heap.size w w') : OutN B w' x m f := h.of_block fun g hg => hb.block g (h.typed hg).2.1
theorem OutN.shape {B : Nat} {w : World} {x : Value} {m : Nat} {f : Nat → Value} (h : OutN B w x m f) : ∃ xo xc, x = .slice xo m xc ∧ m ≤ xc ∧ (0 < m → ∃ g, xo = some ⟨g, 0, none⟩) := by
  rcases h.2 with ⟨rfl, rfl⟩ | ⟨g, cap, cur, rfl, hb, hg, hn, hm, _⟩
  · exact ⟨none, 0, rfl, Nat.le_refl _, fun h => by omega⟩
  · exact ⟨_, cap, rfl, hn, fun _ => ⟨g, rfl⟩⟩
theorem OutN.cell {B : Nat} {w : World} {xo : Option Addr} {m xc g : Nat} {f : Nat → Value} (h : OutN B w (.slice xo m xc) m f) (ht : ∀ i, i < m → Three (f i)) (hx : xo = some ⟨g, 0, none⟩) {i j : Nat} (hi : i < m) (hj : j < 3) : w.cell? ⟨g, i * 3 + j, none⟩ = (f i).cells[j]? := by
  rcases h.2 with ⟨_, rfl⟩ | ⟨g', cap, cur, e, hb, hg, hn, hm, hs, ht'⟩
  · omega
  · simp only [Value.slice.injEq] at e
    obtain ⟨rfl, _, rfl⟩ := e
    simp only [Option.some.injEq, Addr.mk.injEq] at hx
    obtain ⟨rfl, _⟩ := hx
    rw [cell_of_row w g' (i * 3 + j) cur _ _ hg, ← cells3_at m ht i j hi hj, ← ht', List.getElem?_take_of_lt (by omega)]
    simp
/-- Lists of numbers that are the call's own, each in a block of its own. -/
structure LS (B : Nat) (w : World) (N : Nat) (X : Nat → Value) (M : Nat → Nat) (F : Nat → Nat → Value) : Prop where
  own : ∀ j, j < N → OutN B w (X j) (M j) (F j)
  ne : ∀ i j, i < N → j < N → i ≠ j → ∀ g, (X i).ownBlock = some g → (X j).ownBlock ≠ some g
theorem LS.keeps {B : Nat} {w w' : World} {N : Nat} {X : Nat → Value} {M : Nat → Nat} {F : Nat → Nat → Value} (h : LS B w N X M F) (hb : Below w.heap.size w w') : LS B w' N X M F := ⟨fun j hj => (h.own j hj).keeps hb, h.ne⟩
theorem LS.put {B : Nat} {w w' : World} {N : Nat} {X : Nat → Value} {M : Nat → Nat} {F : Nat → Nat → Value} (h : LS B w N X M F) (j0 : Nat) {row : Option Nat} (hg : w.grownBy w' row) {v' : Value} {M' : Nat} {F' : Nat → Value} (hO : OutN B w' v' M' F') (h1 : ∀ j, j < N → j ≠ j0 → ∀ g, (X j).ownBlock = some g → row ≠ some g) (h2 : ∀ j, j < N → j ≠ j0 → ∀ g, (X j).ownBlock = some g → v'.ownBlock ≠ some g) :
    LS B w' N (updV X j0 v') (updV M j0 M') (updV F j0 F') := by
  refine ⟨fun j hj => ?_, fun i j hi hj hij g hgi => ?_⟩
  · by_cases e : j = j0
    · subst e; rw [updV_same, updV_same, updV_same]; exact hO
    · rw [updV_other _ _ e, updV_other _ _ e, updV_other _ _ e]
      exact (h.own j hj).of_block fun g hgx => hg.block g ((h.own j hj).typed hgx).2.1 fun e' => h1 j hj e g hgx e'.symm
  · by_cases e : i = j0
    · subst e
      rw [updV_same] at hgi
      rw [updV_other _ _ (Ne.symm hij)]
      exact fun hgj => h2 j hj (Ne.symm hij) g hgj hgi
    · rw [updV_other _ _ e] at hgi
      by_cases e2 : j = j0
      · subst e2
        rw [updV_same]
        exact h2 i hi e g hgi
      · rw [updV_other _ _ e2]
        exact h.ne i j hi hj hij g hgi
theorem LS.row {B : Nat} {w : World} {N : Nat} {X : Nat → Value} {M : Nat → Nat} {F : Nat → Nat → Value} (h : LS B w N X M F) {j : Nat} (hj : j < N) : ∀ g, (X j).ownBlock = some g → ∃ (cur : Array Value) (z : Nat × Nat), w.heap[g]? = some (Obj.cells cur 26 z) := fun g hg => (((h.own j hj).typed hg).2.2)
theorem LS.ge {B : Nat} {w : World} {N : Nat} {X : Nat → Value} {M : Nat → Nat} {F : Nat → Nat → Value} (h : LS B w N X M F) {j : Nat} (hj : j < N) : ∀ g, (X j).ownBlock = some g → B ≤ g := fun g hg => ((h.own j hj).typed hg).1
/-- As a list that is read. -/
theorem OutN.nums {B : Nat} {w : World} {xo : Option Addr} {m xc : Nat} {f : Nat → Value} {r : Nat → NumR} (h : OutN B w (.slice xo m xc) m f) (hm : m ≤ 100000) (hr : ∀ i, i < m → f i = (r i).v ∧ Row w (r i).ao (r i).n (r i).cap (r i).d) : ∃ c2, xc = c2 ∧ Nums w xo m xc r := by
  have ht : ∀ i, i < m → Three (f i) := fun i hi => ⟨_, _, _, _, _, (hr i hi).1⟩
  refine ⟨xc, rfl, ?_⟩
  obtain ⟨xo', xc', e, hle, hsp⟩ := h.shape
  simp only [Value.slice.injEq] at e
  obtain ⟨rfl, _, rfl⟩ := e
  refine ⟨hle, ?_, fun hm0 => ?_⟩
  · rcases h.2 with ⟨e, _⟩ | ⟨g, cap, cur, e, hb, hg, hn, hmx, hs, _⟩
    · simp only [Value.slice.injEq] at e; omega
    · simp only [Value.slice.injEq] at e
      obtain ⟨_, _, rfl⟩ := e
      unfold maxLen at hmx
      omega
  · obtain ⟨g, rfl⟩ := hsp hm0
    have hlt : g < w.heap.size := (h.typed (g := g) rfl).2.1
    refine ⟨g, 0, rfl, hlt, fun i hi => ?_⟩
    obtain ⟨h1, h2⟩ := hr i hi
    have c := fun j (hj : j < 3) => h.cell ht rfl hi (j := j) hj
    rw [h1] at c
    rw [Nat.zero_add]
    exact ⟨c 0 (by decide), c 1 (by decide), c 2 (by decide), h2⟩
end Go.Proofs.YtmpioejllfedoaaDoor

/-
  plumblaw8's around, with no step to either side, and tight, by their contracts.
-/
namespace Go.Proofs.YtmpioejllfedoaaDoor
open Go Go.RowKit Go.Proofs.YtmpioejllfedoaaDoor.M
set_option linter.unusedSimpArgs false
set_option linter.unusedVariables false

theorem cell_dr (w : World) (p : Addr) : w.drew.cell? p = w.cell? p := rfl
end Go.Proofs.YtmpioejllfedoaaDoor

/-
  plumblaw8's around of what is no finite float, by its contract.
-/
namespace Go.Proofs.YtmpioejllfedoaaDoor
open Go Go.RowKit Go.Proofs.YtmpioejllfedoaaDoor.M
set_option linter.unusedSimpArgs false
set_option linter.unusedVariables false

end Go.Proofs.YtmpioejllfedoaaDoor

/-
  plumblaw8's around of a finite float, with any steps, by its contract (tools/s_aro3.py).
-/
namespace Go.Proofs.YtmpioejllfedoaaDoor
open Go Go.RowKit Go.Proofs.YtmpioejllfedoaaDoor.M
set_option linter.unusedSimpArgs false
set_option linter.unusedVariables false

theorem and7 {x : Int} (h : rng x) : ∃ k : Nat, bits BinOp.and IntKind.i64 x 7 = (k : Int) ∧ k ≤ 7 := by
  have h1 : 0 ≤ bits BinOp.and IntKind.i64 x 7 ∧ bits BinOp.and IntKind.i64 x 7 ≤ 7 := by
    rw [bits_and64, show ((7 : Int) % 18446744073709551616).toNat = 2 ^ 3 - 1 from by decide, Nat.and_two_pow_sub_one_eq_mod, wrap_i64_eq]
    omega
  exact ⟨(bits BinOp.and IntKind.i64 x 7).toNat, by omega, by omega⟩
theorem prev_B {b : Int} {w : World} (hb : rng b) (H : Hold4 w) : Calls Tryd.prog 13 #[.int .i64 b] w fun e w' => e = .returned (.int .i64 (prev b)) ∧ Below w.heap.size w w' := by
  refine (bitsPrev b w H.env.lays hb).mono ?_
  rintro e w' ⟨h, g⟩
  exact ⟨h, g.be⟩
theorem key_le_prev {p : Int} (h : nn p) : nn (prev p) ∧ key (prev p) ≤ key p := by
  refine ⟨nn_prevS h, ?_⟩
  by_cases hi : p = -4503599627370496
  · subst hi; decide
  · have := (key_prev h.1 h.2 hi).1; omega
theorem key_next_le {p : Int} (h : nn p) : nn (next p) ∧ key p ≤ key (next p) := by
  refine ⟨nn_nextS h, ?_⟩
  by_cases hi : p = 9218868437227405312
  · subst hi; decide
  · have := (key_next h.1 h.2 hi).1; omega
set_option maxRecDepth 100000 in
set_option maxHeartbeats 2000000 in
theorem around_steps {b x y : Int} (rb : rng b) (hp : pok b = true) (rx : rng x) (ry : rng y) (w : World) (H : Hold4 w) :
    Calls Tryd.prog 4 #[.int .i64 b, .int .i64 x, .int .i64 y] w fun r w' => ∃ (lo hi : Int) (v : Value), r = .returned (.tuple #[.agg #[.int .i64 lo, .int .i64 hi], v, .bool true]) ∧ (nn lo ∧ key lo ≤ key b) ∧ (nn hi ∧ key b ≤ key hi) ∧ DNum w' v (patV b) ∧ Three v ∧ Below w.heap.size w w' := by
  have CO : Hid (∀ W, Hold4 W → Calls Tryd.prog 12 #[.int .i64 b] W fun r w' => ∃ v, r = .returned (.tuple #[v, .int .i64 0]) ∧ DAns W w' (patV b) v) := fun W h => of_ok hp h
  obtain ⟨M, hM, hM7⟩ := and7 rx
  obtain ⟨N, hN, hN7⟩ := and7 ry
  have CP : Hid (∀ q, nn q → ∀ W, Hold4 W → Calls Tryd.prog 13 #[.int .i64 q] W fun e w' => e = .returned (.int .i64 (prev q)) ∧ Below W.heap.size W w') := fun q hq W h => prev_B hq.1 h
  have CN : Hid (∀ q, nn q → ∀ W, Hold4 W → Calls Tryd.prog 14 #[.int .i64 q] W fun e w' => e = .returned (.int .i64 (next q)) ∧ Below W.heap.size W w') := fun q hq W h => next_B hq.1 h
  have nb : Hid (nn b) := ⟨rb, pok_clsF rb hp⟩
  have hb2 := bel_alloc2 w (.cells #[.int .i64 0, .int .i64 0] 23) (.cells #[.bool false, .slice none 0 0, .int .i64 0] 26)
  have q0 := heap_a2 w (.cells #[.int .i64 0, .int .i64 0] 23) (.cells #[.bool false, .slice none 0 0, .int .i64 0] 26)
  have q1 := heap_b2 w (.cells #[.int .i64 0, .int .i64 0] 23) (.cells #[.bool false, .slice none 0 0, .int .i64 0] 26)
  go_enter Tryd.func4, Tryd.ntmps4
  go_wp2_with fail
  generalize (w.alloc (.cells #[.int .i64 0, .int .i64 0] 23)).alloc (.cells #[.bool false, .slice none 0 0, .int .i64 0] 26) = x0 at hb2 q0 q1 ⊢
  refine (CO.out _ (H.keeps hb2)).mono ?_
  rintro _ w1 ⟨v, rfl, hD⟩
  obtain ⟨n_g, n_o, n_n, n_c, n_e, rfl⟩ := dans_shape hD
  have x_k := heap_a1 w1 (.cells #[.bool n_g, .slice n_o n_n n_c, .int .i64 n_e] 26)
  have hc1 := al1 hD.below (.cells #[.bool n_g, .slice n_o n_n n_c, .int .i64 n_e] 26)
  have D1 := hD.stays (bel_alloc w1 (.cells #[.bool n_g, .slice n_o n_n n_c, .int .i64 n_e] 26))
  go_wp2_with fail
  generalize w1.alloc (.cells #[.bool n_g, .slice n_o n_n n_c, .int .i64 n_e] 26) = x1 at x_k hc1 D1 ⊢
  go_loopw [13, 11] (fun iv lv wr => ∃ (k : Nat) (lo : Int), k ≤ M ∧ iv = .int .i64 k ∧ lv = .int .i64 lo ∧ Hid (nn lo ∧ key lo ≤ key b) ∧ Below x1.heap.size x1 wr) (fun iv _ _ => M - (intOf iv).toNat)
  case atStart => exact ⟨0, b, Nat.zero_le _, rfl, rfl, ⟨nb.out, Int.le_refl _⟩, bel_refl _⟩
  case round =>
    obtain ⟨k, lo, hk, rfl, rfl, hlo, hbr⟩ := hrel
    by_cases hkM : k < M
    · have hp1 := CP.out lo hlo.out.1 wr (H.keeps (bel_trans (bel_trans hb2 hc1) hbr))
      have CPW := hideIt hp1
      clear hp1
      go_wp2_with fail
      refine CPW.out.mono ?_
      rintro _ wz ⟨rfl, hbz⟩
      go_wp2_with fail
      go_roundw
      case rel => exact ⟨k + 1, prev lo, by omega, by go_num, rfl, ⟨(key_le_prev hlo.out.1).1, Int.le_trans (key_le_prev hlo.out.1).2 hlo.out.2⟩, bel_trans hbr hbz⟩
      case measure => simp [intOf]; omega
    · have hMk : k = M := by omega
      subst hMk
      go_wp2_with fail
      go_loopw [14, 12] (fun iv lv wq => ∃ (l : Nat) (hi : Int), l ≤ N ∧ iv = .int .i64 l ∧ lv = .int .i64 hi ∧ Hid (nn hi ∧ key b ≤ key hi) ∧ Below x1.heap.size x1 wq) (fun iv _ _ => N - (intOf iv).toNat)
      case atStart => exact ⟨0, b, Nat.zero_le _, rfl, rfl, ⟨nb.out, Int.le_refl _⟩, hbr⟩
      case round =>
        obtain ⟨l, hi, hl, rfl, rfl, hhi, hbq⟩ := hrel
        by_cases hlN : l < N
        · have hp1 := CN.out hi hhi.out.1 wr (H.keeps (bel_trans (bel_trans hb2 hc1) hbq))
          have CPW := hideIt hp1
          clear hp1
          go_wp2_with fail
          refine CPW.out.mono ?_
          rintro _ wz ⟨rfl, hbz⟩
          go_wp2_with fail
          go_roundw
          case rel => exact ⟨l + 1, next hi, by omega, by go_num, rfl, ⟨(key_next_le hhi.out.1).1, Int.le_trans hhi.out.2 (key_next_le hhi.out.1).2⟩, bel_trans hbq hbz⟩
          case measure => simp [intOf]; omega
        · have hNl : l = N := by omega
          subst hNl
          have hcq := bel_trans hc1 hbq
          have x_q := blk_up hbq x_k
          have D2 := D1.stays hbq
          clear CP CN CO
          have l0 := (Array.getElem?_eq_some_iff.1 q0).1
          have l1 := (Array.getElem?_eq_some_iff.1 q1).1
          have A0 := blk_up hcq q0
          have A1 := blk_up hcq q1
          have x0' := blkC x_q 0 rfl
          have x1' := blkC x_q 1 rfl
          have x2' := blkC x_q 2 rfl
          have a0 := blkC A0 0 rfl
          have a1 := blkC A0 1 rfl
          have a2 := blkF A0 0
          have a3 := blkF A0 1
          have b0 := blkC A1 0 rfl
          have b1 := blkC A1 1 rfl
          have b2 := blkC A1 2 rfl
          have b3 := blkF A1 0
          have b4 := blkF A1 1
          have b5 := blkF A1 2
          have hn1 : w.heap.size ≠ w1.heap.size := by have := hD.below.size; omega
          have hn2 : w.heap.size + 1 ≠ w1.heap.size := by have := hD.below.size; omega
          have k0 : wr.cell? ⟨w1.heap.size, 0, none⟩ = some (.bool n_g) ∧ wr.cell? ⟨w1.heap.size, 1, none⟩ = some (.slice n_o n_n n_c) ∧ wr.cell? ⟨w1.heap.size, 2, none⟩ = some (.int .i64 n_e) := ⟨x0', x1', x2'⟩
          have K0 : wr.drew.cell? ⟨w1.heap.size, 0, none⟩ = some (.bool n_g) ∧ wr.drew.cell? ⟨w1.heap.size, 1, none⟩ = some (.slice n_o n_n n_c) ∧ wr.drew.cell? ⟨w1.heap.size, 2, none⟩ = some (.int .i64 n_e) := k0
          have k1 : ((wr.setCell ⟨w.heap.size, 0, none⟩ (.int .i64 lo)).setCell ⟨w.heap.size, 1, none⟩ (.int .i64 hi)).cell? ⟨w1.heap.size, 0, none⟩ = some (.bool n_g) ∧ ((wr.setCell ⟨w.heap.size, 0, none⟩ (.int .i64 lo)).setCell ⟨w.heap.size, 1, none⟩ (.int .i64 hi)).cell? ⟨w1.heap.size, 1, none⟩ = some (.slice n_o n_n n_c) ∧ ((wr.setCell ⟨w.heap.size, 0, none⟩ (.int .i64 lo)).setCell ⟨w.heap.size, 1, none⟩ (.int .i64 hi)).cell? ⟨w1.heap.size, 2, none⟩ = some (.int .i64 n_e) := keep3R k0 (((Wr.refl w.heap.size wr).setCell 0 _).setCell 1 _) (Ne.symm hn1)
          have K1 : ((wr.setCell ⟨w.heap.size, 0, none⟩ (.int .i64 lo)).setCell ⟨w.heap.size, 1, none⟩ (.int .i64 hi)).drew.cell? ⟨w1.heap.size, 0, none⟩ = some (.bool n_g) ∧ ((wr.setCell ⟨w.heap.size, 0, none⟩ (.int .i64 lo)).setCell ⟨w.heap.size, 1, none⟩ (.int .i64 hi)).drew.cell? ⟨w1.heap.size, 1, none⟩ = some (.slice n_o n_n n_c) ∧ ((wr.setCell ⟨w.heap.size, 0, none⟩ (.int .i64 lo)).setCell ⟨w.heap.size, 1, none⟩ (.int .i64 hi)).drew.cell? ⟨w1.heap.size, 2, none⟩ = some (.int .i64 n_e) := ⟨(cell_dr _ _).trans k1.1, (cell_dr _ _).trans k1.2.1, (cell_dr _ _).trans k1.2.2⟩
          have k2 : (((((wr.setCell ⟨w.heap.size, 0, none⟩ (.int .i64 lo)).setCell ⟨w.heap.size, 1, none⟩ (.int .i64 hi)).setCell ⟨w.heap.size + 1, 0, none⟩ (.bool n_g)).setCell ⟨w.heap.size + 1, 1, none⟩ (.slice n_o n_n n_c)).setCell ⟨w.heap.size + 1, 2, none⟩ (.int .i64 n_e)).cell? ⟨w1.heap.size, 0, none⟩ = some (.bool n_g) ∧ (((((wr.setCell ⟨w.heap.size, 0, none⟩ (.int .i64 lo)).setCell ⟨w.heap.size, 1, none⟩ (.int .i64 hi)).setCell ⟨w.heap.size + 1, 0, none⟩ (.bool n_g)).setCell ⟨w.heap.size + 1, 1, none⟩ (.slice n_o n_n n_c)).setCell ⟨w.heap.size + 1, 2, none⟩ (.int .i64 n_e)).cell? ⟨w1.heap.size, 1, none⟩ = some (.slice n_o n_n n_c) ∧ (((((wr.setCell ⟨w.heap.size, 0, none⟩ (.int .i64 lo)).setCell ⟨w.heap.size, 1, none⟩ (.int .i64 hi)).setCell ⟨w.heap.size + 1, 0, none⟩ (.bool n_g)).setCell ⟨w.heap.size + 1, 1, none⟩ (.slice n_o n_n n_c)).setCell ⟨w.heap.size + 1, 2, none⟩ (.int .i64 n_e)).cell? ⟨w1.heap.size, 2, none⟩ = some (.int .i64 n_e) := keep3R k1 (wr3 _ _ _ _ _ _ _ _) (Ne.symm hn2)
          have K2 : (((((wr.setCell ⟨w.heap.size, 0, none⟩ (.int .i64 lo)).setCell ⟨w.heap.size, 1, none⟩ (.int .i64 hi)).setCell ⟨w.heap.size + 1, 0, none⟩ (.bool n_g)).setCell ⟨w.heap.size + 1, 1, none⟩ (.slice n_o n_n n_c)).setCell ⟨w.heap.size + 1, 2, none⟩ (.int .i64 n_e)).drew.cell? ⟨w1.heap.size, 0, none⟩ = some (.bool n_g) ∧ (((((wr.setCell ⟨w.heap.size, 0, none⟩ (.int .i64 lo)).setCell ⟨w.heap.size, 1, none⟩ (.int .i64 hi)).setCell ⟨w.heap.size + 1, 0, none⟩ (.bool n_g)).setCell ⟨w.heap.size + 1, 1, none⟩ (.slice n_o n_n n_c)).setCell ⟨w.heap.size + 1, 2, none⟩ (.int .i64 n_e)).drew.cell? ⟨w1.heap.size, 1, none⟩ = some (.slice n_o n_n n_c) ∧ (((((wr.setCell ⟨w.heap.size, 0, none⟩ (.int .i64 lo)).setCell ⟨w.heap.size, 1, none⟩ (.int .i64 hi)).setCell ⟨w.heap.size + 1, 0, none⟩ (.bool n_g)).setCell ⟨w.heap.size + 1, 1, none⟩ (.slice n_o n_n n_c)).setCell ⟨w.heap.size + 1, 2, none⟩ (.int .i64 n_e)).drew.cell? ⟨w1.heap.size, 2, none⟩ = some (.int .i64 n_e) := ⟨(cell_dr _ _).trans k2.1, (cell_dr _ _).trans k2.2.1, (cell_dr _ _).trans k2.2.2⟩
          go_wp2_with fail
          go_region_held3 (fun W => W.cell? ⟨w1.heap.size, 0, none⟩ = some (.bool n_g) ∧ W.cell? ⟨w1.heap.size, 1, none⟩ = some (.slice n_o n_n n_c) ∧ W.cell? ⟨w1.heap.size, 2, none⟩ = some (.int .i64 n_e))
            (first | with_reducible assumption | with_reducible exact K0 | with_reducible exact K1 | with_reducible exact K2 | fail)
            (fail)
          have S1 := q_heap_set (q_heap_set A0 0 (.int .i64 lo)) 1 (.int .i64 hi)
          have hx10 : w.heap.size ≠ w.heap.size + 1 := by omega
          have S2 : (((((wr.setCell ⟨w.heap.size, 0, none⟩ (.int .i64 lo)).setCell ⟨w.heap.size, 1, none⟩ (.int .i64 hi)).setCell ⟨w.heap.size + 1, 0, none⟩ (.bool n_g)).setCell ⟨w.heap.size + 1, 1, none⟩ (.slice n_o n_n n_c)).setCell ⟨w.heap.size + 1, 2, none⟩ (.int .i64 n_e)).heap[w.heap.size]? = some (.cells #[.int .i64 lo, .int .i64 hi] 23 (0, 0)) := by
            rw [heap_setCell_other _ ⟨w.heap.size + 1, _, none⟩ w.heap.size _ hx10, heap_setCell_other _ ⟨w.heap.size + 1, _, none⟩ w.heap.size _ hx10, heap_setCell_other _ ⟨w.heap.size + 1, _, none⟩ w.heap.size _ hx10]
            exact S1
          have T0 : ((wr.setCell ⟨w.heap.size, 0, none⟩ (.int .i64 lo)).setCell ⟨w.heap.size, 1, none⟩ (.int .i64 hi)).heap[w.heap.size + 1]? = some (.cells #[.bool false, .slice none 0 0, .int .i64 0] 26 (0, 0)) := by
            rw [heap_setCell_other _ ⟨w.heap.size, _, none⟩ (w.heap.size + 1) _ (Ne.symm hx10), heap_setCell_other _ ⟨w.heap.size, _, none⟩ (w.heap.size + 1) _ (Ne.symm hx10)]
            exact A1
          have T3 := q_heap_set (q_heap_set (q_heap_set T0 0 (.bool n_g)) 1 (.slice n_o n_n n_c)) 2 (.int .i64 n_e)
          have W1 : Wr w.heap.size wr ((wr.setCell ⟨w.heap.size, 0, none⟩ (.int .i64 lo)).setCell ⟨w.heap.size, 1, none⟩ (.int .i64 hi)) := ((Wr.refl w.heap.size wr).setCell 0 _).setCell 1 _
          have W2 : Wr (w.heap.size + 1) ((wr.setCell ⟨w.heap.size, 0, none⟩ (.int .i64 lo)).setCell ⟨w.heap.size, 1, none⟩ (.int .i64 hi)) (((((wr.setCell ⟨w.heap.size, 0, none⟩ (.int .i64 lo)).setCell ⟨w.heap.size, 1, none⟩ (.int .i64 hi)).setCell ⟨w.heap.size + 1, 0, none⟩ (.bool n_g)).setCell ⟨w.heap.size + 1, 1, none⟩ (.slice n_o n_n n_c)).setCell ⟨w.heap.size + 1, 2, none⟩ (.int .i64 n_e)) := wr3 _ _ _ _ _ _ _ _
          have DD := ((D2.dan.wr W1 l0).wr W2 l1)
          have hB := bel_trans hb2 hcq
          have hBe := bel_set3' (o0 := 0) (o1 := 1) (o2 := 2) ((hB.setCell (p := ⟨w.heap.size, 0, none⟩) (Nat.le_refl _) (.int .i64 lo)).setCell (p := ⟨w.heap.size, 1, none⟩) (Nat.le_refl _) (.int .i64 hi)) (Nat.le_succ _) (.bool n_g) (.slice n_o n_n n_c) (.int .i64 n_e)
          have e0 : ((((((wr.setCell ⟨w.heap.size, 0, none⟩ (.int .i64 lo)).setCell ⟨w.heap.size, 1, none⟩ (.int .i64 hi)).setCell ⟨w.heap.size + 1, 0, none⟩ (.bool n_g)).setCell ⟨w.heap.size + 1, 1, none⟩ (.slice n_o n_n n_c)).setCell ⟨w.heap.size + 1, 2, none⟩ (.int .i64 n_e)).drew).cell? ⟨w.heap.size, 0, none⟩ = some (.int .i64 lo) := (cell_dr _ _).trans (blkC S2 0 rfl)
          have e1 : ((((((wr.setCell ⟨w.heap.size, 0, none⟩ (.int .i64 lo)).setCell ⟨w.heap.size, 1, none⟩ (.int .i64 hi)).setCell ⟨w.heap.size + 1, 0, none⟩ (.bool n_g)).setCell ⟨w.heap.size + 1, 1, none⟩ (.slice n_o n_n n_c)).setCell ⟨w.heap.size + 1, 2, none⟩ (.int .i64 n_e)).drew).cell? ⟨w.heap.size, 1, none⟩ = some (.int .i64 hi) := (cell_dr _ _).trans (blkC S2 1 rfl)
          have e2 : ((((((wr.setCell ⟨w.heap.size, 0, none⟩ (.int .i64 lo)).setCell ⟨w.heap.size, 1, none⟩ (.int .i64 hi)).setCell ⟨w.heap.size + 1, 0, none⟩ (.bool n_g)).setCell ⟨w.heap.size + 1, 1, none⟩ (.slice n_o n_n n_c)).setCell ⟨w.heap.size + 1, 2, none⟩ (.int .i64 n_e)).drew).cell? ⟨w.heap.size + 1, 0, none⟩ = some (.bool n_g) := (cell_dr _ _).trans (blkC T3 0 rfl)
          have e3 : ((((((wr.setCell ⟨w.heap.size, 0, none⟩ (.int .i64 lo)).setCell ⟨w.heap.size, 1, none⟩ (.int .i64 hi)).setCell ⟨w.heap.size + 1, 0, none⟩ (.bool n_g)).setCell ⟨w.heap.size + 1, 1, none⟩ (.slice n_o n_n n_c)).setCell ⟨w.heap.size + 1, 2, none⟩ (.int .i64 n_e)).drew).cell? ⟨w.heap.size + 1, 1, none⟩ = some (.slice n_o n_n n_c) := (cell_dr _ _).trans (blkC T3 1 rfl)
          have e4 : ((((((wr.setCell ⟨w.heap.size, 0, none⟩ (.int .i64 lo)).setCell ⟨w.heap.size, 1, none⟩ (.int .i64 hi)).setCell ⟨w.heap.size + 1, 0, none⟩ (.bool n_g)).setCell ⟨w.heap.size + 1, 1, none⟩ (.slice n_o n_n n_c)).setCell ⟨w.heap.size + 1, 2, none⟩ (.int .i64 n_e)).drew).cell? ⟨w.heap.size + 1, 2, none⟩ = some (.int .i64 n_e) := (cell_dr _ _).trans (blkC T3 2 rfl)
          have DE : DNum ((((((wr.setCell ⟨w.heap.size, 0, none⟩ (.int .i64 lo)).setCell ⟨w.heap.size, 1, none⟩ (.int .i64 hi)).setCell ⟨w.heap.size + 1, 0, none⟩ (.bool n_g)).setCell ⟨w.heap.size + 1, 1, none⟩ (.slice n_o n_n n_c)).setCell ⟨w.heap.size + 1, 2, none⟩ (.int .i64 n_e)).drew) (.agg #[.bool n_g, .slice n_o n_n n_c, .int .i64 n_e]) (patV b) := DD.num.keeps (bel_refl _).drew
          have hBe' := hBe.drew
          clear S1 S2 T0 T3 W1 W2 DD hBe
          generalize (((((wr.setCell ⟨w.heap.size, 0, none⟩ (.int .i64 lo)).setCell ⟨w.heap.size, 1, none⟩ (.int .i64 hi)).setCell ⟨w.heap.size + 1, 0, none⟩ (.bool n_g)).setCell ⟨w.heap.size + 1, 1, none⟩ (.slice n_o n_n n_c)).setCell ⟨w.heap.size + 1, 2, none⟩ (.int .i64 n_e)).drew = Y at e0 e1 e2 e3 e4 DE hBe' ⊢
          go_wp2
          refine bodyPost_ret (v := .tuple #[.agg #[.int .i64 lo, .int .i64 hi], .agg #[.bool n_g, .slice n_o n_n n_c, .int .i64 n_e], .bool true]) (by simp [results, Tryd.results4, go_sem, e0, e1, e2, e3, e4]) rfl ⟨_, _, _, rfl, hlo.out, hhi.out, DE, ⟨_, _, _, _, _, rfl⟩, hBe'⟩
end Go.Proofs.YtmpioejllfedoaaDoor

/-
  plumblaw8's around of what is no finite float, with any steps, by its contract (tools/s_aro3.py).
-/
namespace Go.Proofs.YtmpioejllfedoaaDoor
open Go Go.RowKit Go.Proofs.YtmpioejllfedoaaDoor.M
set_option linter.unusedSimpArgs false
set_option linter.unusedVariables false

set_option maxRecDepth 100000 in
set_option maxHeartbeats 2000000 in
theorem around_none {b x y : Int} (rb : rng b) (hp : pok b = false) (rx : rng x) (ry : rng y) (w : World) (H : Hold4 w) :
    Calls Tryd.prog 4 #[.int .i64 b, .int .i64 x, .int .i64 y] w fun r w' => ∃ lo hi : Int, r = .returned (.tuple #[.agg #[.int .i64 lo, .int .i64 hi], .agg #[.bool false, .slice none 0 0, .int .i64 0], .bool false]) ∧ Below w.heap.size w w' := by
  have CO : Hid (∀ W, Hold4 W → Calls Tryd.prog 12 #[.int .i64 b] W fun r w' => r = .returned (.tuple #[.agg #[.bool false, .slice none 0 0, .int .i64 0], .int .i64 10]) ∧ Below W.heap.size W w') := fun W h => of_no hp h
  obtain ⟨M, hM, hM7⟩ := and7 rx
  obtain ⟨N, hN, hN7⟩ := and7 ry
  have CP : Hid (∀ q, rng q → ∀ W, Hold4 W → Calls Tryd.prog 13 #[.int .i64 q] W fun e w' => e = .returned (.int .i64 (prev q)) ∧ Below W.heap.size W w') := fun q hq W h => prev_B hq h
  have CN : Hid (∀ q, rng q → ∀ W, Hold4 W → Calls Tryd.prog 14 #[.int .i64 q] W fun e w' => e = .returned (.int .i64 (next q)) ∧ Below W.heap.size W w') := fun q hq W h => next_B hq h
  have hb2 := bel_alloc2 w (.cells #[.int .i64 0, .int .i64 0] 23) (.cells #[.bool false, .slice none 0 0, .int .i64 0] 26)
  have q0 := heap_a2 w (.cells #[.int .i64 0, .int .i64 0] 23) (.cells #[.bool false, .slice none 0 0, .int .i64 0] 26)
  have q1 := heap_b2 w (.cells #[.int .i64 0, .int .i64 0] 23) (.cells #[.bool false, .slice none 0 0, .int .i64 0] 26)
  go_enter Tryd.func4, Tryd.ntmps4
  go_wp2_with fail
  generalize (w.alloc (.cells #[.int .i64 0, .int .i64 0] 23)).alloc (.cells #[.bool false, .slice none 0 0, .int .i64 0] 26) = x0 at hb2 q0 q1 ⊢
  refine (CO.out _ (H.keeps hb2)).mono ?_
  rintro _ w1 ⟨rfl, hbD⟩
  have x_k := heap_a1 w1 (.cells #[.bool false, .slice none 0 0, .int .i64 0] 26)
  have hc1 := al1 hbD (.cells #[.bool false, .slice none 0 0, .int .i64 0] 26)
  go_wp2_with fail
  generalize w1.alloc (.cells #[.bool false, .slice none 0 0, .int .i64 0] 26) = x1 at x_k hc1 ⊢
  go_loopw [13, 11] (fun iv lv wr => ∃ (k : Nat) (lo : Int), k ≤ M ∧ iv = .int .i64 k ∧ lv = .int .i64 lo ∧ Hid (rng lo ∧ True) ∧ Below x1.heap.size x1 wr) (fun iv _ _ => M - (intOf iv).toNat)
  case atStart => exact ⟨0, b, Nat.zero_le _, rfl, rfl, ⟨rb, trivial⟩, bel_refl _⟩
  case round =>
    obtain ⟨k, lo, hk, rfl, rfl, hlo, hbr⟩ := hrel
    by_cases hkM : k < M
    · have hp1 := CP.out lo hlo.out.1 wr (H.keeps (bel_trans (bel_trans hb2 hc1) hbr))
      have CPW := hideIt hp1
      clear hp1
      go_wp2_with fail
      refine CPW.out.mono ?_
      rintro _ wz ⟨rfl, hbz⟩
      go_wp2_with fail
      go_roundw
      case rel => exact ⟨k + 1, prev lo, by omega, by go_num, rfl, ⟨rng_prev' hlo.out.1, trivial⟩, bel_trans hbr hbz⟩
      case measure => simp [intOf]; omega
    · have hMk : k = M := by omega
      subst hMk
      go_wp2_with fail
      go_loopw [14, 12] (fun iv lv wq => ∃ (l : Nat) (hi : Int), l ≤ N ∧ iv = .int .i64 l ∧ lv = .int .i64 hi ∧ Hid (rng hi ∧ True) ∧ Below x1.heap.size x1 wq) (fun iv _ _ => N - (intOf iv).toNat)
      case atStart => exact ⟨0, b, Nat.zero_le _, rfl, rfl, ⟨rb, trivial⟩, hbr⟩
      case round =>
        obtain ⟨l, hi, hl, rfl, rfl, hhi, hbq⟩ := hrel
        by_cases hlN : l < N
        · have hp1 := CN.out hi hhi.out.1 wr (H.keeps (bel_trans (bel_trans hb2 hc1) hbq))
          have CPW := hideIt hp1
          clear hp1
          go_wp2_with fail
          refine CPW.out.mono ?_
          rintro _ wz ⟨rfl, hbz⟩
          go_wp2_with fail
          go_roundw
          case rel => exact ⟨l + 1, next hi, by omega, by go_num, rfl, ⟨rng_next hhi.out.1, trivial⟩, bel_trans hbq hbz⟩
          case measure => simp [intOf]; omega
        · have hNl : l = N := by omega
          subst hNl
          have hcq := bel_trans hc1 hbq
          have x_q := blk_up hbq x_k
          clear CP CN CO
          have l0 := (Array.getElem?_eq_some_iff.1 q0).1
          have l1 := (Array.getElem?_eq_some_iff.1 q1).1
          have A0 := blk_up hcq q0
          have A1 := blk_up hcq q1
          have x0' := blkC x_q 0 rfl
          have x1' := blkC x_q 1 rfl
          have x2' := blkC x_q 2 rfl
          have a0 := blkC A0 0 rfl
          have a1 := blkC A0 1 rfl
          have a2 := blkF A0 0
          have a3 := blkF A0 1
          have b0 := blkC A1 0 rfl
          have b1 := blkC A1 1 rfl
          have b2 := blkC A1 2 rfl
          have b3 := blkF A1 0
          have b4 := blkF A1 1
          have b5 := blkF A1 2
          have hn1 : w.heap.size ≠ w1.heap.size := by have := hbD.size; omega
          have hn2 : w.heap.size + 1 ≠ w1.heap.size := by have := hbD.size; omega
          have k0 : wr.cell? ⟨w1.heap.size, 0, none⟩ = some (.bool false) ∧ wr.cell? ⟨w1.heap.size, 1, none⟩ = some (.slice none 0 0) ∧ wr.cell? ⟨w1.heap.size, 2, none⟩ = some (.int .i64 0) := ⟨x0', x1', x2'⟩
          have K0 : wr.drew.cell? ⟨w1.heap.size, 0, none⟩ = some (.bool false) ∧ wr.drew.cell? ⟨w1.heap.size, 1, none⟩ = some (.slice none 0 0) ∧ wr.drew.cell? ⟨w1.heap.size, 2, none⟩ = some (.int .i64 0) := k0
          have k1 : ((wr.setCell ⟨w.heap.size, 0, none⟩ (.int .i64 lo)).setCell ⟨w.heap.size, 1, none⟩ (.int .i64 hi)).cell? ⟨w1.heap.size, 0, none⟩ = some (.bool false) ∧ ((wr.setCell ⟨w.heap.size, 0, none⟩ (.int .i64 lo)).setCell ⟨w.heap.size, 1, none⟩ (.int .i64 hi)).cell? ⟨w1.heap.size, 1, none⟩ = some (.slice none 0 0) ∧ ((wr.setCell ⟨w.heap.size, 0, none⟩ (.int .i64 lo)).setCell ⟨w.heap.size, 1, none⟩ (.int .i64 hi)).cell? ⟨w1.heap.size, 2, none⟩ = some (.int .i64 0) := keep3R k0 (((Wr.refl w.heap.size wr).setCell 0 _).setCell 1 _) (Ne.symm hn1)
          have K1 : ((wr.setCell ⟨w.heap.size, 0, none⟩ (.int .i64 lo)).setCell ⟨w.heap.size, 1, none⟩ (.int .i64 hi)).drew.cell? ⟨w1.heap.size, 0, none⟩ = some (.bool false) ∧ ((wr.setCell ⟨w.heap.size, 0, none⟩ (.int .i64 lo)).setCell ⟨w.heap.size, 1, none⟩ (.int .i64 hi)).drew.cell? ⟨w1.heap.size, 1, none⟩ = some (.slice none 0 0) ∧ ((wr.setCell ⟨w.heap.size, 0, none⟩ (.int .i64 lo)).setCell ⟨w.heap.size, 1, none⟩ (.int .i64 hi)).drew.cell? ⟨w1.heap.size, 2, none⟩ = some (.int .i64 0) := ⟨(cell_dr _ _).trans k1.1, (cell_dr _ _).trans k1.2.1, (cell_dr _ _).trans k1.2.2⟩
          have k2 : (((((wr.setCell ⟨w.heap.size, 0, none⟩ (.int .i64 lo)).setCell ⟨w.heap.size, 1, none⟩ (.int .i64 hi)).setCell ⟨w.heap.size + 1, 0, none⟩ (.bool false)).setCell ⟨w.heap.size + 1, 1, none⟩ (.slice none 0 0)).setCell ⟨w.heap.size + 1, 2, none⟩ (.int .i64 0)).cell? ⟨w1.heap.size, 0, none⟩ = some (.bool false) ∧ (((((wr.setCell ⟨w.heap.size, 0, none⟩ (.int .i64 lo)).setCell ⟨w.heap.size, 1, none⟩ (.int .i64 hi)).setCell ⟨w.heap.size + 1, 0, none⟩ (.bool false)).setCell ⟨w.heap.size + 1, 1, none⟩ (.slice none 0 0)).setCell ⟨w.heap.size + 1, 2, none⟩ (.int .i64 0)).cell? ⟨w1.heap.size, 1, none⟩ = some (.slice none 0 0) ∧ (((((wr.setCell ⟨w.heap.size, 0, none⟩ (.int .i64 lo)).setCell ⟨w.heap.size, 1, none⟩ (.int .i64 hi)).setCell ⟨w.heap.size + 1, 0, none⟩ (.bool false)).setCell ⟨w.heap.size + 1, 1, none⟩ (.slice none 0 0)).setCell ⟨w.heap.size + 1, 2, none⟩ (.int .i64 0)).cell? ⟨w1.heap.size, 2, none⟩ = some (.int .i64 0) := keep3R k1 (wr3 _ _ _ _ _ _ _ _) (Ne.symm hn2)
          have K2 : (((((wr.setCell ⟨w.heap.size, 0, none⟩ (.int .i64 lo)).setCell ⟨w.heap.size, 1, none⟩ (.int .i64 hi)).setCell ⟨w.heap.size + 1, 0, none⟩ (.bool false)).setCell ⟨w.heap.size + 1, 1, none⟩ (.slice none 0 0)).setCell ⟨w.heap.size + 1, 2, none⟩ (.int .i64 0)).drew.cell? ⟨w1.heap.size, 0, none⟩ = some (.bool false) ∧ (((((wr.setCell ⟨w.heap.size, 0, none⟩ (.int .i64 lo)).setCell ⟨w.heap.size, 1, none⟩ (.int .i64 hi)).setCell ⟨w.heap.size + 1, 0, none⟩ (.bool false)).setCell ⟨w.heap.size + 1, 1, none⟩ (.slice none 0 0)).setCell ⟨w.heap.size + 1, 2, none⟩ (.int .i64 0)).drew.cell? ⟨w1.heap.size, 1, none⟩ = some (.slice none 0 0) ∧ (((((wr.setCell ⟨w.heap.size, 0, none⟩ (.int .i64 lo)).setCell ⟨w.heap.size, 1, none⟩ (.int .i64 hi)).setCell ⟨w.heap.size + 1, 0, none⟩ (.bool false)).setCell ⟨w.heap.size + 1, 1, none⟩ (.slice none 0 0)).setCell ⟨w.heap.size + 1, 2, none⟩ (.int .i64 0)).drew.cell? ⟨w1.heap.size, 2, none⟩ = some (.int .i64 0) := ⟨(cell_dr _ _).trans k2.1, (cell_dr _ _).trans k2.2.1, (cell_dr _ _).trans k2.2.2⟩
          go_wp2_with fail
          go_region_held3 (fun W => W.cell? ⟨w1.heap.size, 0, none⟩ = some (.bool false) ∧ W.cell? ⟨w1.heap.size, 1, none⟩ = some (.slice none 0 0) ∧ W.cell? ⟨w1.heap.size, 2, none⟩ = some (.int .i64 0))
            (first | with_reducible assumption | with_reducible exact K0 | with_reducible exact K1 | with_reducible exact K2 | fail)
            (fail)
          have S1 := q_heap_set (q_heap_set A0 0 (.int .i64 lo)) 1 (.int .i64 hi)
          have hx10 : w.heap.size ≠ w.heap.size + 1 := by omega
          have S2 : (((((wr.setCell ⟨w.heap.size, 0, none⟩ (.int .i64 lo)).setCell ⟨w.heap.size, 1, none⟩ (.int .i64 hi)).setCell ⟨w.heap.size + 1, 0, none⟩ (.bool false)).setCell ⟨w.heap.size + 1, 1, none⟩ (.slice none 0 0)).setCell ⟨w.heap.size + 1, 2, none⟩ (.int .i64 0)).heap[w.heap.size]? = some (.cells #[.int .i64 lo, .int .i64 hi] 23 (0, 0)) := by
            rw [heap_setCell_other _ ⟨w.heap.size + 1, _, none⟩ w.heap.size _ hx10, heap_setCell_other _ ⟨w.heap.size + 1, _, none⟩ w.heap.size _ hx10, heap_setCell_other _ ⟨w.heap.size + 1, _, none⟩ w.heap.size _ hx10]
            exact S1
          have T0 : ((wr.setCell ⟨w.heap.size, 0, none⟩ (.int .i64 lo)).setCell ⟨w.heap.size, 1, none⟩ (.int .i64 hi)).heap[w.heap.size + 1]? = some (.cells #[.bool false, .slice none 0 0, .int .i64 0] 26 (0, 0)) := by
            rw [heap_setCell_other _ ⟨w.heap.size, _, none⟩ (w.heap.size + 1) _ (Ne.symm hx10), heap_setCell_other _ ⟨w.heap.size, _, none⟩ (w.heap.size + 1) _ (Ne.symm hx10)]
            exact A1
          have T3 := q_heap_set (q_heap_set (q_heap_set T0 0 (.bool false)) 1 (.slice none 0 0)) 2 (.int .i64 0)
          have hB := bel_trans hb2 hcq
          have hBe := bel_set3' (o0 := 0) (o1 := 1) (o2 := 2) ((hB.setCell (p := ⟨w.heap.size, 0, none⟩) (Nat.le_refl _) (.int .i64 lo)).setCell (p := ⟨w.heap.size, 1, none⟩) (Nat.le_refl _) (.int .i64 hi)) (Nat.le_succ _) (.bool false) (.slice none 0 0) (.int .i64 0)
          have e0 : ((((((wr.setCell ⟨w.heap.size, 0, none⟩ (.int .i64 lo)).setCell ⟨w.heap.size, 1, none⟩ (.int .i64 hi)).setCell ⟨w.heap.size + 1, 0, none⟩ (.bool false)).setCell ⟨w.heap.size + 1, 1, none⟩ (.slice none 0 0)).setCell ⟨w.heap.size + 1, 2, none⟩ (.int .i64 0)).drew).cell? ⟨w.heap.size, 0, none⟩ = some (.int .i64 lo) := (cell_dr _ _).trans (blkC S2 0 rfl)
          have e1 : ((((((wr.setCell ⟨w.heap.size, 0, none⟩ (.int .i64 lo)).setCell ⟨w.heap.size, 1, none⟩ (.int .i64 hi)).setCell ⟨w.heap.size + 1, 0, none⟩ (.bool false)).setCell ⟨w.heap.size + 1, 1, none⟩ (.slice none 0 0)).setCell ⟨w.heap.size + 1, 2, none⟩ (.int .i64 0)).drew).cell? ⟨w.heap.size, 1, none⟩ = some (.int .i64 hi) := (cell_dr _ _).trans (blkC S2 1 rfl)
          have e2 : ((((((wr.setCell ⟨w.heap.size, 0, none⟩ (.int .i64 lo)).setCell ⟨w.heap.size, 1, none⟩ (.int .i64 hi)).setCell ⟨w.heap.size + 1, 0, none⟩ (.bool false)).setCell ⟨w.heap.size + 1, 1, none⟩ (.slice none 0 0)).setCell ⟨w.heap.size + 1, 2, none⟩ (.int .i64 0)).drew).cell? ⟨w.heap.size + 1, 0, none⟩ = some (.bool false) := (cell_dr _ _).trans (blkC T3 0 rfl)
          have e3 : ((((((wr.setCell ⟨w.heap.size, 0, none⟩ (.int .i64 lo)).setCell ⟨w.heap.size, 1, none⟩ (.int .i64 hi)).setCell ⟨w.heap.size + 1, 0, none⟩ (.bool false)).setCell ⟨w.heap.size + 1, 1, none⟩ (.slice none 0 0)).setCell ⟨w.heap.size + 1, 2, none⟩ (.int .i64 0)).drew).cell? ⟨w.heap.size + 1, 1, none⟩ = some (.slice none 0 0) := (cell_dr _ _).trans (blkC T3 1 rfl)
          have e4 : ((((((wr.setCell ⟨w.heap.size, 0, none⟩ (.int .i64 lo)).setCell ⟨w.heap.size, 1, none⟩ (.int .i64 hi)).setCell ⟨w.heap.size + 1, 0, none⟩ (.bool false)).setCell ⟨w.heap.size + 1, 1, none⟩ (.slice none 0 0)).setCell ⟨w.heap.size + 1, 2, none⟩ (.int .i64 0)).drew).cell? ⟨w.heap.size + 1, 2, none⟩ = some (.int .i64 0) := (cell_dr _ _).trans (blkC T3 2 rfl)
          have hBe' := hBe.drew
          clear S1 S2 T0 T3 hBe
          generalize (((((wr.setCell ⟨w.heap.size, 0, none⟩ (.int .i64 lo)).setCell ⟨w.heap.size, 1, none⟩ (.int .i64 hi)).setCell ⟨w.heap.size + 1, 0, none⟩ (.bool false)).setCell ⟨w.heap.size + 1, 1, none⟩ (.slice none 0 0)).setCell ⟨w.heap.size + 1, 2, none⟩ (.int .i64 0)).drew = Y at e0 e1 e2 e3 e4 hBe' ⊢
          go_wp2
          refine bodyPost_ret (v := .tuple #[.agg #[.int .i64 lo, .int .i64 hi], .agg #[.bool false, .slice none 0 0, .int .i64 0], .bool false]) (by simp [results, Tryd.results4, go_sem, e0, e1, e2, e3, e4]) rfl ⟨_, _, rfl, hBe'⟩
end Go.Proofs.YtmpioejllfedoaaDoor
