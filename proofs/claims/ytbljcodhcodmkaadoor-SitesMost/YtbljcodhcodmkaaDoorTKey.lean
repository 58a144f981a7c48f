/-
  Maps keyed by points: what a point reads as when it is a key; a map as a function of places; made, looked into, stored into, struck.
-/
import Derived.Test.YtbljcodhcodmkaaDoorQNorm
import Derived.Maps.OwnSet
import Derived.DeepKeys4
namespace Go.Proofs.YtbljcodhcodmkaaDoor
open Go Go.RowKit Go.Proofs.YtbljcodhcodmkaaDoor.M
set_option linter.unusedSimpArgs false
set_option linter.unusedVariables false

/-- What the point x, y reads as. -/
def pk (x y : Int) : Lit := .string (keyBytes [.int .i64 x, .int .i64 y])
theorem t_laid : laidOutB Tryd.prog = true := by kernel_rfl
theorem t_row : (31 : TypeId) < Tryd.prog.types.size := of_decide_eq_true (by kernel_rfl)
theorem t_law : Maps.Keyed Tryd.prog 31 := Maps.Keyed.of_law (deep_law_laid t_laid (m := 2) (by omega) t_row (by kernel_rfl) (by rw [Tryd.underlying31]))
theorem t_cells : Tryd.prog.cellsOf 31 = 2 := by kernel_rfl
theorem t_int : Tryd.prog.cellsOf 3 = 1 := by kernel_rfl
theorem t_kt : Tryd.prog.keyType 31 = true := by kernel_rfl
theorem t_wf {x : Int} (h : rng x) : (Lit.int .i64 x).wf = true := WalkArith.wf_i64 ⟨h.1, by have := h.2; omega⟩
theorem pk_of {x y : Int} (hx : rng x) (hy : rng y) : keyOf Tryd.prog 31 (.agg #[.int .i64 x, .int .i64 y]) = some (pk x y) := by
  have hr : (31 : Nat) < Tryd.prog.types.size := t_row
  obtain ⟨n, hn⟩ : ∃ n : Nat, Tryd.prog.types.size = n + 1 := ⟨Tryd.prog.types.size - 1, by omega⟩
  unfold keyOf
  rw [Tryd.underlying31]
  simp only [t_kt, Bool.true_and]
  rw [if_pos (by simp [Value.formed, Tryd.underlying31, t_cells]), hn]
  simp [Program.keyLits, Tryd.underlying31, Tryd.underlying3, t_cells, t_int, Value.cells, t_wf hx, t_wf hy, pk]
theorem pk_inj {x y x' y' : Int} (hx : rng x) (hy : rng y) (hx' : rng x') (hy' : rng y') (h : pk x y = pk x' y') : x = x' ∧ y = y' := by
  have e := t_law.inj (pk_of hx hy) (h ▸ pk_of hx' hy')
  simpa using e
/-- Block b is a map of at most n entries; f: what it tells of each point; s: of how many. -/
def Mp (w : World) (b n : Nat) (f : Int → Int → Option Int) (s : Nat) : Prop :=
  ∃ D : DataW Unit, w.ownsMap Tryd.prog 31 (plainElem Tryd.prog 3) b n D ∧ Maps.size D = s ∧ ∀ x y, rng x → rng y → Maps.has D (pk x y) = (f x y).isSome ∧ D.atKey (pk x y) (.lit (.int .i64 0)) = .lit (.int .i64 ((f x y).getD 0))
def fput (f : Int → Int → Option Int) (x y v : Int) : Int → Int → Option Int := fun a b => if a = x ∧ b = y then some v else f a b
def fdel (f : Int → Int → Option Int) (x y : Int) : Int → Int → Option Int := fun a b => if a = x ∧ b = y then none else f a b
theorem Mp.made (w : World) : Mp (w.alloc (.map #[] 0)) w.heap.size 0 (fun _ _ => none) 0 :=
  ⟨.map [], World.ownsMap_made _ _ _ _, rfl, fun x y _ _ => ⟨rfl, rfl⟩⟩
theorem Mp.lt {w : World} {b n s : Nat} {f : Int → Int → Option Int} (h : Mp w b n f s) : ∃ es c, w.heap[b]? = some (.map es c) := by
  obtain ⟨D, ⟨es, c, hb, _⟩, _⟩ := h
  exact ⟨es, c, hb⟩
theorem Mp.of_block {w w' : World} {b n s : Nat} {f : Int → Int → Option Int} (h : Mp w b n f s) (hb : w'.heap[b]? = w.heap[b]?) : Mp w' b n f s := by
  obtain ⟨D, ⟨es, c, h1, h2⟩, h3⟩ := h
  exact ⟨D, ⟨es, c, hb.trans h1, h2⟩, h3⟩
theorem Mp.mono {w : World} {b n n' s : Nat} {f : Int → Int → Option Int} (h : Mp w b n f s) (hn : n ≤ n') : Mp w b n' f s := by
  obtain ⟨D, h1, h2⟩ := h
  exact ⟨D, h1.mono hn, h2⟩
theorem t_zero (w : World) : (zeroValue 3).run Tryd.prog w = .ok (.int .i64 0) w := by kernel_rfl
theorem Mp.look {w : World} {b n s : Nat} {f : Int → Int → Option Int} (h : Mp w b n f s) {x y : Int} (hx : rng x) (hy : rng y) :
    (Instr.lookup 47 (.map (some b)) (.agg #[.int .i64 x, .int .i64 y]) true).run Tryd.prog w = .ok (.tuple #[.int .i64 ((f x y).getD 0), .bool (f x y).isSome]) w := by
  obtain ⟨D, h1, _, h3⟩ := h
  obtain ⟨v, ps, hr, hv⟩ := h1.look_ok t_law Tryd.underlying47 (t_zero w) (plainElem_int Tryd.underlying3 (by decide)) (pk_of hx hy)
  obtain ⟨c, rfl, hc, _⟩ := plainElem_int_inv Tryd.underlying3 hv
  obtain ⟨k1, k2⟩ := h3 x y hx hy
  rw [k2] at hc
  simp only [Prod.mk.injEq, DataW.lit.injEq, Lit.int.injEq, true_and] at hc
  rw [hr, k1, ← hc.1]
theorem look_none {w : World} {x y : Int} (hx : rng x) (hy : rng y) :
    (Instr.lookup 47 (.map none) (.agg #[.int .i64 x, .int .i64 y]) true).run Tryd.prog w = .ok (.tuple #[.int .i64 0, .bool false]) w := by
  have := Maps.look_nil (w := w) true t_law Tryd.underlying47 (t_zero w) (pk_of hx hy)
  simpa using this
theorem Mp.store {w : World} {b n s : Nat} {f : Int → Int → Option Int} (h : Mp w b n f s) (hn : n ≤ 1000000) {x y v : Int} (hx : rng x) (hy : rng y) (hv : rng v) :
    ∃ w', (Instr.mapUpdate 47 (.map (some b)) (.agg #[.int .i64 x, .int .i64 y]) (.int .i64 v)).run Tryd.prog w = .ok () w' ∧ Mp w' b (n + 1) (fput f x y v) (if (f x y).isSome then s else s + 1) ∧ w.mapTurned w' b := by
  obtain ⟨D, h1, h2, h3⟩ := h
  obtain ⟨w', hr, ho, ht⟩ := h1.store t_law Tryd.underlying47 (by unfold maxLen; omega) (pk_of hx hy) (plainElem_int Tryd.underlying3 (t_wf hv))
  refine ⟨w', hr, ⟨_, ho, ?_, fun a c ha hc => ?_⟩, ht⟩
  · rw [Maps.size_put (h1.tidy t_law), (h3 x y hx hy).1, h2]
  · unfold fput
    by_cases e : a = x ∧ c = y
    · obtain ⟨rfl, rfl⟩ := e
      rw [if_pos ⟨rfl, rfl⟩]
      exact ⟨Maps.has_put_same h1.isMap (t_law.key (pk_of hx hy)) _, Maps.atKey_put_same h1.isMap (t_law.key (pk_of hx hy)) _ _⟩
    · rw [if_neg e]
      have ne : pk a c ≠ pk x y := fun q => e (pk_inj ha hc hx hy q)
      rw [Maps.has_put_other ne, Maps.atKey_put_other ne]
      exact h3 a c ha hc
theorem Mp.drop {w : World} {b n s : Nat} {f : Int → Int → Option Int} (h : Mp w b n f s) (ty : TypeId) {x y : Int} (hx : rng x) (hy : rng y) :
    ∃ w', (Builtin.delete_ #[47, 31] ty #[.map (some b), .agg #[.int .i64 x, .int .i64 y]]).run Tryd.prog w = .ok (.tuple #[]) w' ∧ Mp w' b n (fdel f x y) (s - (if (f x y).isSome then 1 else 0)) ∧ w.mapTurned w' b := by
  obtain ⟨D, h1, h2, h3⟩ := h
  obtain ⟨w', hr, ho, ht⟩ := h1.drop t_law Tryd.underlying47 (pk_of hx hy) ty
  refine ⟨w', hr, ⟨_, ho, ?_, fun a c ha hc => ?_⟩, ht⟩
  · have := Maps.size_del (k := pk x y) (h1.tidy t_law)
    rw [(h3 x y hx hy).1, h2] at this
    omega
  · unfold fdel
    by_cases e : a = x ∧ c = y
    · obtain ⟨rfl, rfl⟩ := e
      rw [if_pos ⟨rfl, rfl⟩]
      exact ⟨Maps.has_del_same, Maps.atKey_del_same _⟩
    · rw [if_neg e]
      have ne : pk a c ≠ pk x y := fun q => e (pk_inj ha hc hx hy q)
      rw [Maps.has_del_other ne, Maps.atKey_del_other ne]
      exact h3 a c ha hc
theorem Mp.len {w : World} {b n s : Nat} {f : Int → Int → Option Int} (h : Mp w b n f s) (ty : TypeId) : (Builtin.len_ #[47] ty #[.map (some b)]).run Tryd.prog w = .ok (.int .i64 s) w := by
  obtain ⟨D, h1, h2, h3⟩ := h
  rw [h1.len Tryd.underlying47 ty, h2]
end Go.Proofs.YtbljcodhcodmkaaDoor
