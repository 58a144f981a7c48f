/-
  Package orient: exact, by its contract: the exact value of an orientation.
-/
import Derived.Test.YtcpjdgfnblkfpaaGreatDoorOEx
import Derived.Test.YtcpjdgfnblkfpaaGreatDoorQTop
import Derived.Test.YtcpjdgfnblkfpaaGreatDoorDRef12
import Derived.Deep.RegionHeld3
namespace Go.Proofs.YtcpjdgfnblkfpaaGreatDoor
open Go Go.RowKit Go.Proofs.YtcpjdgfnblkfpaaGreatDoor.M
set_option linter.unusedSimpArgs false
set_option linter.unusedVariables false

theorem cellR {W y : World} (hb : Below W.heap.size W y) : ∀ p, (W.cell? p).isSome = true → y.cell? p = W.cell? p := fun p hp => by
  obtain ⟨v, hv⟩ := Option.isSome_iff_exists.1 hp
  rw [hv]; exact q_cell hv hb
theorem frozR {W y : World} (hb : Below W.heap.size W y) : ∀ p, (W.cell? p).isSome = true → y.frozen? p = W.frozen? p := fun p hp => by
  obtain ⟨v, hv⟩ := Option.isSome_iff_exists.1 hp
  unfold World.frozen?
  rw [hb.block _ (World.block_lt_of_cell? W _ hv)]
theorem blk_on {W y : World} (hb : Below W.heap.size W y) {g : Nat} {X : Obj} (h : W.heap[g]? = some X) : y.heap[g]? = some X := (hb.block _ (Array.getElem?_eq_some_iff.1 h).1).trans h
theorem cellS {W : World} {p : Addr} {v : Value} {o : Nat} (h : W.cell? p = some v) (hp : p.block ≠ o) (x y z : Value) : (((W.setCell ⟨o, 0, none⟩ x).setCell ⟨o, 1, none⟩ y).setCell ⟨o, 2, none⟩ z).cell? p = some v :=
  ((((Wr.refl o W).setCell 0 x |>.setCell 1 y).setCell 2 z).cell (World.block_lt_of_cell? W _ h) hp).trans h
/-- What is answered, put into the result's own block. -/
theorem dan_res3 {B : Nat} {w3 : World} {V : Int} {v : Value} (hv : DAn B w3 V v) {g : Nat} {xs : Array Value} {z : Nat × Nat} (hg : w3.heap[g]? = some (.cells xs 37 z)) (a b c : Value) :
    DAn B (((w3.setCell ⟨g, 0, none⟩ a).setCell ⟨g, 1, none⟩ b).setCell ⟨g, 2, none⟩ c) V v := hv.of_blocks (ints_set3 hg a b c)
/-- The exact value of an orientation, in the scale. -/
def Det (a1 a2 b1 b2 V : Int) : Prop := ∃ C D, C * 2 ^ 4194304 = a1 * b2 ∧ D * 2 ^ 4194304 = a2 * b1 ∧ V = C - D
theorem Det.unique {a1 a2 b1 b2 V V' : Int} (h : Det a1 a2 b1 b2 V) (k : Det a1 a2 b1 b2 V') : V = V' := by
  obtain ⟨C, D, h1, h2, rfl⟩ := h
  obtain ⟨C', D', k1, k2, rfl⟩ := k
  rw [scale_inj (h1.trans k1.symm), scale_inj (h2.trans k2.symm)]
end Go.Proofs.YtcpjdgfnblkfpaaGreatDoor
