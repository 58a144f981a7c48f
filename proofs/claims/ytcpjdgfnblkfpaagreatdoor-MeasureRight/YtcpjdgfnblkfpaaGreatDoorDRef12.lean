/-
  Package plumbref3: Sum, Dot, by contracts.
-/
import Derived.Test.YtcpjdgfnblkfpaaGreatDoorDRef11
import Derived.Test.YtcpjdgfnblkfpaaGreatDoorDDot
import Derived.Test.YtcpjdgfnblkfpaaGreatDoorDOwn
namespace Go.Proofs.YtcpjdgfnblkfpaaGreatDoor
open Go Go.RowKit Go.Proofs.YtcpjdgfnblkfpaaGreatDoor.M
set_option linter.unusedSimpArgs false
set_option linter.unusedVariables false

/-- A sum so far: new memory, or one of the numbers. -/
def Src (B : Nat) (w : World) (n : Nat) (r : Nat → NumR) (V : Int) (v : Value) : Prop := DAn B w V v ∨ ∃ i, i < n ∧ v = (r i).v ∧ V = (r i).V
theorem Src.keeps {B : Nat} {w w' : World} {n : Nat} {r : Nat → NumR} {V : Int} {v : Value} (h : Src B w n r V v) (hb : Below w.heap.size w w') : Src B w' n r V v := by
  rcases h with h | h
  · exact .inl (h.keeps hb)
  · exact .inr h
theorem ints_set3 {w : World} {g o0 o1 o2 : Nat} {xs : Array Value} {z : Nat × Nat} (hg : w.heap[g]? = some (.cells xs 37 z)) (x y u : Value) : ∀ (g' : Nat) (cur : Array Value) z', w.heap[g']? = some (.cells cur 3 z') → (((w.setCell ⟨g, o0, none⟩ x).setCell ⟨g, o1, none⟩ y).setCell ⟨g, o2, none⟩ u).heap[g']? = w.heap[g']? := fun g' cur z' hc => by
  refine (wr3 w g o0 o1 o2 x y u).block g' (Array.getElem?_eq_some_iff.1 hc).1 fun e => ?_
  subst e
  rw [hg] at hc
  simp at hc
theorem Src.set3 {B : Nat} {w : World} {n : Nat} {r : Nat → NumR} {V : Int} {v : Value} (h : Src B w n r V v) {g o0 o1 o2 : Nat} {xs : Array Value} {z : Nat × Nat} (hg : w.heap[g]? = some (.cells xs 37 z)) (x y u : Value) : Src B (((w.setCell ⟨g, o0, none⟩ x).setCell ⟨g, o1, none⟩ y).setCell ⟨g, o2, none⟩ u) n r V v := by
  rcases h with h | h
  · exact .inl (h.of_blocks (ints_set3 hg x y u))
  · exact .inr h
theorem bd_sumV {r : Nat → NumR} {K : Nat} (hK : K ≤ 520000) : ∀ m, m ≤ 1000 → (∀ i, i < m → Bd K (r i).V) → Bd (K + m) (sumV r m)
  | 0, _, _ => ⟨0, by rw [Int.zero_mul]; rfl, by have := two_pos (2 * (K + 0)); omega, by have := two_pos (2 * (K + 0)); omega⟩
  | m + 1, hm, h => (bd_sumV hK m (by omega) fun i hi => h i (by omega)).add ((h m (by omega)).up (by omega) (by omega)) (by omega)
theorem bd_dotK {a b : Nat → NumR} {K : Nat} (hK : K ≤ 260000) : ∀ m, m ≤ 1000 → (∀ i, i < m → Bd K (a i).V ∧ Half (a i)) → (∀ i, i < m → Bd K (b i).V ∧ Half (b i)) → Bd (2 * K + m) (dotV a b m)
  | 0, _, _, _ => ⟨0, by rw [Int.zero_mul]; rfl, by have := two_pos (2 * (2 * K + 0)); omega, by have := two_pos (2 * (2 * K + 0)); omega⟩
  | m + 1, hm, h, k => by
    obtain ⟨h1, h2⟩ := h m (by omega)
    obtain ⟨k1, k2⟩ := k m (by omega)
    unfold Half at h2 k2
    exact (bd_dotK hK m (by omega) (fun i hi => h i (by omega)) (fun i hi => k i (by omega))).add ((h1.mul k1 (mulV_eq (by omega) (by omega)) (by omega)).up (by omega) (by omega)) (by omega)
theorem bel_trans' {w wr w3 : World} (h : Below w.heap.size w wr) (k : Below wr.heap.size wr w3) : Below w.heap.size w w3 := h.trans (k.mono h.size)
end Go.Proofs.YtcpjdgfnblkfpaaGreatDoor
