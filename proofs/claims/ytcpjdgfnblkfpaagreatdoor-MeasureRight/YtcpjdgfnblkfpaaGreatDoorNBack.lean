/-
  Lent lists: what is read of them, and Back.
-/
import Derived.Test.YtcpjdgfnblkfpaaGreatDoorNKept
namespace Go.Proofs.YtcpjdgfnblkfpaaGreatDoor
open Go Go.RowKit Go.Proofs.YtcpjdgfnblkfpaaGreatDoor.M
set_option linter.unusedSimpArgs false
set_option linter.unusedVariables false

theorem LentA.below {w w' : World} {v : Value} {n : Nat} {a : Nat → Int} (h : LentA w w' v n a) : Below w.heap.size w w' := by
  obtain ⟨g, cap, _, _, hb⟩ := h
  exact hb
theorem LentA.parts {w w' : World} {v : Value} {n : Nat} {a : Nat → Int} (h : LentA w w' v n a) : ∃ g cap, v = .slice (some ⟨g, 0, none⟩) (n + 3) cap ∧ Out w.heap.size w' (.slice (some ⟨g, 0, none⟩) (n + 3) cap) (n + 3) (lentD a n) := by
  obtain ⟨g, cap, rfl, h, _⟩ := h
  exact ⟨g, cap, rfl, h⟩
theorem lent_cap {B : Nat} {w : World} {g n cap : Nat} {d : Nat → Int} (h : Out B w (.slice (some ⟨g, 0, none⟩) (n + 3) cap) (n + 3) d) : n + 3 ≤ cap ∧ cap ≤ 9223372036854775807 := by
  obtain ⟨_, _, e, hR⟩ := h.row
  simp only [Value.slice.injEq] at e
  obtain ⟨rfl, _, rfl⟩ := e
  exact ⟨hR.le, hR.max⟩
theorem lent_row {B : Nat} {w : World} {g n cap : Nat} {a : Nat → Int} (h : Out B w (.slice (some ⟨g, 0, none⟩) (n + 3) cap) (n + 3) (lentD a n)) : Row w (some ⟨g, 0, none⟩) n cap a := by
  obtain ⟨_, _, e, hR⟩ := (h.cut (show n ≤ n + 3 by omega)).row
  simp only [Value.slice.injEq] at e
  obtain ⟨rfl, _, rfl⟩ := e
  exact hR.congr fun i hi => lentD_lt a hi
theorem lent_two {B B' : Nat} {w : World} {g n cap g' m cap' : Nat} {a b : Nat → Int} (h : Out B w (.slice (some ⟨g, 0, none⟩) (n + 3) cap) (n + 3) (lentD a n)) (h' : Out B' w (.slice (some ⟨g', 0, none⟩) (m + 3) cap') (m + 3) (lentD b m)) :
    Two w (some ⟨g, 0, none⟩) (some ⟨g', 0, none⟩) n m cap cap' a b := ⟨lent_row h, lent_row h'⟩
theorem lent_numA {B : Nat} {w : World} {g n cap : Nat} {a : Nat → Int} (h : Out B w (.slice (some ⟨g, 0, none⟩) (n + 3) cap) (n + 3) (lentD a n)) (hN : Nrm a n) : Num w (.slice (some ⟨g, 0, none⟩) n cap) (val a n) :=
  ⟨_, _, _, _, rfl, lent_row h, hN, rfl⟩
theorem Row.num0 {w : World} {ao : Option Addr} {n cap : Nat} {a : Nat → Int} (h : Row w ao n cap a) (hN : Nrm a n) : Num w (.slice ao n cap) (val a n) := ⟨_, _, _, _, rfl, h, hN, rfl⟩
theorem RowX.of0 {g : Nat} {w0 w : World} {ao : Option Addr} {n cap : Nat} {d : Nat → Int} (h : Row w0 ao n cap d) (hb : Below w0.heap.size w0 w) (hg : w0.heap.size ≤ g) : RowX g w ao n cap d :=
  ⟨h.le, h.max, fun hn => by
    obtain ⟨b, off, rfl, hlt, hc⟩ := h.spot hn
    exact ⟨b, off, rfl, Nat.lt_of_lt_of_le hlt hb.size, by omega, fun i hi => (hb.cell (p := ⟨b, off + i, none⟩) hlt).trans (hc i hi)⟩⟩
end Go.Proofs.YtcpjdgfnblkfpaaGreatDoor
