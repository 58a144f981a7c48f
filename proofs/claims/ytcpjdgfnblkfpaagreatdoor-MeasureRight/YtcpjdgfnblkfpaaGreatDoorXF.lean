/-
  Package expansion: the closures, withFloat, withList; Grow, Scale, Sum, by their contracts.
-/
import Derived.Test.YtcpjdgfnblkfpaaGreatDoorXV
namespace Go.Proofs.YtcpjdgfnblkfpaaGreatDoor
open Go Go.RowKit Go.Proofs.YtcpjdgfnblkfpaaGreatDoor.M
set_option linter.unusedSimpArgs false
set_option linter.unusedVariables false

/-- What is reckoned: a list in new memory, or nothing. -/
def XR (w : World) (ok : Bool) (s : Ls) (r : Ending) (w' : World) : Prop := ((ok = true ∧ ∃ v, r = .returned v ∧ LsO w.heap.size w' v s) ∨ (ok = false ∧ r = gaveX)) ∧ Below w.heap.size w w'
/-- What is told of it. -/
def XA (w : World) (ok : Bool) (s : Ls) (r : Ending) (w' : World) : Prop := ((ok = true ∧ ∃ v, r = .returned (.tuple #[v, .int .i64 0]) ∧ LsO w.heap.size w' v s) ∨ (ok = false ∧ r = .returned (.tuple #[.slice none 0 0, .int .i64 14]))) ∧ Below w.heap.size w w'
theorem xtold_any (F : Nat) (cap : Array Value) (w : World) (ok : Bool) (s : Ls) (hE : ∀ w, (callFunc F cap).run Tryz.prog w = .ok (.enter F cap) w) (hF : ∀ W, Below w.heap.size w W → Calls Tryz.prog F cap W fun r W' => XR W ok s r W') :
    Calls Tryz.prog 80 #[.func (.func F) #[] cap] w fun r w' => XA w ok s r w' := by
  cases ok
  · refine (xtold_no F cap w hE fun W hW => (hF W hW).mono ?_).mono ?_
    · rintro r W' ⟨(⟨h, _⟩ | ⟨_, h⟩), hb⟩
      · cases h
      · exact ⟨h, hb⟩
    · rintro r w' ⟨h, hb⟩
      exact ⟨.inr ⟨rfl, h⟩, hb⟩
  · refine (xtold_yes F cap w s hE fun W hW => (hF W hW).mono ?_).mono ?_
    · rintro r W' ⟨(⟨_, v, h1, h2⟩ | ⟨h, _⟩), hb⟩
      · exact ⟨v, h1, h2, hb⟩
      · cases h
    · rintro r w' ⟨v, h1, h2, hb⟩
      exact ⟨.inl ⟨rfl, v, h1, h2⟩, hb⟩
set_option maxRecDepth 100000 in
theorem xwl1 (G : Nat) (eo fo : Option Addr) (n ec m fc : Nat) (p0 p1 p2 : Addr) (w : World) (ok : Bool) (s : Ls) (hEG : ∀ (cap : Array Value) (w : World), (callFunc G cap).run Tryz.prog w = .ok (.enter G cap) w) (c0 : w.cell? p0 = some (.func (.func G) #[] #[])) (c1 : w.cell? p1 = some (.slice eo n ec)) (c2 : w.cell? p2 = some (.slice fo m fc))
    (hG : Calls Tryz.prog G #[.slice eo n ec, .slice fo m fc] w fun r w' => XR w ok s r w') :
    Calls Tryz.prog 81 #[.pointer (some p0), .pointer (some p1), .pointer (some p2)] w fun r w' => XR w ok s r w' := by
  go_enter Tryz.func81, Tryz.ntmps81
  go_wp2_with fail
  refine hG.mono ?_
  rintro r w' ⟨(⟨h1, v, rfl, h2⟩ | ⟨h1, rfl⟩), hb⟩
  · obtain ⟨ao, cc, rfl⟩ := h2.shape
    go_wp2
    go_ret
    exact ⟨.inl ⟨h1, _, rfl, h2⟩, hb⟩
  · unfold gaveX
    go_wp2
    exact ⟨rfl, .inr ⟨h1, rfl⟩, hb⟩
end Go.Proofs.YtcpjdgfnblkfpaaGreatDoor
