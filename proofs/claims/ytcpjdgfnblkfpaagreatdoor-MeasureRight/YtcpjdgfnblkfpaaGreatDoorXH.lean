/-
  Package expansion: grown, sum, scaled; Grow, Sum, Scale, by their contracts.
-/
import Derived.Test.YtcpjdgfnblkfpaaGreatDoorXG
namespace Go.Proofs.YtcpjdgfnblkfpaaGreatDoor
open Go Go.RowKit Go.Proofs.YtcpjdgfnblkfpaaGreatDoor.M
set_option linter.unusedSimpArgs false
set_option linter.unusedVariables false

theorem xval_fin {d : Nat → Int} : ∀ {n}, xval d n = true → ∀ i, i < n → pok (d i) = true
  | 0, _, i, hi => absurd hi (Nat.not_lt_zero _)
  | n + 1, h, i, hi => by
    rw [xval_succ, Bool.and_eq_true] at h
    by_cases e : i = n
    · subst e
      have h2 := h.2
      unfold xok at h2
      rw [Bool.and_eq_true] at h2
      cases hp : pok (d i)
      · exfalso
        have hf : fld (d i) = 2047 := by simpa [pok] using hp
        have : pmag (d i) = 0 := by unfold pmag; rw [if_pos hf]
        simp [this] at h2
      · rfl
    · exact xval_fin h.1 i (by omega)
theorem XR.of_gr {w w1 w' : World} {ok : Bool} {s : Ls} {r : Ending} (hb : w.grownBy w1 none) (h : (ok = true ∧ ∃ v, r = .returned v ∧ LsO w.heap.size w' v s ∧ Below w.heap.size w1 w') ∨ (ok = false ∧ r = gaveX ∧ Below w.heap.size w1 w')) : XR w ok s r w' := by
  have hb0 : Below w.heap.size w w1 := grown_below hb
  rcases h with ⟨h1, v, h2, h3, h4⟩ | ⟨h1, h2, h3⟩
  · exact ⟨.inl ⟨h1, v, h2, h3⟩, hb0.trans h4⟩
  · exact ⟨.inr ⟨h1, h2⟩, hb0.trans h3⟩
set_option maxRecDepth 100000 in
theorem xsum_any {eo fo : Option Addr} {n ec m fc : Nat} {d f : Nat → Int} (w : World) (h : Row w eo n ec d) (hf : Row w fo m fc f) (hd : ∀ i, i < n → rng (d i) ∧ pok (d i) = true) (hff : ∀ i, i < m → rng (f i) ∧ pok (f i) = true) (hn : n + m ≤ 600000) :
    Calls Tryz.prog 54 #[.slice eo n ec, .slice fo m fc] w fun r w' => XR w (gaX ⟨n, d⟩ f m) (gaS ⟨n, d⟩ f m) r w' := by
  have CO := xown_any w h (by omega)
  have CG : Hid (∀ W v, w.grownBy W none → LsO w.heap.size W v ⟨n, d⟩ → Calls Tryz.prog 82 #[v, .slice fo m fc] W fun e w' => (gaX ⟨n, d⟩ f m = true ∧ ∃ v', e = .returned v' ∧ LsO w.heap.size w' v' (gaS ⟨n, d⟩ f m) ∧ Below w.heap.size W w') ∨ (gaX ⟨n, d⟩ f m = false ∧ e = gaveX ∧ Below w.heap.size W w')) := fun W v hW hL =>
    xgather_any W hL hd (fun W' hW' => hf.keeps ((grown_below hW).trans hW')) hff (show n + m ≤ 700000 by omega) hW.size
  generalize gaX ⟨n, d⟩ f m = X at *
  generalize gaS ⟨n, d⟩ f m = S at *
  go_enter Tryz.func54, Tryz.ntmps54
  go_wp2_with fail
  refine CO.mono ?_
  rintro _ w1 ⟨v, rfl, hL, hg⟩
  obtain ⟨ao, cc, rfl⟩ := hL.shape
  go_wp2_with fail
  refine (CG.out _ _ hg hL).mono ?_
  rintro _ w2 (⟨h1, v', rfl, h3, h4⟩ | ⟨h1, rfl, h3⟩)
  · obtain ⟨ao', cc', rfl⟩ := h3.shape
    go_wp2
    go_ret
    exact XR.of_gr hg (.inl ⟨h1, _, rfl, h3, h4⟩)
  · unfold gaveX
    go_wp2
    exact ⟨rfl, XR.of_gr hg (.inr ⟨h1, rfl, h3⟩)⟩
/-- The list that scaled tells, of n floats. -/
def sclN (d : Nat → Int) (b : Int) : Nat → Ls
  | 0 => ⟨0, fun _ => 0⟩
  | n + 1 => if rg b = 0 then ⟨0, fun _ => 0⟩ else scl ⟨0, fun _ => 0⟩ d b n
def sxN (d : Nat → Int) (b : Int) : Nat → Bool
  | 0 => true
  | n + 1 => if rg b = 0 then true else sx d b n
end Go.Proofs.YtcpjdgfnblkfpaaGreatDoor
