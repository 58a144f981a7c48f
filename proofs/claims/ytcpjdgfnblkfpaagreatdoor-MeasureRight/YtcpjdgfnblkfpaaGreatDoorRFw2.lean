/-
  The model's sum of two words, on patterns.
-/
import Derived.Test.YtcpjdgfnblkfpaaGreatDoorRFw
namespace Go.Proofs.YtcpjdgfnblkfpaaGreatDoor
open Go Go.RowKit Go.Proofs.YtcpjdgfnblkfpaaGreatDoor.M Ieee
set_option linter.unusedSimpArgs false
set_option linter.unusedVariables false

theorem nan_canon : cls 9221120237041090561 = 4 := by decide
theorem FW.nan {x : Nat} (h : NanW x) : FW 9221120237041090561 x := .inr ⟨rfl, h⟩
theorem FW.pat {p : Int} (h : cls p ≠ 4) (hp : rng p) : FW p (wd p) := .inl ⟨h, hp, rfl⟩
theorem FW.read_nan {p : Int} {x : Nat} (h : FW p x) (h4 : cls p = 4) : ∃ s t, Ieee.double.read x = .nan s t := by
  rcases h with ⟨h, _⟩ | ⟨_, h⟩
  · exact absurd h4 h
  · exact M.read_nan Ieee.double dOk x (by rw [dSign, dInf]; exact h.2)
theorem FW.of {p : Int} {x : Nat} (h : FW p x) (h4 : cls p ≠ 4) : rng p ∧ x = wd p ∧ 0 ≤ rg p ∧ rg p ≤ 9218868437227405312 := by
  rcases h with ⟨_, h1, h2⟩ | ⟨h, _⟩
  · obtain ⟨r0, _⟩ := rg_parts h1
    refine ⟨h1, h2, r0, ?_⟩
    rcases Int.lt_or_le 9218868437227405312 (rg p) with g | g
    · exact absurd ((cls_rg h1).1.2 g) h4
    · exact g
  · rw [h] at h4; exact absurd nan_canon h4
theorem nearP_pat {S : Int} (h : S ≠ 0) : rng (nearP S) ∧ cls (nearP S) ≠ 4 := by
  obtain ⟨A, r0, left, _, _, e⟩ := nearP_rung h
  rw [e]
  obtain ⟨g1, g2⟩ := rTo_range 0 (decide (S < 0)) r0 left
  exact patS_rng g1 g2
/-- The words' sum, on patterns. -/
theorem add_FW {p q : Int} {x y : Nat} (hx : FW p x) (hy : FW q y) : (∃ z, Ieee.double.add x y = some z ∧ FW (fsum p q) z) ∨ (Ieee.double.add x y = none ∧ fsum p q = 9221120237041090561) := by
  by_cases h4 : cls p = 4 ∨ cls q = 4
  · right
    refine ⟨?_, by unfold fsum; rw [if_pos h4]⟩
    unfold Format.add
    rcases h4 with h | h
    · obtain ⟨s, t, e⟩ := hx.read_nan h
      rw [e]
      rfl
    · obtain ⟨s, t, e⟩ := hy.read_nan h
      rw [e]
      cases Ieee.double.read x <;> rfl
  · have h4p : cls p ≠ 4 := fun h => h4 (.inl h)
    have h4q : cls q ≠ 4 := fun h => h4 (.inr h)
    obtain ⟨rp, rfl, p0, p1⟩ := hx.of h4p
    obtain ⟨rq, rfl, q0, q1⟩ := hy.of h4q
    unfold fsum
    rw [if_neg h4]
    by_cases ip : rg p = 9218868437227405312
    · rw [if_pos ip]
      have ep := read_inf64 rp ip
      by_cases iq : rg q = 9218868437227405312
      · have eq := read_inf64 rq iq
        by_cases hs : decide (p < 0) = decide (q < 0)
        · left
          refine ⟨wd p, ?_, ?_⟩
          · unfold Format.add
            rw [ep, eq]
            unfold Datum.sum
            dsimp only
            rw [if_pos hs]
            show some (Ieee.double.write (.infinity (decide (p < 0)))) = _
            rw [write_inf64 rp ip]
          · rw [if_neg (fun h => h.2 hs)]
            exact FW.pat h4p rp
        · right
          refine ⟨?_, by rw [if_pos ⟨iq, hs⟩]⟩
          unfold Format.add
          rw [ep, eq]
          unfold Datum.sum
          dsimp only
          rw [if_neg hs]
          rfl
      · left
        obtain ⟨m, u, eq, _⟩ := read_wd rq ((pok_rg rq).2 (by omega))
        refine ⟨wd p, ?_, ?_⟩
        · unfold Format.add
          rw [ep, eq]
          show some (Ieee.double.write (.infinity (decide (p < 0)))) = _
          rw [write_inf64 rp ip]
        · rw [if_neg (fun h => iq h.1)]
          exact FW.pat h4p rp
    · rw [if_neg ip]
      have pp := (pok_rg rp).2 (by omega)
      by_cases iq : rg q = 9218868437227405312
      · left
        rw [if_pos iq]
        have eq := read_inf64 rq iq
        obtain ⟨m, u, ep, _⟩ := read_wd rp pp
        refine ⟨wd q, ?_, FW.pat h4q rq⟩
        unfold Format.add
        rw [ep, eq]
        show some (Ieee.double.write (.infinity (decide (q < 0)))) = _
        rw [write_inf64 rq iq]
      · left
        rw [if_neg iq]
        refine ⟨_, fadd_fin rp rq pp ((pok_rg rq).2 (by omega)), ?_⟩
        by_cases hS : patV p + patV q = 0
        · rw [if_pos hS]
          obtain ⟨g1, g2⟩ := patS_rng (ng := decide (p < 0) && decide (q < 0)) (r := 0) (by decide) (by decide)
          exact FW.pat g2 g1
        · rw [if_neg hS]
          exact FW.pat (nearP_pat hS).2 (nearP_pat hS).1
/-- The model's sum. -/
theorem run_fsum {P : Program} (t : TypeId) {p q : Int} {x y : Nat} (hx : FW p x) (hy : FW q y) (w : World) :
    ∃ z w', (binOp .add t (.float .f64 x) (.float .f64 y)).run P w = .ok (.float .f64 z) w' ∧ FW (fsum p q) z ∧ (w' = w ∨ w' = w.drew) := by
  obtain ⟨z, w', h, hz⟩ := run_farith (P := P) .add (.inl rfl) t x y w
  refine ⟨z, w', h, ?_⟩
  have hf : floatBits .add .f64 x y = Ieee.double.add x y := rfl
  rw [hf] at hz
  rcases add_FW hx hy with ⟨z', e1, e2⟩ | ⟨e1, e2⟩
  · rcases hz with ⟨h1, h2⟩ | ⟨h1, _⟩
    · rw [e1] at h1; cases h1; exact ⟨e2, .inl h2⟩
    · rw [e1] at h1; cases h1
  · rcases hz with ⟨h1, _⟩ | ⟨_, h2, h3⟩
    · rw [e1] at h1; cases h1
    · rw [e2]; exact ⟨FW.nan h2, .inr h3⟩
end Go.Proofs.YtcpjdgfnblkfpaaGreatDoor
