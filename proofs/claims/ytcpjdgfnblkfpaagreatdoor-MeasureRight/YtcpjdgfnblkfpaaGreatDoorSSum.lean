/-
  Package span: sum, by its contract: what the single operations tell, on patterns.
-/
import Derived.Test.YtcpjdgfnblkfpaaGreatDoorSBes
import Derived.Test.YtcpjdgfnblkfpaaGreatDoorRFw4
namespace Go.Proofs.YtcpjdgfnblkfpaaGreatDoor
open Go Go.RowKit Go.Proofs.YtcpjdgfnblkfpaaGreatDoor.M
set_option linter.unusedSimpArgs false
set_option linter.unusedVariables false

theorem run_sumN {P : Program} (t : TypeId) {p q : Int} {x y : Nat} (hx : FW p x) (hy : FW q y) (h : cls (fsum p q) ≠ 4) (w : World) :
    (binOp .add t (.float .f64 x) (.float .f64 y)).run P w = .ok (.float .f64 (wd (fsum p q))) w := by
  obtain ⟨z, w', hr, hz⟩ := run_farith (P := P) .add (.inl rfl) t x y w
  have hf : floatBits .add .f64 x y = Ieee.double.add x y := rfl
  rw [hf] at hz
  rcases add_FW hx hy with ⟨z', e1, e2⟩ | ⟨e1, e2⟩
  · rcases hz with ⟨h1, h2⟩ | ⟨h1, _⟩
    · rw [e1] at h1; cases h1
      rw [hr, h2, (e2.of h).2.1]
    · rw [e1] at h1; cases h1
  · exact absurd (by rw [e2]; exact nan_canon) h
theorem run_diffN {P : Program} (t : TypeId) {p q : Int} {x y : Nat} (hx : FW p x) (hy : FW q y) (h : cls (fsum p (neg q)) ≠ 4) (w : World) :
    (binOp .sub t (.float .f64 x) (.float .f64 y)).run P w = .ok (.float .f64 (wd (fsum p (neg q)))) w := by
  obtain ⟨z, w', hr, hz⟩ := run_farith (P := P) .sub (.inr (.inl rfl)) t x y w
  have hf : floatBits .sub .f64 x y = Ieee.double.sub x y := rfl
  rw [hf] at hz
  rcases sub_FW hx hy with ⟨z', e1, e2⟩ | ⟨e1, e2⟩
  · rcases hz with ⟨h1, h2⟩ | ⟨h1, _⟩
    · rw [e1] at h1; cases h1
      rw [hr, h2, (e2.of h).2.1]
    · rw [e1] at h1; cases h1
  · exact absurd (by rw [e2]; exact nan_canon) h
/-- a difference that is no number: some word of none, and perhaps a draw -/
theorem run_diffNo {P : Program} (t : TypeId) {p q : Int} {x y : Nat} (hx : FW p x) (hy : FW q y) (h : cls (fsum p (neg q)) = 4) :
    ∃ (f : World → Nat) (g : World → World), ∀ w, (binOp .sub t (.float .f64 x) (.float .f64 y)).run P w = .ok (.float .f64 (f w)) (g w) ∧ FW (fsum p (neg q)) (f w) ∧ (g w = w ∨ g w = w.drew) := by
  have hh := fun w => run_fdiff (P := P) t hx hy w
  exact ⟨fun w => (hh w).choose, fun w => (hh w).choose_spec.choose, fun w => (hh w).choose_spec.choose_spec⟩
theorem fw_order {l : Int} {L : Nat} (h : FW l L) : (less l 0 = true → FloatKind.f64.format.order L 0 = some .lt) ∧ (less 0 l = true → FloatKind.f64.format.order L 0 = some .gt) ∧ (less l 0 = false → less 0 l = false → FloatKind.f64.format.order L 0 = some .eq ∨ FloatKind.f64.format.order L 0 = none) := by
  have n0 := nn0.1
  have k0 : key 0 = 0 := by decide
  have e0 : wd 0 = 0 := by decide
  have c0 : ¬ cls 0 = 4 := by decide
  by_cases h4 : cls l = 4
  · have ho : FloatKind.f64.format.order L 0 = none := by
      rcases h with ⟨a, _, _⟩ | ⟨rfl, hN⟩
      · exact absurd h4 a
      · exact order_nan Ieee.double dOk L 0 (.inl (by rw [dInf, dSign]; exact hN.2))
    have l1 : less l 0 = false := by unfold less; simp [h4]
    have l2 : less 0 l = false := by unfold less; simp [h4]
    exact ⟨fun h => by (rw [l1] at h; cases h), fun h => by (rw [l2] at h; cases h), fun _ _ => .inr ho⟩
  · obtain ⟨hr, rfl, _, _⟩ := h.of h4
    have l1 : less l 0 = decide (key l < 0) := by unfold less; simp [h4, c0, k0]
    have l2 : less 0 l = decide (0 < key l) := by unfold less; simp [h4, c0, k0]
    rw [l1, l2]
    refine ⟨fun g => ?_, fun g => ?_, fun g1 g2 => ?_⟩
    · have := q_lt hr n0.1 h4 n0.2 (by rw [k0]; exact of_decide_eq_true g)
      rwa [e0] at this
    · have := q_gt hr n0.1 h4 n0.2 (by rw [k0]; exact of_decide_eq_true g)
      rwa [e0] at this
    · have g1' := of_decide_eq_false g1
      have g2' := of_decide_eq_false g2
      have := q_eq hr n0.1 h4 n0.2 (by rw [k0]; omega)
      rw [e0] at this
      exact .inl this
/-- the interval beside a float, by what was lost -/
def beLo (n l : Int) : Int := if less l 0 then prev n else n
def beHi (n l : Int) : Int := if less l 0 then n else if less 0 l then next n else n
theorem beside_any {n l : Int} {L : Nat} (hn : nn n) (hl : FW l L) (w : World) :
    Calls Tryz.prog 122 #[.float .f64 (wd n), .float .f64 L] w fun e w' => e = .returned (.agg #[.float .f64 (wd (beLo n l)), .float .f64 (wd (beHi n l))]) ∧ Below w.heap.size w w' := by
  obtain ⟨o1, o2, o3⟩ := fw_order hl
  unfold beLo beHi
  cases h1 : less l 0
  · cases h2 : less 0 l
    · exact (besideSame (wd n) L (o3 h1 h2) w).mono fun _ _ ⟨a, b⟩ => ⟨a, by rw [b]; exact bel_alloc _ _⟩
    · exact (besideUp hn L (o2 h2) w).mono fun _ _ ⟨a, b⟩ => ⟨a, by rw [b]; exact bel_alloc _ _⟩
  · exact (besideDown hn L (o1 h1) w).mono fun _ _ ⟨a, b⟩ => ⟨a, by rw [b]; exact bel_alloc _ _⟩
end Go.Proofs.YtcpjdgfnblkfpaaGreatDoor
