/-
  The model's difference and product of two words, on patterns.
-/
import Derived.Test.YtcpjdgfnblkfpaaGreatDoorRFw2
namespace Go.Proofs.YtcpjdgfnblkfpaaGreatDoor
open Go Go.RowKit Go.Proofs.YtcpjdgfnblkfpaaGreatDoor.M Ieee
set_option linter.unusedSimpArgs false
set_option linter.unusedVariables false

theorem read_same {x y : Nat} (h1 : x % Ieee.double.signWeight = y % Ieee.double.signWeight) (h2 : (x / Ieee.double.signWeight % 2 == 1) = !(y / Ieee.double.signWeight % 2 == 1)) : Ieee.double.read x = (Ieee.double.read y).opposite := by
  unfold Format.read
  dsimp only
  rw [h1, h2]
  split
  · rfl
  · split
    · rfl
    · split
      · rfl
      · rfl
theorem read_neg {q : Int} (hq : rng q) (h4 : cls q ≠ 4) : Ieee.double.read (wd (neg q)) = (Ieee.double.read (wd q)).opposite := by
  have hn : neg q = if q < 0 then q + 9223372036854775808 else q - 9223372036854775808 := by unfold neg; rw [if_neg h4]
  refine read_same ?_ ?_
  · rw [dSign, hn]
    unfold rng at hq
    unfold wd
    split <;> omega
  · rw [dSign, wd_neg (rng_neg hq), wd_neg hq, hn]
    unfold rng at hq
    by_cases h : q < 0
    · rw [if_pos h, decide_eq_false (p := q + 9223372036854775808 < 0) (by omega), decide_eq_true h]; rfl
    · rw [if_neg h, decide_eq_true (p := q - 9223372036854775808 < 0) (by omega), decide_eq_false h]; rfl
theorem neg_nan {q : Int} (h : cls q = 4) : neg q = 9221120237041090561 := by unfold neg; rw [if_pos h]
/-- The difference is the sum with the other sign. -/
theorem sub_FW {p q : Int} {x y : Nat} (hx : FW p x) (hy : FW q y) : (∃ z, Ieee.double.sub x y = some z ∧ FW (fsum p (neg q)) z) ∨ (Ieee.double.sub x y = none ∧ fsum p (neg q) = 9221120237041090561) := by
  by_cases h4 : cls q = 4
  · right
    refine ⟨?_, by unfold fsum; rw [neg_nan h4, if_pos (.inr nan_canon)]⟩
    obtain ⟨s, t, e⟩ := hy.read_nan h4
    unfold Format.sub
    rw [e]
    cases Ieee.double.read x <;> rfl
  · obtain ⟨rq, rfl, _, _⟩ := hy.of h4
    have hs : Ieee.double.sub x (wd q) = Ieee.double.add x (wd (neg q)) := by
      unfold Format.sub Format.add
      rw [read_neg rq h4]
    rw [hs]
    exact add_FW hx (FW.pat (cls_neg rq h4) (rng_neg rq))
theorem run_fdiff {P : Program} (t : TypeId) {p q : Int} {x y : Nat} (hx : FW p x) (hy : FW q y) (w : World) :
    ∃ z w', (binOp .sub t (.float .f64 x) (.float .f64 y)).run P w = .ok (.float .f64 z) w' ∧ FW (fsum p (neg q)) z ∧ (w' = w ∨ w' = w.drew) := by
  obtain ⟨z, w', h, hz⟩ := run_farith (P := P) .sub (.inr (.inl rfl)) t x y w
  refine ⟨z, w', h, ?_⟩
  have hf : floatBits .sub .f64 x y = Ieee.double.sub x y := rfl
  rw [hf] at hz
  rcases sub_FW hx hy with ⟨z', e1, e2⟩ | ⟨e1, e2⟩
  · rcases hz with ⟨h1, h2⟩ | ⟨h1, _⟩
    · rw [e1] at h1; cases h1; exact ⟨e2, .inl h2⟩
    · rw [e1] at h1; cases h1
  · rcases hz with ⟨h1, _⟩ | ⟨_, h2, h3⟩
    · rw [e1] at h1; cases h1
    · rw [e2]; exact ⟨FW.nan h2, .inr h3⟩
/-- The sign of a product. -/
def xsg (p q : Int) : Bool := decide (p < 0) != decide (q < 0)
/-- A product's size, in the scale. -/
def fsize (p q : Int) : Int := sg (xsg p q) (patV p * patV q / 2 ^ 4194304)
/-- A product, on patterns: to the nearest. -/
def fprod (p q : Int) : Int :=
  if cls p = 4 ∨ cls q = 4 then 9221120237041090561
  else if rg p = 9218868437227405312 ∨ rg q = 9218868437227405312 then (if rg p = 0 ∨ rg q = 0 then 9221120237041090561 else patS (xsg p q) 9218868437227405312)
  else if fsize p q = 0 then patS (xsg p q) 0 else nearP (sg (xsg p q) (fsize p q))
theorem fsize_of {g : Bool} {D Z C : Int} (hZ : 0 < Z) (h : sg g D * Z = C) : sg g (C / Z) = D := by
  rw [← h, Int.mul_ediv_cancel _ (Int.ne_of_gt hZ)]
  cases g
  · rfl
  · exact Int.neg_neg D
theorem nearP_sg {g : Bool} {D : Int} {r0 : Nat} {left : Int} (h0 : 0 < D) (hR : Rung D r0 left) : nearP (sg g D) = patS g (rTo 0 g r0 left) := by
  have hd : decide (sg g D < 0) = g := by
    cases g
    · exact decide_eq_false (by show ¬ D < 0; omega)
    · exact decide_eq_true (by show -D < 0; omega)
  have hn : sg g D ≠ 0 := by
    cases g
    · show D ≠ 0; omega
    · show -D ≠ 0; omega
  obtain ⟨A, s0, k, e1, e2, e3⟩ := nearP_rung hn
  rw [hd] at e1 e3
  have := sg_inj e1
  subst this
  obtain ⟨h1, h2⟩ := hR.unique e2
  subst h1 h2
  exact e3
theorem fmul_fin {p q : Int} (hp : rng p) (hq : rng q) (pp : pok p = true) (pq : pok q = true) : Ieee.double.mul (wd p) (wd q) = some (wd (if fsize p q = 0 then patS (xsg p q) 0 else nearP (sg (xsg p q) (fsize p q)))) := by
  obtain ⟨D, d0, d1, d2, d3⟩ := fmul hp hq pp pq
  have hf : fsize p q = D := fsize_of (two_pos 4194304) d1
  rw [hf]
  by_cases h : D = 0
  · rw [if_pos h]; exact d2 h
  · rw [if_neg h]
    obtain ⟨r0, left, hR, hE⟩ := d3 h
    rw [hE, nearP_sg (by omega) hR]
    rfl
end Go.Proofs.YtcpjdgfnblkfpaaGreatDoor
