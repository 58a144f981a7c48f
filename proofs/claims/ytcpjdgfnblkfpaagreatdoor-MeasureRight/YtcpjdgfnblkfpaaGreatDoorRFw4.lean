/-
  The model's product of two words, on patterns; bits.Float and bits.Of, between patterns and words.
-/
import Derived.Test.YtcpjdgfnblkfpaaGreatDoorRFw3
import Derived.Test.YtcpjdgfnblkfpaaGreatDoorFloats
namespace Go.Proofs.YtcpjdgfnblkfpaaGreatDoor
open Go Go.RowKit Go.Proofs.YtcpjdgfnblkfpaaGreatDoor.M Ieee
set_option linter.unusedSimpArgs false
set_option linter.unusedVariables false

theorem write_infS (g : Bool) : Ieee.double.write (.infinity g) = wd (patS g 9218868437227405312) := by
  unfold Format.write
  dsimp only
  rw [dInf]
  exact wd_word (ng := g) (r := 9218868437227405312) (by decide) (by decide)
theorem mag_zero {q : Int} {m u : Nat} (hq : rng q) (pq : pok q = true) (h : patV q = sg (decide (q < 0)) ((m : Int) * pw (-1074 + (u : Int)))) : m = 0 ↔ rg q = 0 := by
  have e := patV_dec hq pq
  rw [h] at e
  have e2 := sg_inj e
  obtain ⟨r0, r1⟩ := rg_lt hq pq
  constructor
  · intro hm
    rw [hm] at e2
    have e3 : vS (rg q).toNat = 0 := by rw [← e2]; simp
    rcases Nat.eq_zero_or_pos (rg q).toNat with g | g
    · omega
    · have := vS_lt g
      rw [vS_zero, e3] at this
      exact absurd this (Int.lt_irrefl _)
  · intro hr
    rw [hr] at e2
    have e3 : (m : Int) * pw (-1074 + (u : Int)) = 0 := by rw [e2]; exact vS_zero
    have := (eq_zero_iff (pw_pos (-1074 + (u : Int)))).2 e3
    omega
theorem mul_FW {p q : Int} {x y : Nat} (hx : FW p x) (hy : FW q y) : (∃ z, Ieee.double.mul x y = some z ∧ FW (fprod p q) z) ∨ (Ieee.double.mul x y = none ∧ fprod p q = 9221120237041090561) := by
  by_cases h4 : cls p = 4 ∨ cls q = 4
  · right
    refine ⟨?_, by unfold fprod; rw [if_pos h4]⟩
    unfold Format.mul
    rcases h4 with h | h
    · obtain ⟨s, t, e⟩ := hx.read_nan h
      rw [e]
      rfl
    · obtain ⟨s, t, e⟩ := hy.read_nan h
      rw [e]
      cases Ieee.double.read x <;> rfl
  · have h4p : cls p ≠ 4 := fun h => h4 (.inl h)
    have h4q : cls q ≠ 4 := fun h => h4 (.inr h)
    obtain ⟨rp, rfl, p0, p1⟩ := hx.of h4p
    obtain ⟨rq, rfl, q0, q1⟩ := hy.of h4q
    have hI := patS_rng (ng := xsg p q) (r := 9218868437227405312) (by decide) (by decide)
    have hX : (decide (p < 0) ^^ decide (q < 0)) = xsg p q := xor_ne _ _
    have hX2 : (decide (q < 0) ^^ decide (p < 0)) = xsg p q := by rw [← hX]; cases decide (p < 0) <;> cases decide (q < 0) <;> rfl
    unfold fprod
    rw [if_neg h4]
    by_cases ip : rg p = 9218868437227405312
    · rw [if_pos (.inl ip)]
      have ep := read_inf64 rp ip
      by_cases iq : rg q = 9218868437227405312
      · left
        rw [if_neg (by omega)]
        refine ⟨_, ?_, FW.pat hI.2 hI.1⟩
        unfold Format.mul
        rw [ep, read_inf64 rq iq]
        show some (Ieee.double.write (.infinity (decide (p < 0) ^^ decide (q < 0)))) = _
        rw [write_infS, hX]
      · have pq := (pok_rg rq).2 (by omega)
        obtain ⟨m, u, eq, vq⟩ := read_wd rq pq
        have hz := mag_zero rq pq vq
        by_cases hm : m = 0
        · right
          refine ⟨?_, by rw [if_pos (.inr (hz.1 hm))]⟩
          unfold Format.mul
          rw [ep, eq, hm]
          rfl
        · left
          rw [if_neg (fun h => by rcases h with h | h; omega; exact hm (hz.2 h))]
          refine ⟨_, ?_, FW.pat hI.2 hI.1⟩
          unfold Format.mul
          rw [ep, eq]
          unfold Datum.product
          dsimp only
          rw [if_neg hm]
          show some (Ieee.double.write (.infinity (decide (p < 0) ^^ decide (q < 0)))) = _
          rw [write_infS, hX]
    · have pp := (pok_rg rp).2 (by omega)
      by_cases iq : rg q = 9218868437227405312
      · rw [if_pos (.inr iq)]
        obtain ⟨m, u, ep, vp⟩ := read_wd rp pp
        have hz := mag_zero rp pp vp
        have eq := read_inf64 rq iq
        by_cases hm : m = 0
        · right
          refine ⟨?_, by rw [if_pos (.inl (hz.1 hm))]⟩
          unfold Format.mul
          rw [ep, eq, hm]
          rfl
        · left
          rw [if_neg (fun h => by rcases h with h | h; exact hm (hz.2 h); omega)]
          refine ⟨_, ?_, FW.pat hI.2 hI.1⟩
          unfold Format.mul
          rw [ep, eq]
          unfold Datum.product
          dsimp only
          rw [if_neg hm]
          show some (Ieee.double.write (.infinity (decide (q < 0) ^^ decide (p < 0)))) = _
          rw [write_infS, hX2]
      · left
        rw [if_neg (by omega)]
        refine ⟨_, fmul_fin rp rq pp ((pok_rg rq).2 (by omega)), ?_⟩
        by_cases hS : fsize p q = 0
        · rw [if_pos hS]
          obtain ⟨g1, g2⟩ := patS_rng (ng := xsg p q) (r := 0) (by decide) (by decide)
          exact FW.pat g2 g1
        · rw [if_neg hS]
          have hn : sg (xsg p q) (fsize p q) ≠ 0 := by
            generalize fsize p q = D at *
            cases xsg p q
            · exact hS
            · show -D ≠ 0; omega
          exact FW.pat (nearP_pat hn).2 (nearP_pat hn).1
theorem run_fprod {P : Program} (t : TypeId) {p q : Int} {x y : Nat} (hx : FW p x) (hy : FW q y) (w : World) :
    ∃ z w', (binOp .mul t (.float .f64 x) (.float .f64 y)).run P w = .ok (.float .f64 z) w' ∧ FW (fprod p q) z ∧ (w' = w ∨ w' = w.drew) := by
  obtain ⟨z, w', h, hz⟩ := run_farith (P := P) .mul (.inr (.inr (.inl rfl))) t x y w
  refine ⟨z, w', h, ?_⟩
  have hf : floatBits .mul .f64 x y = Ieee.double.mul x y := rfl
  rw [hf] at hz
  rcases mul_FW hx hy with ⟨z', e1, e2⟩ | ⟨e1, e2⟩
  · rcases hz with ⟨h1, h2⟩ | ⟨h1, _⟩
    · rw [e1] at h1; cases h1; exact ⟨e2, .inl h2⟩
    · rw [e1] at h1; cases h1
  · rcases hz with ⟨h1, _⟩ | ⟨_, h2, h3⟩
    · rw [e1] at h1; cases h1
    · rw [e2]; exact ⟨FW.nan h2, .inr h3⟩
theorem wd_told {a : Int} (ha : rng a) : FW (told a) (wd a) := by
  unfold told
  by_cases h : cls a = 4
  · rw [if_pos h]
    refine FW.nan ⟨?_, ?_⟩
    · unfold wd; omega
    · exact (cls4_rung ha).1 h
  · rw [if_neg h]
    exact FW.pat h ha
theorem patW_rng {x : Nat} (h : x < 18446744073709551616) : rng (patW x) ∧ wd (patW x) = x := by
  unfold patW rng wd
  split
  · exact ⟨by omega, by omega⟩
  · exact ⟨by omega, by omega⟩
/-- What bits.Of tells of a word. -/
theorem of_FW {p : Int} {x : Nat} (h : FW p x) (w : World) : Calls Tryz.prog 77 #[.float .f64 x] w fun e w' => e = .returned (.int .i64 p) ∧ w' = w := by
  rcases h with ⟨h4, hp, rfl⟩ | ⟨rfl, hN⟩
  · have := bitsOf p w hp
    have e : told p = p := by unfold told; rw [if_neg h4]
    rwa [e] at this
  · obtain ⟨h1, h2⟩ := patW_rng hN.1
    have := bitsOf (patW x) w h1
    rw [h2] at this
    have e : told (patW x) = 9221120237041090561 := by
      unfold told
      rw [if_pos ((cls4_rung h1).2 (by rw [h2]; exact hN.2))]
    rwa [e] at this
end Go.Proofs.YtcpjdgfnblkfpaaGreatDoor
