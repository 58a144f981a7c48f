/-
  Parts of the proof, one behind another.
-/
import Derived.Test.YtobolgmjcebfmaaGreatDoorPart12
import Derived.Test.YtobolgmjcebfmaaGreatDoorPart10
import Derived.Test.YtobolgmjcebfmaaGreatDoorPart11
/-
  The model's product of two words, on patterns; bits.Float and bits.Of, between patterns and words.
-/
namespace Go.Proofs.YtobolgmjcebfmaaGreatDoor
open Go Go.RowKit Go.Proofs.YtobolgmjcebfmaaGreatDoor.M Ieee
set_option linter.unusedSimpArgs false
set_option linter.unusedVariables false

theorem write_infS (g : Bool) : Ieee.double.write (.infinity g) = wd (patS g 9218868437227405312) := by
  unfold Format.write
  dsimp only
  rw [dInf]
  exact wd_word (ng := g) (r := 9218868437227405312) (by decide) (by decide)
theorem mag_zero {q : Int} {m u : Nat} (hq : rng q) (pq : pok q = true) (h : patV q = sg (decide (q < 0)) ((m : Int) * pw (-1074 + (u : Int)))) : m = 0 ↔ rg q = 0 := by
  have e := patV_dec hq pq
  rw [h] at e
  have e2 := sg_inj e
  obtain ⟨r0, r1⟩ := rg_lt hq pq
  constructor
  · intro hm
    rw [hm] at e2
    have e3 : vS (rg q).toNat = 0 := by rw [← e2]; simp
    rcases Nat.eq_zero_or_pos (rg q).toNat with g | g
    · omega
    · have := vS_lt g
      rw [vS_zero, e3] at this
      exact absurd this (Int.lt_irrefl _)
  · intro hr
    rw [hr] at e2
    have e3 : (m : Int) * pw (-1074 + (u : Int)) = 0 := by rw [e2]; exact vS_zero
    have := (eq_zero_iff (pw_pos (-1074 + (u : Int)))).2 e3
    omega
theorem mul_FW {p q : Int} {x y : Nat} (hx : FW p x) (hy : FW q y) : (∃ z, Ieee.double.mul x y = some z ∧ FW (fprod p q) z) ∨ (Ieee.double.mul x y = none ∧ fprod p q = 9221120237041090561) := by
  by_cases h4 : cls p = 4 ∨ cls q = 4
  · right
    refine ⟨?_, by unfold fprod; rw [if_pos h4]⟩
    unfold Format.mul
    rcases h4 with h | h
    · obtain ⟨s, t, e⟩ := hx.read_nan h
      rw [e]
      rfl
    · obtain ⟨s, t, e⟩ := hy.read_nan h
      rw [e]
      cases Ieee.double.read x <;> rfl
  · have h4p : cls p ≠ 4 := fun h => h4 (.inl h)
    have h4q : cls q ≠ 4 := fun h => h4 (.inr h)
    obtain ⟨rp, rfl, p0, p1⟩ := hx.of h4p
    obtain ⟨rq, rfl, q0, q1⟩ := hy.of h4q
    have hI := patS_rng (ng := xsg p q) (r := 9218868437227405312) (by decide) (by decide)
    have hX : (decide (p < 0) ^^ decide (q < 0)) = xsg p q := xor_ne _ _
    have hX2 : (decide (q < 0) ^^ decide (p < 0)) = xsg p q := by rw [← hX]; cases decide (p < 0) <;> cases decide (q < 0) <;> rfl
    unfold fprod
    rw [if_neg h4]
    by_cases ip : rg p = 9218868437227405312
    · rw [if_pos (.inl ip)]
      have ep := read_inf64 rp ip
      by_cases iq : rg q = 9218868437227405312
      · left
        rw [if_neg (by omega)]
        refine ⟨_, ?_, FW.pat hI.2 hI.1⟩
        unfold Format.mul
        rw [ep, read_inf64 rq iq]
        show some (Ieee.double.write (.infinity (decide (p < 0) ^^ decide (q < 0)))) = _
        rw [write_infS, hX]
      · have pq := (pok_rg rq).2 (by omega)
        obtain ⟨m, u, eq, vq⟩ := read_wd rq pq
        have hz := mag_zero rq pq vq
        by_cases hm : m = 0
        · right
          refine ⟨?_, by rw [if_pos (.inr (hz.1 hm))]⟩
          unfold Format.mul
          rw [ep, eq, hm]
          rfl
        · left
          rw [if_neg (fun h => by rcases h with h | h; omega; exact hm (hz.2 h))]
          refine ⟨_, ?_, FW.pat hI.2 hI.1⟩
          unfold Format.mul
          rw [ep, eq]
          unfold Datum.product
          dsimp only
          rw [if_neg hm]
          show some (Ieee.double.write (.infinity (decide (p < 0) ^^ decide (q < 0)))) = _
          rw [write_infS, hX]
    · have pp := (pok_rg rp).2 (by omega)
      by_cases iq : rg q = 9218868437227405312
      · rw [if_pos (.inr iq)]
        obtain ⟨m, u, ep, vp⟩ := read_wd rp pp
        have hz := mag_zero rp pp vp
        have eq := read_inf64 rq iq
        by_cases hm : m = 0
        · right
          refine ⟨?_, by rw [if_pos (.inl (hz.1 hm))]⟩
          unfold Format.mul
          rw [ep, eq, hm]
          rfl
        · left
          rw [if_neg (fun h => by rcases h with h | h; exact hm (hz.2 h); omega)]
          refine ⟨_, ?_, FW.pat hI.2 hI.1⟩
          unfold Format.mul
          rw [ep, eq]
          unfold Datum.product
          dsimp only
          rw [if_neg hm]
          show some (Ieee.double.write (.infinity (decide (q < 0) ^^ decide (p < 0)))) = _
          rw [write_infS, hX2]
      · left
        rw [if_neg (by omega)]
        refine ⟨_, fmul_fin rp rq pp ((pok_rg rq).2 (by omega)), ?_⟩
        by_cases hS : fsize p q = 0
        · rw [if_pos hS]
          obtain ⟨g1, g2⟩ := patS_rng (ng := xsg p q) (r := 0) (by decide) (by decide)
          exact FW.pat g2 g1
        · rw [if_neg hS]
          have hn : sg (xsg p q) (fsize p q) ≠ 0 := by
            generalize fsize p q = D at *
            cases xsg p q
            · exact hS
            · show -D ≠ 0; omega
          exact FW.pat (nearP_pat hn).2 (nearP_pat hn).1
theorem run_fprod {P : Program} (t : TypeId) {p q : Int} {x y : Nat} (hx : FW p x) (hy : FW q y) (w : World) :
    ∃ z w', (binOp .mul t (.float .f64 x) (.float .f64 y)).run P w = .ok (.float .f64 z) w' ∧ FW (fprod p q) z ∧ (w' = w ∨ w' = w.drew) := by
  obtain ⟨z, w', h, hz⟩ := run_farith (P := P) .mul (.inr (.inr (.inl rfl))) t x y w
  refine ⟨z, w', h, ?_⟩
  have hf : floatBits .mul .f64 x y = Ieee.double.mul x y := rfl
  rw [hf] at hz
  rcases mul_FW hx hy with ⟨z', e1, e2⟩ | ⟨e1, e2⟩
  · rcases hz with ⟨h1, h2⟩ | ⟨h1, _⟩
    · rw [e1] at h1; cases h1; exact ⟨e2, .inl h2⟩
    · rw [e1] at h1; cases h1
  · rcases hz with ⟨h1, _⟩ | ⟨_, h2, h3⟩
    · rw [e1] at h1; cases h1
    · rw [e2]; exact ⟨FW.nan h2, .inr h3⟩
theorem wd_told {a : Int} (ha : rng a) : FW (told a) (wd a) := by
  unfold told
  by_cases h : cls a = 4
  · rw [if_pos h]
    refine FW.nan ⟨?_, ?_⟩
    · unfold wd; omega
    · exact (cls4_rung ha).1 h
  · rw [if_neg h]
    exact FW.pat h ha
theorem patW_rng {x : Nat} (h : x < 18446744073709551616) : rng (patW x) ∧ wd (patW x) = x := by
  unfold patW rng wd
  split
  · exact ⟨by omega, by omega⟩
  · exact ⟨by omega, by omega⟩
/-- What bits.Of tells of a word. -/
theorem of_FW {p : Int} {x : Nat} (h : FW p x) (w : World) : Calls Tryz.prog 19 #[.float .f64 x] w fun e w' => e = .returned (.int .i64 p) ∧ w' = w := by
  rcases h with ⟨h4, hp, rfl⟩ | ⟨rfl, hN⟩
  · have := bitsOf p w hp
    have e : told p = p := by unfold told; rw [if_neg h4]
    rwa [e] at this
  · obtain ⟨h1, h2⟩ := patW_rng hN.1
    have := bitsOf (patW x) w h1
    rw [h2] at this
    have e : told (patW x) = 9221120237041090561 := by
      unfold told
      rw [if_pos ((cls4_rung h1).2 (by rw [h2]; exact hN.2))]
    rwa [e] at this
end Go.Proofs.YtobolgmjcebfmaaGreatDoor

/-
  Plain mathematics: the nearest word of a number of which the last digit tells that something was cut off. No Go text in sight.
-/
namespace Go.Proofs.YtobolgmjcebfmaaGreatDoor
open Go Go.RowKit Go.Proofs.YtobolgmjcebfmaaGreatDoor.M Ieee
set_option linter.unusedSimpArgs false
set_option linter.unusedVariables false

end Go.Proofs.YtobolgmjcebfmaaGreatDoor

/-
  Plain mathematics: the quotient of two floats is the exact quotient, rounded to the nearest. No Go text in sight.
-/
namespace Go.Proofs.YtobolgmjcebfmaaGreatDoor
open Go Go.RowKit Go.Proofs.YtobolgmjcebfmaaGreatDoor.M Ieee
set_option linter.unusedSimpArgs false
set_option linter.unusedVariables false

theorem log2_fin {b : Int} {m u : Nat} (hb : rng b) (hp : pok b = true) (h : Ieee.double.read (wd b) = .number (decide (b < 0)) m (-1074 + (u : Int))) : m < 9007199254740992 ∧ u ≤ 2046 := by
  obtain ⟨h0, h1⟩ := rg_lt hb hp
  have hw : ((wd b % 9223372036854775808 : Nat) : Int) = rg b := wd_rung hb
  unfold Format.read at h
  rw [dSign, dBin, dInf, dLeast] at h
  dsimp only at h
  split at h
  · rename_i h2
    simp only [Datum.number.injEq] at h
    obtain ⟨_, h3, h4⟩ := h
    exact ⟨by omega, by omega⟩
  · rw [if_pos (by omega)] at h
    have hm := Nat.mod_lt (wd b % 9223372036854775808) (show 0 < 4503599627370496 by decide)
    have hd : wd b % 9223372036854775808 / 4503599627370496 ≤ 2047 := by omega
    simp only [Datum.number.injEq] at h
    obtain ⟨_, h3, h4⟩ := h
    exact ⟨by omega, by omega⟩
end Go.Proofs.YtobolgmjcebfmaaGreatDoor

/-
  Plain mathematics: the root of a float is the exact root, rounded to the nearest. No Go text in sight.
-/
namespace Go.Proofs.YtobolgmjcebfmaaGreatDoor
open Go Go.RowKit Go.Proofs.YtobolgmjcebfmaaGreatDoor.M Ieee
set_option linter.unusedSimpArgs false
set_option linter.unusedVariables false

end Go.Proofs.YtobolgmjcebfmaaGreatDoor

/-
  Plain mathematics: a product and a sum of floats, rounded once. No Go text in sight.
-/
namespace Go.Proofs.YtobolgmjcebfmaaGreatDoor
open Go Go.RowKit Go.Proofs.YtobolgmjcebfmaaGreatDoor.M Ieee
set_option linter.unusedSimpArgs false
set_option linter.unusedVariables false

theorem nearest_nearP {S t base : Int} (hb : -4194304 ≤ base) (hS : t * pw base = S) (h0 : S ≠ 0) : Ieee.double.nearest (decide (t < 0)) t.natAbs base = wd (nearP S) := by
  obtain ⟨A, r0, left, a1, a2, a3⟩ := write_near hb hS h0
  obtain ⟨B, s0, k, b1, b2, b3⟩ := nearP_rung h0
  have hAB := sg_inj (a1.symm.trans b1)
  subst hAB
  obtain ⟨h2, h3⟩ := a2.unique b2
  subst h2 h3
  rw [a3, b3]
/-- The exact sum of a product and a number, in the scale. -/
def fmaS (p q r : Int) : Int := sg (xsg p q) (fsize p q) + patV r
theorem ffma_fin {p q r : Int} (hp : rng p) (hq : rng q) (hr : rng r) (pp : pok p = true) (pq : pok q = true) (pr : pok r = true) :
    Ieee.double.fma (wd p) (wd q) (wd r) = some (wd (if fmaS p q r = 0 then patS (xsg p q && decide (r < 0)) 0 else nearP (fmaS p q r))) := by
  obtain ⟨m, u, h1, v1⟩ := read_wd hp pp
  obtain ⟨n, v, h2, v2⟩ := read_wd hq pq
  obtain ⟨l, x, h3, v3⟩ := read_wd hr pr
  obtain ⟨i, hi⟩ : ∃ i : Int, -1074 + (u : Int) + (-1074 + (v : Int)) = i := ⟨_, rfl⟩
  obtain ⟨j, hj⟩ : ∃ j : Int, -1074 + (x : Int) = j := ⟨_, rfl⟩
  have hpm := pw_mul (a := -1074 + (u : Int)) (b := -1074 + (v : Int)) (by omega) (by omega)
  have hC := fmul_core (g := decide (p < 0)) (h := decide (q < 0)) (x := (m : Int)) (y := (n : Int)) hpm
  rw [← v1, ← v2, hi] at hC
  have hcast : ((m * n : Nat) : Int) = (m : Int) * (n : Int) := by push_cast; rfl
  have hf : fsize p q = ((m * n : Nat) : Int) * pw i := by rw [hcast]; exact fsize_of (two_pos 4194304) hC
  obtain ⟨base, hbase⟩ : ∃ base, min i j = base := ⟨_, rfl⟩
  have hB : -4194304 ≤ base := by omega
  obtain ⟨t, ht⟩ : ∃ t, signed (xsg p q) (m * n) (i - base).toNat + signed (decide (r < 0)) l (j - base).toNat = t := ⟨_, rfl⟩
  have hfma : Ieee.double.fma (wd p) (wd q) (wd r) = some (Ieee.double.nearest (if t = 0 then xsg p q && decide (r < 0) else decide (t < 0)) t.natAbs base) := by
    unfold Format.fma
    rw [h1, h2, h3]
    unfold Datum.product
    dsimp only
    rw [hi, hj, xor_ne]
    show Option.map Ieee.double.write (Datum.sum (.number (xsg p q) (m * n) i) (.number (decide (r < 0)) l j)) = _
    unfold Datum.sum
    dsimp only
    rw [hbase, ht]
    rfl
  have s1 := signed_pw (xsg p q) (m * n) (i - base).toNat (i := i) (base := base) (by omega) hB
  have s2 := signed_pw (decide (r < 0)) l (j - base).toNat (i := j) (base := base) (by omega) hB
  rw [hj] at v3
  rw [← hf] at s1
  rw [← v3] at s2
  have hS : t * pw base = fmaS p q r := by
    unfold fmaS
    rw [← ht, Int.add_mul, s1, s2]
  rw [hfma]
  by_cases h : fmaS p q r = 0
  · have ht0 : t = 0 := (eq_zero_iff (pw_pos base)).2 (hS.trans h)
    rw [if_pos h, ht0, if_pos rfl]
    unfold Format.nearest
    rw [if_pos (show Int.natAbs 0 = 0 from rfl)]
    have := wd_word (ng := xsg p q && decide (r < 0)) (r := 0) (by decide) (by decide)
    rw [← this]
    rfl
  · have ht0 : t ≠ 0 := fun e => h (by rw [← hS, e, Int.zero_mul])
    rw [if_neg h, if_neg ht0, nearest_nearP hB hS h]
end Go.Proofs.YtobolgmjcebfmaaGreatDoor

/-
  Plain mathematics: a number rounded in a way, as a pattern; a product and a sum, rounded once, of any patterns. No Go text in sight.
-/
namespace Go.Proofs.YtobolgmjcebfmaaGreatDoor
open Go Go.RowKit Go.Proofs.YtobolgmjcebfmaaGreatDoor.M Ieee
set_option linter.unusedSimpArgs false
set_option linter.unusedVariables false

/-- p is V, which is not 0, rounded in a way. -/
def RdP (way V p : Int) : Prop := ∃ (A : Int) (r0 : Nat) (left : Int), V = sg (decide (V < 0)) A ∧ Rung A r0 left ∧ p = patS (decide (V < 0)) (rTo way (decide (V < 0)) r0 left)
theorem RdP.unique {way V p q : Int} (h : RdP way V p) (k : RdP way V q) : p = q := by
  obtain ⟨A, r0, l, h1, h2, h3⟩ := h
  obtain ⟨B, s0, m, k1, k2, k3⟩ := k
  have hAB := sg_inj (h1.symm.trans k1)
  subst hAB
  obtain ⟨e1, e2⟩ := h2.unique k2
  subst e1 e2
  rw [h3, k3]
theorem r64_num {way : Int} {ng sd : Bool} {M e : Int} (hv : 0 < M) (he : -4194304 ≤ e) :
    ∃ (r0 : Nat) (left : Int), Rung (M * pw e) r0 left ∧ r64 way ng sd (M / 2 ^ vK M).toNat (e + vK M) (decide (M % 2 ^ vK M ≠ 0)) = (patS (ng && (decide (0 < rTo way ng r0 left) || sd)) (rTo way ng r0 left), decide (left ≠ 0) || decide (9218868437227405312 ≤ (r0 : Int))) := by
  have hsm := vK_small (Int.le_of_lt hv)
  have hb := blen_pos hv
  have hp := two_pos (vK M)
  have hge : 2 ^ (blen M - 1 - vK M) ≤ M / 2 ^ vK M := by
    rw [Int.le_ediv_iff_mul_le hp, ← Int.pow_add]
    by_cases hk : vK M ≤ blen M - 1
    · rw [show blen M - 1 - vK M + vK M = blen M - 1 by omega]
      exact hb.2
    · exfalso; unfold vK at hk; omega
  have hpos := two_pos (blen M - 1 - vK M)
  have e64 : (2 : Nat) ^ 64 = 18446744073709551616 := by decide
  have e60 : (2 : Nat) ^ 60 = 1152921504606846976 := by decide
  refine r64_spec (held_cut (Int.le_of_lt hv) (by omega) _) (by omega) (by omega) (by omega) (fun hc => ?_)
  have hk0 : 0 < vK M := by
    rcases Nat.eq_zero_or_pos (vK M) with h | h
    · rw [h, Int.pow_zero, Int.emod_one] at hc; simp at hc
    · exact h
  have h61 : blen M - 1 - vK M = 61 := by unfold vK at hk0 ⊢; omega
  rw [h61] at hge
  have e61 : (2 : Int) ^ 61 = 2305843009213693952 := by decide
  rw [e61] at hge
  omega
theorem sg_lt {ng : Bool} {A : Int} (h : 0 < A) : decide (sg ng A < 0) = ng := by
  cases ng
  · exact decide_eq_false (by show ¬ A < 0; omega)
  · exact decide_eq_true (by show -A < 0; omega)
theorem rd_of {way V : Int} {ng : Bool} {M e : Int} (hV : V = sg ng (M * pw e)) (hv : 0 < M) (he : -4194304 ≤ e) :
    RdP way V (r64 way ng true (M / 2 ^ vK M).toNat (e + vK M) (decide (M % 2 ^ vK M ≠ 0))).1 := by
  obtain ⟨r0, left, h1, h2⟩ := r64_num (way := way) (ng := ng) (sd := true) hv he
  have hA : 0 < M * pw e := Int.mul_pos hv (pw_pos e)
  have hn : decide (V < 0) = ng := by rw [hV]; exact sg_lt hA
  refine ⟨M * pw e, r0, left, by rw [hn]; exact hV, h1, ?_⟩
  rw [h2, hn]
  simp
/-- The number rounded. -/
def rdP (way V : Int) : Int := (r64 way (decide (V < 0)) true ((V.natAbs : Int) / 2 ^ vK (V.natAbs : Int)).toNat (-4194304 + vK (V.natAbs : Int)) (decide ((V.natAbs : Int) % 2 ^ vK (V.natAbs : Int) ≠ 0))).1
theorem rdP_is (way : Int) {V : Int} (h : V ≠ 0) : RdP way V (rdP way V) := by
  refine rd_of ?_ (by omega) (Int.le_refl _)
  rw [pw_least, Int.mul_one]
  by_cases hn : V < 0
  · rw [decide_eq_true hn]; show V = -(V.natAbs : Int); omega
  · rw [decide_eq_false hn]; show V = (V.natAbs : Int); omega
theorem rdP_eq {way V p : Int} (h0 : V ≠ 0) (h : RdP way V p) : rdP way V = p := (rdP_is way h0).unique h
theorem rdP_near {V : Int} (h : V ≠ 0) : rdP 0 V = nearP V := by
  obtain ⟨A, r0, left, h1, h2, h3⟩ := nearP_rung h
  exact rdP_eq h ⟨A, r0, left, h1, h2, h3⟩
theorem r64_dy {way V : Int} {ng : Bool} {m e : Int} (hy : Dy V ng m e) (h0 : V ≠ 0) (he : -4194304 ≤ e) :
    (r64 way ng true (m / 2 ^ vK m).toNat (e + vK m) (decide (m % 2 ^ vK m ≠ 0))).1 = rdP way V := by
  have hm : 0 < m := by
    rcases hy.form with ⟨f1, _⟩ | ⟨f1, _⟩
    · exact absurd (hy.eq_zero.2 f1) h0
    · exact f1
  refine (rdP_eq h0 (rd_of ?_ hm he)).symm
  rw [hy.val]
  cases ng
  · rfl
  · show -m * pw e = -(m * pw e); rw [Int.neg_mul]
theorem rdP_pat (way : Int) {V : Int} (h : V ≠ 0) : rng (rdP way V) ∧ cls (rdP way V) ≠ 4 := by
  obtain ⟨A, r0, left, _, _, h3⟩ := rdP_is way h
  rw [h3]
  have := rTo_range way (decide (V < 0)) r0 left
  exact patS_rng this.1 this.2
theorem prod_infD {p q : Int} (rp : rng p) (rq : rng q) (p0 : 0 ≤ rg p) (p1 : rg p ≤ 9218868437227405312) (q0 : 0 ≤ rg q) (q1 : rg q ≤ 9218868437227405312) (h : rg p = 9218868437227405312 ∨ rg q = 9218868437227405312) :
    Datum.product (Ieee.double.read (wd p)) (Ieee.double.read (wd q)) = if rg p = 0 ∨ rg q = 0 then none else some (.infinity (xsg p q)) := by
  have hX : (decide (p < 0) ^^ decide (q < 0)) = xsg p q := xor_ne _ _
  have hX2 : (decide (q < 0) ^^ decide (p < 0)) = xsg p q := by rw [← hX]; cases decide (p < 0) <;> cases decide (q < 0) <;> rfl
  by_cases ip : rg p = 9218868437227405312
  · have ep := read_inf64 rp ip
    by_cases iq : rg q = 9218868437227405312
    · rw [if_neg (by omega), ep, read_inf64 rq iq, ← hX]
      rfl
    · have pq := (pok_rg rq).2 (by omega)
      obtain ⟨m, u, eq, vq⟩ := read_wd rq pq
      have hz := mag_zero rq pq vq
      rw [ep, eq]
      unfold Datum.product
      dsimp only
      by_cases hm : m = 0
      · rw [if_pos hm, if_pos (.inr (hz.1 hm))]
      · rw [if_neg hm, if_neg (fun h => by rcases h with h | h; omega; exact hm (hz.2 h)), hX]
  · have iq : rg q = 9218868437227405312 := by omega
    have pp := (pok_rg rp).2 (by omega)
    obtain ⟨m, u, ep, vp⟩ := read_wd rp pp
    have hz := mag_zero rp pp vp
    have eq := read_inf64 rq iq
    rw [ep, eq]
    unfold Datum.product
    dsimp only
    by_cases hm : m = 0
    · rw [if_pos hm, if_pos (.inl (hz.1 hm))]
    · rw [if_neg hm, if_neg (fun h => by rcases h with h | h; exact hm (hz.2 h); omega), hX2]
/-- A product and a sum, rounded once, on patterns. -/
def ffma (p q r : Int) : Int :=
  if cls p = 4 ∨ cls q = 4 ∨ cls r = 4 then 9221120237041090561
  else if rg p = 9218868437227405312 ∨ rg q = 9218868437227405312 then
    if rg p = 0 ∨ rg q = 0 then 9221120237041090561
    else if rg r = 9218868437227405312 ∧ ¬ xsg p q = decide (r < 0) then 9221120237041090561 else patS (xsg p q) 9218868437227405312
  else if rg r = 9218868437227405312 then r
  else if fmaS p q r = 0 then patS (xsg p q && decide (r < 0)) 0 else nearP (fmaS p q r)
theorem fma_FW {p q r : Int} {x y z : Nat} (hx : FW p x) (hy : FW q y) (hz : FW r z) : (∃ t, Ieee.double.fma x y z = some t ∧ FW (ffma p q r) t) ∨ (Ieee.double.fma x y z = none ∧ ffma p q r = 9221120237041090561) := by
  by_cases h4 : cls p = 4 ∨ cls q = 4 ∨ cls r = 4
  · right
    refine ⟨?_, by unfold ffma; rw [if_pos h4]⟩
    unfold Format.fma
    rcases h4 with h | h | h
    · obtain ⟨s, t, e⟩ := hx.read_nan h
      rw [e]
      rfl
    · obtain ⟨s, t, e⟩ := hy.read_nan h
      rw [e]
      cases Ieee.double.read x <;> rfl
    · obtain ⟨s, t, e⟩ := hz.read_nan h
      rw [e]
      cases Datum.product (Ieee.double.read x) (Ieee.double.read y) with
      | none => rfl
      | some d => cases d <;> rfl
  · have h4p : cls p ≠ 4 := fun h => h4 (.inl h)
    have h4q : cls q ≠ 4 := fun h => h4 (.inr (.inl h))
    have h4r : cls r ≠ 4 := fun h => h4 (.inr (.inr h))
    obtain ⟨rp, rfl, p0, p1⟩ := hx.of h4p
    obtain ⟨rq, rfl, q0, q1⟩ := hy.of h4q
    obtain ⟨rr, rfl, r0, r1⟩ := hz.of h4r
    have hI := patS_rng (ng := xsg p q) (r := 9218868437227405312) (by decide) (by decide)
    unfold ffma
    rw [if_neg h4]
    by_cases hi : rg p = 9218868437227405312 ∨ rg q = 9218868437227405312
    · rw [if_pos hi]
      have hP := prod_infD rp rq p0 p1 q0 q1 hi
      by_cases h0 : rg p = 0 ∨ rg q = 0
      · right
        rw [if_pos h0] at hP ⊢
        refine ⟨?_, rfl⟩
        unfold Format.fma
        rw [hP]
        rfl
      · rw [if_neg h0] at hP ⊢
        by_cases ir : rg r = 9218868437227405312
        · have er := read_inf64 rr ir
          by_cases hs : xsg p q = decide (r < 0)
          · left
            rw [if_neg (fun h => h.2 hs)]
            refine ⟨_, ?_, FW.pat hI.2 hI.1⟩
            unfold Format.fma
            rw [hP, er]
            show Option.map Ieee.double.write (Datum.sum (.infinity (xsg p q)) (.infinity (decide (r < 0)))) = _
            unfold Datum.sum
            dsimp only
            rw [if_pos hs]
            show some (Ieee.double.write (.infinity (xsg p q))) = _
            rw [write_infS]
          · right
            rw [if_pos ⟨ir, hs⟩]
            refine ⟨?_, rfl⟩
            unfold Format.fma
            rw [hP, er]
            show Option.map Ieee.double.write (Datum.sum (.infinity (xsg p q)) (.infinity (decide (r < 0)))) = _
            unfold Datum.sum
            dsimp only
            rw [if_neg hs]
            rfl
        · left
          obtain ⟨l, v, er, _⟩ := read_wd rr ((pok_rg rr).2 (by omega))
          rw [if_neg (fun h => ir h.1)]
          refine ⟨_, ?_, FW.pat hI.2 hI.1⟩
          unfold Format.fma
          rw [hP, er]
          show some (Ieee.double.write (.infinity (xsg p q))) = _
          rw [write_infS]
    · rw [if_neg hi]
      have pp := (pok_rg rp).2 (by omega)
      have pq := (pok_rg rq).2 (by omega)
      by_cases ir : rg r = 9218868437227405312
      · left
        rw [if_pos ir]
        obtain ⟨m, u, ep, _⟩ := read_wd rp pp
        obtain ⟨n, v, eq, _⟩ := read_wd rq pq
        refine ⟨wd r, ?_, FW.pat h4r rr⟩
        unfold Format.fma
        rw [ep, eq, read_inf64 rr ir]
        show some (Ieee.double.write (.infinity (decide (r < 0)))) = _
        rw [write_inf64 rr ir]
      · left
        rw [if_neg ir]
        refine ⟨_, ffma_fin rp rq rr pp pq ((pok_rg rr).2 (by omega)), ?_⟩
        by_cases hS : fmaS p q r = 0
        · rw [if_pos hS]
          obtain ⟨g1, g2⟩ := patS_rng (ng := xsg p q && decide (r < 0)) (r := 0) (by decide) (by decide)
          exact FW.pat g2 g1
        · rw [if_neg hS]
          exact FW.pat (nearP_pat hS).2 (nearP_pat hS).1
end Go.Proofs.YtobolgmjcebfmaaGreatDoor

/-
  Package round: kind.operate in the ways other than Near, product, total, by their contracts.
-/
namespace Go.Proofs.YtobolgmjcebfmaaGreatDoor
open Go Go.RowKit Go.Proofs.YtobolgmjcebfmaaGreatDoor.M
set_option linter.unusedSimpArgs false
set_option linter.unusedVariables false

/-- What the value of a number is. -/
def vlV (ng : Bool) (m e : Int) (sd : Bool) : Value := valV ng (m / 2 ^ vK m).toNat (e + vK m) (decide (m % 2 ^ vK m ≠ 0)) sd
theorem valueOf_D {w : World} {v : Value} {V : Int} {ng : Bool} {m e : Int} (hx : DNum w v V) (ok : Dok V) (hy : Dy V ng m e) (hT : Tab w) :
    Calls Tryz.prog 51 #[v] w fun r w' => r = .returned (vlV ng m e false) ∧ Below w.heap.size w w' := by
  obtain ⟨x, rfl, hR, hok, rfl⟩ := hx.open ok
  obtain ⟨na, hn, he0, he1⟩ := okR_sane hok
  obtain ⟨rfl, rfl, rfl⟩ := (okR_dy hok).1.unique hy
  exact valueOf_any _ _ _ _ _ _ _ hR na hn ⟨he0, he1⟩ hT
/-- Does the answer to the nearest stand? -/
def opT (er : Int) (mag : Nat) (sd : Bool) (b near : Int) : Int := if er ≠ 0 ∨ (mag = 0 ∧ sd = false) then near else b
set_option maxRecDepth 100000 in
set_option maxHeartbeats 1000000 in
theorem operate_go (way : Int) (hw : 1 ≤ way ∧ way ≤ 3) (near : Int) (F G Rf : Nat) (rc : Array Value) (oo : Option Addr) (n cap : Nat) (w : World) (V : Nat → Int) (ng : Bool) (mag : Nat) (exp : Int) (cut sd : Bool) (er b : Int) (o : Bool)
    (hEG : ∀ (cap : Array Value) (w : World), (callFunc G cap).run Tryz.prog w = .ok (.enter G cap) w)
    (hER : ∀ (cap : Array Value) (w : World), (callFunc Rf cap).run Tryz.prog w = .ok (.enter Rf cap) w)
    (CV : ∀ W, Below w.heap.size w W → Calls Tryz.prog 48 #[.agg #[.func (.func F) #[] #[], .func (.func G) #[] #[]], .slice oo n cap] W fun x w' => ∃ g q, x = .returned (.tuple #[.slice (some ⟨g, 0, none⟩) n n, .bool true]) ∧ W.heap.size ≤ g ∧ Nums w' (some ⟨g, 0, none⟩) n n q ∧ Below W.heap.size W w' ∧ ∀ i, i < n → Nrm (q i).d (q i).n ∧ Dy (V i) (q i).ng (val (q i).d (q i).n) (q i).e)
    (CR : ∀ W g q, Below w.heap.size w W → Nums W (some ⟨g, 0, none⟩) n n q → (∀ i, i < n → Nrm (q i).d (q i).n ∧ Dy (V i) (q i).ng (val (q i).d (q i).n) (q i).e) → Calls Tryz.prog Rf (#[.slice (some ⟨g, 0, none⟩) n n] ++ rc) W fun e w' => e = .returned (.tuple #[valV ng mag exp cut sd, .int .i64 er]) ∧ Below W.heap.size W w')
    (CT : ∀ W, Below w.heap.size w W → Calls Tryz.prog G #[valV ng mag exp cut true, wayV way] W fun e w' => e = .returned (.tuple #[.int .i64 b, .bool o]) ∧ Below W.heap.size W w') :
    Calls Tryz.prog 21 #[.agg #[.func (.func F) #[] #[], .func (.func G) #[] #[]], .int .i64 near, .int .i64 way, .func (.func Rf) #[] rc, .slice oo n cap] w fun e w' => e = .returned (.tuple #[.int .i64 (opT er mag sd b near), .int .i64 0]) ∧ Below w.heap.size w w' := by
  have hst : ∀ (p : Addr) (F : Nat) (m : Mode) (w : World), (store p (.func (.func F) #[] #[]) m).run Tryz.prog w = stored Tryz.prog w p (.func (.func F) #[] #[]) m := fun p F m w => run_store _ w p _ m rfl
  have hw0 : 0 ≤ way ∧ way ≤ 3 := by omega
  have hne : way ≠ 0 := by omega
  unfold valV wayV at *
  have CW := fun W => wayOf_any way W
  rw [if_pos hw0, decide_eq_true hw0] at CW
  unfold wayV at CW
  generalize wayF way = K at *
  have HV : Hid _ := CV
  have HR : Hid _ := CR
  have HT : Hid _ := CT
  clear CV CR CT
  have hb1 := bel_alloc w (.cells #[.func (.func F) #[] #[], .func (.func G) #[] #[]] 40)
  have q1 := heap_alloc_new w (.cells #[.func (.func F) #[] #[], .func (.func G) #[] #[]] 40)
  go_enter Tryz.func21, Tryz.ntmps21
  go_wp2_with fail
  generalize w.alloc (.cells #[.func (.func F) #[] #[], .func (.func G) #[] #[]] 40) = x0 at hb1 q1 ⊢
  refine (CW _).mono ?_
  rintro _ w2 ⟨rfl, hb2⟩
  have q2 := heap_alloc_new w2 (.cells #[.nilFunc] 77)
  have y0 := blkC q2 0 rfl
  have y1 := blkF q2 0
  have p1 := (hb2.block _ (Array.getElem?_eq_some_iff.1 q1).1).trans q1
  have hb3 := bel_alloc w2 (.cells #[.func (.func K) #[] #[]] 77)
  have p2 := (hb3.block _ (Array.getElem?_eq_some_iff.1 p1).1).trans p1
  have q3 := heap_alloc_new w2 (.cells #[.func (.func K) #[] #[]] 77)
  have c0 := blkC p2 0 rfl
  have c1 := blkC p2 1 rfl
  have hbx := bel_trans (bel_trans hb1 hb2) hb3
  clear CW q1 p1
  go_wp2_with fail
  generalize w2.alloc (.cells #[.func (.func K) #[] #[]] 77) = x3 at hb3 p2 q3 c0 c1 hbx ⊢
  refine (HV.out _ hbx).mono ?_
  rintro _ w4 ⟨g, q, rfl, hg, hN, hb4, hf⟩
  have hb5 := bel_trans hbx hb4
  have p2 := (hb4.block _ (Array.getElem?_eq_some_iff.1 p2).1).trans p2
  have q3 := (hb4.block _ (Array.getElem?_eq_some_iff.1 q3).1).trans q3
  clear c0 c1 y0 y1 q2
  go_wp2_with fail
  refine (HR.out _ g q hb5 hN hf).mono ?_
  rintro _ w6 ⟨rfl, hb6⟩
  have hb7 := bel_trans hb5 hb6
  have p2 := (hb6.block _ (Array.getElem?_eq_some_iff.1 p2).1).trans p2
  have q3 := (hb6.block _ (Array.getElem?_eq_some_iff.1 q3).1).trans q3
  clear HV HR hN hf
  have hb8 := bel_alloc w6 (.cells #[.bool ng, .int .u64 mag, .int .i64 exp, .bool cut, .bool sd] 50)
  have q8 := heap_alloc_new w6 (.cells #[.bool ng, .int .u64 mag, .int .i64 exp, .bool cut, .bool sd] 50)
  have x1' := blkC q8 1 rfl
  have x4' := blkC q8 4 rfl
  have z4' := blkF q8 4
  have hb9 := bel_trans hb7 hb8
  have hbX := bel_alloc w6 (.cells #[.bool ng, .int .u64 mag, .int .i64 exp, .bool cut, .bool true] 50)
  have qX := heap_alloc_new w6 (.cells #[.bool ng, .int .u64 mag, .int .i64 exp, .bool cut, .bool true] 50)
  have pX := (hbX.block _ (Array.getElem?_eq_some_iff.1 p2).1).trans p2
  have rX := (hbX.block _ (Array.getElem?_eq_some_iff.1 q3).1).trans q3
  have u1 := blkC pX 1 rfl
  have u2 := blkC rX 0 rfl
  have v0 := blkC qX 0 rfl
  have v1 := blkC qX 1 rfl
  have v2 := blkC qX 2 rfl
  have v3 := blkC qX 3 rfl
  have v4 := blkC qX 4 rfl
  have hbY := bel_trans hb7 hbX
  clear q8 qX pX rX p2 q3 hb8 hbX
  by_cases he : er = 0
  · subst he
    by_cases hm : mag = 0
    · subst hm
      cases sd
      · go_wp2
        all_goals refine bodyPost_ret (v := .tuple #[.int .i64 near, .int .i64 0]) (by simp [results, Tryz.results21, go_sem]) rfl ⟨by simp [opT], hb9⟩
      · have e0 : ((0 : Nat) : Int) = 0 := rfl
        have HT := HT.out
        simp only [e0] at HT hbY u1 u2 v0 v1 v2 v3 v4
        go_wp2_with fail
        refine (HT _ hbY).mono ?_
        rintro _ w10 ⟨rfl, hb10⟩
        go_wp2
        all_goals refine bodyPost_ret (v := .tuple #[.int .i64 b, .int .i64 0]) (by simp [results, Tryz.results21, go_sem]) rfl ⟨by simp [opT], bel_trans hbY hb10⟩
    · have hm' : ¬ ((mag : Int) = 0) := by omega
      go_wp2_with fail
      refine (HT.out _ hbY).mono ?_
      rintro _ w10 ⟨rfl, hb10⟩
      go_wp2
      all_goals refine bodyPost_ret (v := .tuple #[.int .i64 b, .int .i64 0]) (by simp [results, Tryz.results21, go_sem]) rfl ⟨by simp [opT, hm], bel_trans hbY hb10⟩
  · go_wp2
    all_goals refine bodyPost_ret (v := .tuple #[.int .i64 near, .int .i64 0]) (by simp [results, Tryz.results21, go_sem]) rfl ⟨by simp [opT, he], hb9⟩
set_option maxRecDepth 100000 in
set_option maxHeartbeats 1000000 in
theorem operate_not (way : Int) (hw : 1 ≤ way ∧ way ≤ 3) (near : Int) (F G Rf : Nat) (rc : Array Value) (oo : Option Addr) (n cap : Nat) (w : World)
    (CV : ∀ W, Below w.heap.size w W → Calls Tryz.prog 48 #[.agg #[.func (.func F) #[] #[], .func (.func G) #[] #[]], .slice oo n cap] W fun x w' => x = .returned (.tuple #[.slice none 0 0, .bool false]) ∧ Below W.heap.size W w') :
    Calls Tryz.prog 21 #[.agg #[.func (.func F) #[] #[], .func (.func G) #[] #[]], .int .i64 near, .int .i64 way, .func (.func Rf) #[] rc, .slice oo n cap] w fun e w' => e = .returned (.tuple #[.int .i64 near, .int .i64 0]) ∧ Below w.heap.size w w' := by
  have hst : ∀ (p : Addr) (F : Nat) (m : Mode) (w : World), (store p (.func (.func F) #[] #[]) m).run Tryz.prog w = stored Tryz.prog w p (.func (.func F) #[] #[]) m := fun p F m w => run_store _ w p _ m rfl
  have hw0 : 0 ≤ way ∧ way ≤ 3 := by omega
  have hne : way ≠ 0 := by omega
  have CW := fun W => wayOf_any way W
  rw [if_pos hw0, decide_eq_true hw0] at CW
  unfold wayV at CW
  generalize wayF way = K at *
  have HV : Hid _ := CV
  clear CV
  have hb1 := bel_alloc w (.cells #[.func (.func F) #[] #[], .func (.func G) #[] #[]] 40)
  have q1 := heap_alloc_new w (.cells #[.func (.func F) #[] #[], .func (.func G) #[] #[]] 40)
  go_enter Tryz.func21, Tryz.ntmps21
  go_wp2_with fail
  generalize w.alloc (.cells #[.func (.func F) #[] #[], .func (.func G) #[] #[]] 40) = x0 at hb1 q1 ⊢
  refine (CW _).mono ?_
  rintro _ w2 ⟨rfl, hb2⟩
  have q2 := heap_alloc_new w2 (.cells #[.nilFunc] 77)
  have y0 := blkC q2 0 rfl
  have y1 := blkF q2 0
  have p1 := (hb2.block _ (Array.getElem?_eq_some_iff.1 q1).1).trans q1
  have hb3 := bel_alloc w2 (.cells #[.func (.func K) #[] #[]] 77)
  have p2 := (hb3.block _ (Array.getElem?_eq_some_iff.1 p1).1).trans p1
  have c0 := blkC p2 0 rfl
  have c1 := blkC p2 1 rfl
  have hbx := bel_trans (bel_trans hb1 hb2) hb3
  clear CW q1 p1
  go_wp2_with fail
  refine (HV.out _ hbx).mono ?_
  rintro _ w4 ⟨rfl, hb4⟩
  go_wp2
  all_goals refine bodyPost_ret (v := .tuple #[.int .i64 near, .int .i64 0]) (by simp [results, Tryz.results21, go_sem]) rfl ⟨rfl, bel_trans hbx hb4⟩
end Go.Proofs.YtobolgmjcebfmaaGreatDoor

/-
  Package round: product, total, the sum's closure, by their contracts.
-/
namespace Go.Proofs.YtobolgmjcebfmaaGreatDoor
open Go Go.RowKit Go.Proofs.YtobolgmjcebfmaaGreatDoor.M
set_option linter.unusedSimpArgs false
set_option linter.unusedVariables false

theorem Nums.at {w : World} {g n : Nat} {q : Nat → NumR} (h : Nums w (some ⟨g, 0, none⟩) n n q) (i : Nat) (hi : i < n) : At3 w g (i * 3) (q i) := by
  obtain ⟨b, off, he, hlt, hc⟩ := h.spot (by omega)
  cases he
  have := hc i hi
  rwa [Nat.zero_add] at this
theorem nums_D {w : World} {g n : Nat} {q : Nat → NumR} {V : Nat → Int} (h : Nums w (some ⟨g, 0, none⟩) n n q) (hf : ∀ i, i < n → Nrm (q i).d (q i).n ∧ Dy (V i) (q i).ng (val (q i).d (q i).n) (q i).e) (i : Nat) (hi : i < n) : DNum w (q i).v (V i) :=
  ⟨_, _, _, _, rfl, (hf i hi).2, _, _, _, _, rfl, (h.at i hi).row, (hf i hi).1, rfl⟩
theorem scale_injF {C D A B : Int} (h : C * 2 ^ 4194304 = A * B) (k : D * 2 ^ 4194304 = A * B) : C = D := Int.eq_of_mul_eq_mul_right (Int.ne_of_gt (two_pos 4194304)) (h.trans k.symm)
theorem keep6B {W w' : World} {g : Nat} {a b c d e f : Value} (h : W.cell? ⟨g, 0, none⟩ = some a ∧ W.cell? ⟨g, 1, none⟩ = some b ∧ W.cell? ⟨g, 2, none⟩ = some c ∧ W.cell? ⟨g, 3, none⟩ = some d ∧ W.cell? ⟨g, 4, none⟩ = some e ∧ W.cell? ⟨g, 5, none⟩ = some f) (hb : Below W.heap.size W w') :
    w'.cell? ⟨g, 0, none⟩ = some a ∧ w'.cell? ⟨g, 1, none⟩ = some b ∧ w'.cell? ⟨g, 2, none⟩ = some c ∧ w'.cell? ⟨g, 3, none⟩ = some d ∧ w'.cell? ⟨g, 4, none⟩ = some e ∧ w'.cell? ⟨g, 5, none⟩ = some f :=
  ⟨cell_keeps h.1 hb, cell_keeps h.2.1 hb, cell_keeps h.2.2.1 hb, cell_keeps h.2.2.2.1 hb, cell_keeps h.2.2.2.2.1 hb, cell_keeps h.2.2.2.2.2 hb⟩
set_option maxRecDepth 100000 in
set_option maxHeartbeats 1000000 in
theorem product_D (g : Nat) (w : World) (q : Nat → NumR) (A B C : Int) (ng : Bool) (m e : Int) (hN : Nums w (some ⟨g, 0, none⟩) 2 2 q) (h0 : DNum w (q 0).v A) (h1 : DNum w (q 1).v B) (oA : Dok A) (oB : Dok B) (hC : C * 2 ^ 4194304 = A * B) (oC : Dok C) (hy : Dy C ng m e) (hT : Tab w) :
    Calls Tryz.prog 26 #[.slice (some ⟨g, 0, none⟩) 2 2] w fun r w' => r = .returned (.tuple #[vlV ng m e false, .int .i64 0]) ∧ Below w.heap.size w w' := by
  have CM : Hid (∀ W, Below w.heap.size w W → Calls Tryz.prog 12 #[(q 0).v, (q 1).v] W fun r w' => ∃ v, r = .returned (.tuple #[v, .int .i64 0]) ∧ DAns W w' C v) := fun W hb => by
    refine (mul_D (h0.keeps hb) (h1.keeps hb) oA oB (hT.keeps hb)).mono ?_
    rintro r w' ⟨v, er, C', rfl, hC', hF⟩
    obtain rfl := scale_injF hC' hC
    obtain ⟨rfl, hA⟩ := hF.yes oC
    exact ⟨v, rfl, hA⟩
  have CV : Hid (∀ W v, Below w.heap.size w W → DNum W v C → Calls Tryz.prog 51 #[v] W fun r w' => r = .returned (vlV ng m e false) ∧ Below W.heap.size W w') := fun W v hb hv => valueOf_D hv oC hy (hT.keeps hb)
  obtain ⟨c0, c1, c2, _⟩ := hN.at 0 (by decide)
  obtain ⟨c3, c4, c5, _⟩ := hN.at 1 (by decide)
  unfold vlV valV NumR.v at *
  generalize (m / 2 ^ vK m).toNat = Q at CV ⊢
  generalize e + vK m = E at CV ⊢
  generalize decide (m % 2 ^ vK m ≠ 0) = R at CV ⊢
  clear h0 h1 hN oA oB hC oC hy hT
  generalize q 0 = x at *
  generalize q 1 = y at *
  obtain ⟨x_g, x_o, x_n, x_c, x_d, x_e⟩ := x
  obtain ⟨y_g, y_o, y_n, y_c, y_d, y_e⟩ := y
  simp only [Nat.zero_mul, Nat.zero_add, Nat.one_mul] at c0 c1 c2 c3 c4 c5 CM
  have q0 := heap_alloc_new w (.cells #[.bool false, .int .u64 0, .int .i64 0, .bool false, .bool false] 50)
  have hb1 := bel_alloc w (.cells #[.bool false, .int .u64 0, .int .i64 0, .bool false, .bool false] 50)
  have d0 := cell_keeps c0 hb1
  have d1 := cell_keeps c1 hb1
  have d2 := cell_keeps c2 hb1
  have d3 := cell_keeps c3 hb1
  have d4 := cell_keeps c4 hb1
  have d5 := cell_keeps c5 hb1
  clear c0 c1 c2 c3 c4 c5
  go_enter Tryz.func26, Tryz.ntmps26
  go_wp2_with fail
  generalize w.alloc (.cells #[.bool false, .int .u64 0, .int .i64 0, .bool false, .bool false] 50) = x1 at q0 hb1 d0 d1 d2 d3 d4 d5 ⊢
  have KK : ∀ W, Below x1.heap.size x1 W → W.cell? ⟨g, 0, none⟩ = some (.bool x_g) ∧ W.cell? ⟨g, 1, none⟩ = some (.slice x_o x_n x_c) ∧ W.cell? ⟨g, 2, none⟩ = some (.int .i64 x_e) ∧ W.cell? ⟨g, 3, none⟩ = some (.bool y_g) ∧ W.cell? ⟨g, 4, none⟩ = some (.slice y_o y_n y_c) ∧ W.cell? ⟨g, 5, none⟩ = some (.int .i64 y_e) := fun W hb => keep6B (W := x1) ⟨d0, d1, d2, d3, d4, d5⟩ hb
  clear d0 d1 d2 d3 d4 d5
  have i0 : (0 : Int) < 2 := by decide
  have i1 : (1 : Int) < 2 := by decide
  have hx0 := (bel_refl x1).drew
  have hx1 := (bel_alloc x1 (.cells #[.bool false, .slice none 0 0, .int .i64 0] 31)).drew
  go_region_held3 (fun W => W.cell? ⟨g, 0, none⟩ = some (.bool x_g) ∧ W.cell? ⟨g, 1, none⟩ = some (.slice x_o x_n x_c) ∧ W.cell? ⟨g, 2, none⟩ = some (.int .i64 x_e) ∧ W.cell? ⟨g, 3, none⟩ = some (.bool y_g) ∧ W.cell? ⟨g, 4, none⟩ = some (.slice y_o y_n y_c) ∧ W.cell? ⟨g, 5, none⟩ = some (.int .i64 y_e))
    (first | assumption | exact KK _ hx0 | exact KK _ hx1 | exact KK _ hw3 | exact KK _ (bel_trans hw3 (bel_alloc _ _)) | exact KK _ (bel_set3' hw3 (Nat.le_refl _) _ _ _) | fail)
    ((go_at_call 12; refine (CM.out _ (by first | exact hb1.drew | exact bel_trans hb1 hx1)).mono ?_; rintro _ w3 ⟨v, rfl, hD⟩; obtain ⟨n_g, n_o, n_n, n_c, n_e, rfl⟩ := dans_shape hD; have hw3 : Below x1.heap.size x1 w3 := (by first | exact bel_trans hx0 hD.below | exact bel_trans hx1 hD.below); first | (have qz : w3.heap[x1.heap.size]? = some (.cells #[.bool false, .slice none 0 0, .int .i64 0] 31 (0, 0)) := (hD.below.block _ (by first | exact (Array.getElem?_eq_some_iff.1 (heap_a1 x1 (.cells #[.bool false, .slice none 0 0, .int .i64 0] 31))).1)).trans (heap_a1 x1 (.cells #[.bool false, .slice none 0 0, .int .i64 0] 31)); have cz0 := blkC qz 0 rfl; have cz1 := blkC qz 1 rfl; have cz2 := blkC qz 2 rfl; have zz0 := blkF qz 0; have zz1 := blkF qz 1; have zz2 := blkF qz 2) | skip))
  · have hb4 := bel_alloc w3 (.cells #[.bool n_g, .slice n_o n_n n_c, .int .i64 n_e] 31)
    have qn := heap_a1 w3 (.cells #[.bool n_g, .slice n_o n_n n_c, .int .i64 n_e] 31)
    have hw4 := bel_trans hw3 hb4
    have q4 := (hw4.block _ (Array.getElem?_eq_some_iff.1 q0).1).trans q0
    have hD4 := hD.num.keeps hb4
    have hb5 := bel_trans hb1 hw4
    have c0 := blkC qn 0 rfl
    have c1 := blkC qn 1 rfl
    have c2 := blkC qn 2 rfl
    go_wp2_with fail
    refine (CV.out _ _ hb5 hD4).mono ?_
    rintro _ w6 ⟨rfl, hb6⟩
    have p1 := (hb6.block _ (Array.getElem?_eq_some_iff.1 q4).1).trans q4
    have hbw := bel_trans hb5 hb6
    have x0 := blkC p1 0 rfl
    have x1' := blkC p1 1 rfl
    have x2 := blkC p1 2 rfl
    have x3 := blkC p1 3 rfl
    have x4 := blkC p1 4 rfl
    have z0 := blkF p1 0
    have z1 := blkF p1 1
    have z2 := blkF p1 2
    have z3 := blkF p1 3
    have z4 := blkF p1 4
    go_wp2
    all_goals refine bodyPost_ret (v := .tuple #[.agg #[.bool ng, .int .u64 Q, .int .i64 E, .bool R, .bool false], .int .i64 0]) (by simp [results, Tryz.results26, go_sem, x0, x1', x2, x3, x4]) rfl ⟨rfl, ?_⟩
    all_goals exact (wr5 w6 w.heap.size _ _ _ _ _).below hbw hbw.size (Nat.le_refl _)
  · have hw4 := bel_set3' (o0 := 0) (o1 := 1) (o2 := 2) hw3 (Nat.le_refl _) (.bool n_g) (.slice n_o n_n n_c) (.int .i64 n_e)
    have qn := heap_set (heap_set (heap_set qz 0 (.bool n_g)) 1 (.slice n_o n_n n_c)) 2 (.int .i64 n_e)
    have q4 := (hw4.block _ (Array.getElem?_eq_some_iff.1 q0).1).trans q0
    have hD4 := (dans_res3 hD hx1 (Nat.le_refl _) (Array.getElem?_eq_some_iff.1 (heap_a1 x1 (.cells #[.bool false, .slice none 0 0, .int .i64 0] 31))).1 (.bool n_g) (.slice n_o n_n n_c) (.int .i64 n_e)).num
    have hb5 := bel_trans hb1 hw4
    clear cz0 cz1 cz2 zz0 zz1 zz2 qz
    have c0 := blkC qn 0 rfl
    have c1 := blkC qn 1 rfl
    have c2 := blkC qn 2 rfl
    go_wp2_with fail
    refine (CV.out _ _ hb5 hD4).mono ?_
    rintro _ w6 ⟨rfl, hb6⟩
    have p1 := (hb6.block _ (Array.getElem?_eq_some_iff.1 q4).1).trans q4
    have hbw := bel_trans hb5 hb6
    have x0 := blkC p1 0 rfl
    have x1' := blkC p1 1 rfl
    have x2 := blkC p1 2 rfl
    have x3 := blkC p1 3 rfl
    have x4 := blkC p1 4 rfl
    have z0 := blkF p1 0
    have z1 := blkF p1 1
    have z2 := blkF p1 2
    have z3 := blkF p1 3
    have z4 := blkF p1 4
    go_wp2
    all_goals refine bodyPost_ret (v := .tuple #[.agg #[.bool ng, .int .u64 Q, .int .i64 E, .bool R, .bool false], .int .i64 0]) (by simp [results, Tryz.results26, go_sem, x0, x1', x2, x3, x4]) rfl ⟨rfl, ?_⟩
    all_goals exact (wr5 w6 w.heap.size _ _ _ _ _).below hbw hbw.size (Nat.le_refl _)
theorem okR_nil {x : NumR} (ok : okR x = true) : x.V = 0 ↔ x.n = 0 := by
  have hd := (okR_dy ok).1
  rw [hd.eq_zero]
  constructor
  · intro h
    rcases Nat.eq_zero_or_pos x.n with h0 | h0
    · exact h0
    · have := val_pos (okR_sane ok).1 h0
      omega
  · intro h
    rw [h]; rfl
set_option maxRecDepth 100000 in
set_option maxHeartbeats 1000000 in
theorem total_val {w : World} {v : Value} {V way : Int} {nt ng : Bool} {m e : Int} (hx : DNum w v V) (ok : Dok V) (hy : Dy V ng m e) (hT : Tab w) (h : ¬ (V = 0 ∧ way = 1 ∧ nt = false)) :
    Calls Tryz.prog 25 #[v, .int .i64 way, .bool nt] w fun r w' => r = .returned (vlV ng m e false) ∧ Below w.heap.size w w' := by
  have CV : Hid (∀ W, Below w.heap.size w W → Calls Tryz.prog 51 #[v] W fun r w' => r = .returned (vlV ng m e false) ∧ Below W.heap.size W w') := fun W hb => valueOf_D (hx.keeps hb) ok hy (hT.keeps hb)
  obtain ⟨x, rfl, hR, hok, rfl⟩ := hx.open ok
  have hnil := okR_nil hok
  have hle := hR.le
  have hma := hR.max
  unfold vlV valV NumR.v at *
  generalize (m / 2 ^ vK m).toNat = Q at CV ⊢
  generalize e + vK m = E at CV ⊢
  generalize decide (m % 2 ^ vK m ≠ 0) = R at CV ⊢
  rw [hnil] at h
  clear hnil hok hx ok hy
  obtain ⟨x_g, x_o, x_n, x_c, x_d, x_e⟩ := x
  simp only at *
  have hb2 := bel_alloc2 w (.cells #[.bool x_g, .slice x_o x_n x_c, .int .i64 x_e] 31) (.cells #[.bool false, .int .u64 0, .int .i64 0, .bool false, .bool false] 50)
  have q1 := heap_b2 w (.cells #[.bool x_g, .slice x_o x_n x_c, .int .i64 x_e] 31) (.cells #[.bool false, .int .u64 0, .int .i64 0, .bool false, .bool false] 50)
  go_enter Tryz.func25, Tryz.ntmps25
  by_cases h1 : x_n = 0
  · by_cases h2 : way = 1
    · obtain rfl : nt = true := by
        cases nt
        · exact absurd ⟨h1, h2, rfl⟩ h
        · rfl
      subst h1 h2
      go_wp2_with fail
      refine (CV.out _ hb2).mono ?_
      rintro _ w3 ⟨rfl, hb3⟩
      have p1 := (hb3.block _ (Array.getElem?_eq_some_iff.1 q1).1).trans q1
      have hbw := bel_trans hb2 hb3
      have x0 := blkC p1 0 rfl
      have x1 := blkC p1 1 rfl
      have x2 := blkC p1 2 rfl
      have x3 := blkC p1 3 rfl
      have x4 := blkC p1 4 rfl
      have z0 := blkF p1 0
      have z1 := blkF p1 1
      have z2 := blkF p1 2
      have z3 := blkF p1 3
      have z4 := blkF p1 4
      go_wp2
      all_goals refine bodyPost_ret (v := .agg #[.bool ng, .int .u64 Q, .int .i64 E, .bool R, .bool false]) (by simp [results, Tryz.results25, go_sem, x0, x1, x2, x3, x4]) rfl ⟨rfl, ?_⟩
      all_goals exact (wr5 w3 (w.heap.size + 1) _ _ _ _ _).below hbw hbw.size (by omega)
    · subst h1
      go_wp2_with fail
      refine (CV.out _ hb2).mono ?_
      rintro _ w3 ⟨rfl, hb3⟩
      have p1 := (hb3.block _ (Array.getElem?_eq_some_iff.1 q1).1).trans q1
      have hbw := bel_trans hb2 hb3
      have x0 := blkC p1 0 rfl
      have x1 := blkC p1 1 rfl
      have x2 := blkC p1 2 rfl
      have x3 := blkC p1 3 rfl
      have x4 := blkC p1 4 rfl
      have z0 := blkF p1 0
      have z1 := blkF p1 1
      have z2 := blkF p1 2
      have z3 := blkF p1 3
      have z4 := blkF p1 4
      go_wp2
      all_goals refine bodyPost_ret (v := .agg #[.bool ng, .int .u64 Q, .int .i64 E, .bool R, .bool false]) (by simp [results, Tryz.results25, go_sem, x0, x1, x2, x3, x4]) rfl ⟨rfl, ?_⟩
      all_goals exact (wr5 w3 (w.heap.size + 1) _ _ _ _ _).below hbw hbw.size (by omega)
  · have h1' : ¬ ((x_n : Int) = 0) := by omega
    go_wp2_with fail
    refine (CV.out _ hb2).mono ?_
    rintro _ w3 ⟨rfl, hb3⟩
    have p1 := (hb3.block _ (Array.getElem?_eq_some_iff.1 q1).1).trans q1
    have hbw := bel_trans hb2 hb3
    have x0 := blkC p1 0 rfl
    have x1 := blkC p1 1 rfl
    have x2 := blkC p1 2 rfl
    have x3 := blkC p1 3 rfl
    have x4 := blkC p1 4 rfl
    have z0 := blkF p1 0
    have z1 := blkF p1 1
    have z2 := blkF p1 2
    have z3 := blkF p1 3
    have z4 := blkF p1 4
    go_wp2
    all_goals refine bodyPost_ret (v := .agg #[.bool ng, .int .u64 Q, .int .i64 E, .bool R, .bool false]) (by simp [results, Tryz.results25, go_sem, x0, x1, x2, x3, x4]) rfl ⟨rfl, ?_⟩
    all_goals exact (wr5 w3 (w.heap.size + 1) _ _ _ _ _).below hbw hbw.size (by omega)
set_option maxRecDepth 100000 in
set_option maxHeartbeats 1000000 in
theorem total_neg {w : World} {v : Value} (hx : DNum w v 0) :
    Calls Tryz.prog 25 #[v, .int .i64 1, .bool false] w fun r w' => r = .returned (valV true 0 0 false true) ∧ Below w.heap.size w w' := by
  obtain ⟨x, rfl, hR, hok, hV⟩ := hx.open dok_zero
  have hn := (okR_nil hok).1 hV
  unfold valV NumR.v at *
  clear hok hx hV hR
  obtain ⟨x_g, x_o, x_n, x_c, x_d, x_e⟩ := x
  simp only at *
  subst hn
  go_enter Tryz.func25, Tryz.ntmps25
  go_wp2_with fail
  all_goals refine bodyPost_ret (v := .agg #[.bool true, .int .u64 0, .int .i64 0, .bool false, .bool true]) (by simp [results, Tryz.results25, go_sem]) rfl ⟨rfl, bel_alloc2 _ _ _⟩
end Go.Proofs.YtobolgmjcebfmaaGreatDoor

/-
  Package round: operations on binary64 in the ways other than Near, by their contracts.
-/
namespace Go.Proofs.YtobolgmjcebfmaaGreatDoor
open Go Go.RowKit Go.Proofs.YtobolgmjcebfmaaGreatDoor.M
set_option linter.unusedSimpArgs false
set_option linter.unusedVariables false

theorem operate_fin (way : Int) (hw : 1 ≤ way ∧ way ≤ 3) (near : Int) (Rf : Nat) (rc : Array Value) (g n : Nat) (hn : n ≤ 100) (d : Nat → Int) (w : World) (hR : Row w (some ⟨g, 0, none⟩) n n d) (hp : ∀ i, i < n → pok (d i) = true) (H : Hold4 w) (ng : Bool) (mag : Nat) (exp : Int) (cut sd : Bool) (hm : mag < 18446744073709551616) (he : -4500000 ≤ exp ∧ exp ≤ 4500000)
    (hER : ∀ (cap : Array Value) (w : World), (callFunc Rf cap).run Tryz.prog w = .ok (.enter Rf cap) w)
    (CR : ∀ W g q, Below w.heap.size w W → Nums W (some ⟨g, 0, none⟩) n n q → (∀ i, i < n → Nrm (q i).d (q i).n ∧ Dy (patV (d i)) (q i).ng (val (q i).d (q i).n) (q i).e) → Calls Tryz.prog Rf (#[.slice (some ⟨g, 0, none⟩) n n] ++ rc) W fun e w' => e = .returned (.tuple #[valV ng mag exp cut sd, .int .i64 0]) ∧ Below W.heap.size W w') :
    Calls Tryz.prog 21 #[.agg #[.func (.func 11) #[] #[], .func (.func 42) #[] #[]], .int .i64 near, .int .i64 way, .func (.func Rf) #[] rc, .slice (some ⟨g, 0, none⟩) n n] w fun e w' => e = .returned (.tuple #[.int .i64 (opT 0 mag sd (r64 way ng true mag exp cut).1 near), .int .i64 0]) ∧ Below w.heap.size w w' := by
  have hEF : ∀ (cap : Array Value) (w : World), (callFunc 11 cap).run Tryz.prog w = .ok (.enter 11 cap) w := by
    intro cap w
    simp [go_sem]
  have hEG : ∀ (cap : Array Value) (w : World), (callFunc 42 cap).run Tryz.prog w = .ok (.enter 42 cap) w := by
    intro cap w
    simp [go_sem]
  exact operate_go way hw near _ _ Rf rc _ n n w (fun i => patV (d i)) ng mag exp cut sd 0 _ _ hEG hER
    (fun W hb => (values_ok _ _ _ n n d _ W (hR.keeps hb) (by omega) hEF (fun i hi W' hb' => of_ok (hp i hi) ((H.keeps hb).keeps hb'))).mono fun r w' h => by
      obtain ⟨g, q, e1, e2, e3, e4, e5⟩ := h
      exact ⟨g, q, e1, e2, e3, e4, e5⟩)
    CR (fun W hb => binary64_any way (by omega) ng true mag exp cut W (H.keeps hb).env hm he)
theorem operate_inf (way : Int) (hw : 1 ≤ way ∧ way ≤ 3) (near : Int) (Rf : Nat) (rc : Array Value) (g n : Nat) (hn : n ≤ 100) (d : Nat → Int) (w : World) (hR : Row w (some ⟨g, 0, none⟩) n n d) (K : Nat) (hK : K < n) (hp : ∀ i, i < K → pok (d i) = true) (hq : pok (d K) = false) (H : Hold4 w) :
    Calls Tryz.prog 21 #[.agg #[.func (.func 11) #[] #[], .func (.func 42) #[] #[]], .int .i64 near, .int .i64 way, .func (.func Rf) #[] rc, .slice (some ⟨g, 0, none⟩) n n] w fun e w' => e = .returned (.tuple #[.int .i64 near, .int .i64 0]) ∧ Below w.heap.size w w' := by
  have hEF : ∀ (cap : Array Value) (w : World), (callFunc 11 cap).run Tryz.prog w = .ok (.enter 11 cap) w := by
    intro cap w
    simp [go_sem]
  exact operate_not way hw near _ _ Rf rc _ n n w (fun W hb => values_no _ _ _ n n d (fun i => patV (d i)) W (hR.keeps hb) (by omega) K hK hEF (fun i hi W' hb' => of_ok (hp i hi) ((H.keeps hb).keeps hb')) (fun W' hb' => of_no hq ((H.keeps hb).keeps hb')))
end Go.Proofs.YtobolgmjcebfmaaGreatDoor
