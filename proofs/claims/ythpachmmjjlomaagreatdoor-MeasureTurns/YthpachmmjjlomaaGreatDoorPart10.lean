/-
  Parts of the proof, one behind another.
-/
import Derived.Test.YthpachmmjjlomaaGreatDoorPart9
import Derived.Test.YthpachmmjjlomaaGreatDoorPart1
namespace Go.Proofs.YthpachmmjjlomaaGreatDoor
open Go Go.RowKit Go.Proofs.YthpachmmjjlomaaGreatDoor.M Ieee
set_option linter.unusedSimpArgs false
set_option linter.unusedVariables false
theorem nan_canon : cls 9221120237041090561 = 4 := by decide
theorem FW.nan {x : Nat} (h : NanW x) : FW 9221120237041090561 x := .inr ⟨rfl, h⟩
theorem FW.pat {p : Int} (h : cls p ≠ 4) (hp : rng p) : FW p (wd p) := .inl ⟨h, hp, rfl⟩
theorem FW.read_nan {p : Int} {x : Nat} (h : FW p x) (h4 : cls p = 4) : ∃ s t, Ieee.double.read x = .nan s t := by
  rcases h with ⟨h, _⟩ | ⟨_, h⟩
  . exact absurd h4 h
  . exact M.read_nan Ieee.double dOk x (by rw [dSign, dInf]; exact h.2)
theorem FW.of {p : Int} {x : Nat} (h : FW p x) (h4 : cls p ≠ 4) : rng p ∧ x = wd p ∧ 0 <= rg p ∧ rg p <= 9218868437227405312 := by
  rcases h with ⟨_, h1, h2⟩ | ⟨h, _⟩
  . obtain ⟨r0, _⟩ := rg_parts h1
    refine ⟨h1, h2, r0, ?_⟩
    rcases Int.lt_or_le 9218868437227405312 (rg p) with g | g
    . exact absurd ((cls_rg h1).1.2 g) h4
    . exact g
  . rw [h] at h4; exact absurd nan_canon h4
theorem nearP_pat {S : Int} (h : S ≠ 0) : rng (nearP S) ∧ cls (nearP S) ≠ 4 := by
  obtain ⟨A, r0, left, _, _, e⟩ := nearP_rung h
  rw [e]
  obtain ⟨g1, g2⟩ := rTo_range 0 (decide (S < 0)) r0 left
  exact patS_rng g1 g2
theorem add_FW {p q : Int} {x y : Nat} (hx : FW p x) (hy : FW q y) : (∃ z, Ieee.double.add x y = some z ∧ FW (fsum p q) z) ∨ (Ieee.double.add x y = none ∧ fsum p q = 9221120237041090561) := by
  by_cases h4 : cls p = 4 ∨ cls q = 4
  . right
    refine ⟨?_, by unfold fsum; rw [if_pos h4]⟩
    unfold Format.add
    rcases h4 with h | h
    . obtain ⟨s, t, e⟩ := hx.read_nan h
      rw [e]
      rfl
    . obtain ⟨s, t, e⟩ := hy.read_nan h
      rw [e]
      cases Ieee.double.read x <;> rfl
  . have h4p : cls p ≠ 4 := fun h => h4 (.inl h)
    have h4q : cls q ≠ 4 := fun h => h4 (.inr h)
    obtain ⟨rp, rfl, p0, p1⟩ := hx.of h4p
    obtain ⟨rq, rfl, q0, q1⟩ := hy.of h4q
    unfold fsum
    rw [if_neg h4]
    by_cases ip : rg p = 9218868437227405312
    . rw [if_pos ip]
      have ep := read_inf64 rp ip
      by_cases iq : rg q = 9218868437227405312
      . have eq := read_inf64 rq iq
        by_cases hs : decide (p < 0) = decide (q < 0)
        . left
          refine ⟨wd p, ?_, ?_⟩
          . unfold Format.add
            rw [ep, eq]
            unfold Datum.sum
            dsimp only
            rw [if_pos hs]
            show some (Ieee.double.write (.infinity (decide (p < 0)))) = _
            rw [write_inf64 rp ip]
          . rw [if_neg (fun h => h.2 hs)]
            exact FW.pat h4p rp
        . right
          refine ⟨?_, by rw [if_pos ⟨iq, hs⟩]⟩
          unfold Format.add
          rw [ep, eq]
          unfold Datum.sum
          dsimp only
          rw [if_neg hs]
          rfl
      . left
        obtain ⟨m, u, eq, _⟩ := read_wd rq ((pok_rg rq).2 (by omega))
        refine ⟨wd p, ?_, ?_⟩
        . unfold Format.add
          rw [ep, eq]
          show some (Ieee.double.write (.infinity (decide (p < 0)))) = _
          rw [write_inf64 rp ip]
        . rw [if_neg (fun h => iq h.1)]
          exact FW.pat h4p rp
    . rw [if_neg ip]
      have pp := (pok_rg rp).2 (by omega)
      by_cases iq : rg q = 9218868437227405312
      . left
        rw [if_pos iq]
        have eq := read_inf64 rq iq
        obtain ⟨m, u, ep, _⟩ := read_wd rp pp
        refine ⟨wd q, ?_, FW.pat h4q rq⟩
        unfold Format.add
        rw [ep, eq]
        show some (Ieee.double.write (.infinity (decide (q < 0)))) = _
        rw [write_inf64 rq iq]
      . left
        rw [if_neg iq]
        refine ⟨_, fadd_fin rp rq pp ((pok_rg rq).2 (by omega)), ?_⟩
        by_cases hS : patV p + patV q = 0
        . rw [if_pos hS]
          obtain ⟨g1, g2⟩ := patS_rng (ng := decide (p < 0) && decide (q < 0)) (r := 0) (by decide) (by decide)
          exact FW.pat g2 g1
        . rw [if_neg hS]
          exact FW.pat (nearP_pat hS).2 (nearP_pat hS).1
theorem run_fsum {P : Program} (t : TypeId) {p q : Int} {x y : Nat} (hx : FW p x) (hy : FW q y) (w : World) :
    ∃ z w', (binOp .add t (.float .f64 x) (.float .f64 y)).run P w = .ok (.float .f64 z) w' ∧ FW (fsum p q) z ∧ (w' = w ∨ w' = w.drew) := by
  obtain ⟨z, w', h, hz⟩ := run_farith (P := P) .add (.inl rfl) t x y w
  refine ⟨z, w', h, ?_⟩
  have hf : floatBits .add .f64 x y = Ieee.double.add x y := rfl
  rw [hf] at hz
  rcases add_FW hx hy with ⟨z', e1, e2⟩ | ⟨e1, e2⟩
  . rcases hz with ⟨h1, h2⟩ | ⟨h1, _⟩
    . rw [e1] at h1; cases h1; exact ⟨e2, .inl h2⟩
    . rw [e1] at h1; cases h1
  . rcases hz with ⟨h1, _⟩ | ⟨_, h2, h3⟩
    . rw [e1] at h1; cases h1
    . rw [e2]; exact ⟨FW.nan h2, .inr h3⟩
theorem read_same {x y : Nat} (h1 : x % Ieee.double.signWeight = y % Ieee.double.signWeight) (h2 : (x / Ieee.double.signWeight % 2 == 1) = !(y / Ieee.double.signWeight % 2 == 1)) : Ieee.double.read x = (Ieee.double.read y).opposite := by
  unfold Format.read
  dsimp only
  rw [h1, h2]
  split
  . rfl
  . split
    . rfl
    . split
      . rfl
      . rfl
theorem read_neg {q : Int} (hq : rng q) (h4 : cls q ≠ 4) : Ieee.double.read (wd (neg q)) = (Ieee.double.read (wd q)).opposite := by
  have hn : neg q = if q < 0 then q + 9223372036854775808 else q - 9223372036854775808 := by unfold neg; rw [if_neg h4]
  refine read_same ?_ ?_
  . rw [dSign, hn]
    unfold rng at hq
    unfold wd
    split <;> omega
  . rw [dSign, wd_neg (rng_neg hq), wd_neg hq, hn]
    unfold rng at hq
    by_cases h : q < 0
    . rw [if_pos h, decide_eq_false (p := q + 9223372036854775808 < 0) (by omega), decide_eq_true h]; rfl
    . rw [if_neg h, decide_eq_true (p := q - 9223372036854775808 < 0) (by omega), decide_eq_false h]; rfl
theorem neg_nan {q : Int} (h : cls q = 4) : neg q = 9221120237041090561 := by unfold neg; rw [if_pos h]
theorem sub_FW {p q : Int} {x y : Nat} (hx : FW p x) (hy : FW q y) : (∃ z, Ieee.double.sub x y = some z ∧ FW (fsum p (neg q)) z) ∨ (Ieee.double.sub x y = none ∧ fsum p (neg q) = 9221120237041090561) := by
  by_cases h4 : cls q = 4
  . right
    refine ⟨?_, by unfold fsum; rw [neg_nan h4, if_pos (.inr nan_canon)]⟩
    obtain ⟨s, t, e⟩ := hy.read_nan h4
    unfold Format.sub
    rw [e]
    cases Ieee.double.read x <;> rfl
  . obtain ⟨rq, rfl, _, _⟩ := hy.of h4
    have hs : Ieee.double.sub x (wd q) = Ieee.double.add x (wd (neg q)) := by
      unfold Format.sub Format.add
      rw [read_neg rq h4]
    rw [hs]
    exact add_FW hx (FW.pat (cls_neg rq h4) (rng_neg rq))
theorem run_fdiff {P : Program} (t : TypeId) {p q : Int} {x y : Nat} (hx : FW p x) (hy : FW q y) (w : World) :
    ∃ z w', (binOp .sub t (.float .f64 x) (.float .f64 y)).run P w = .ok (.float .f64 z) w' ∧ FW (fsum p (neg q)) z ∧ (w' = w ∨ w' = w.drew) := by
  obtain ⟨z, w', h, hz⟩ := run_farith (P := P) .sub (.inr (.inl rfl)) t x y w
  refine ⟨z, w', h, ?_⟩
  have hf : floatBits .sub .f64 x y = Ieee.double.sub x y := rfl
  rw [hf] at hz
  rcases sub_FW hx hy with ⟨z', e1, e2⟩ | ⟨e1, e2⟩
  . rcases hz with ⟨h1, h2⟩ | ⟨h1, _⟩
    . rw [e1] at h1; cases h1; exact ⟨e2, .inl h2⟩
    . rw [e1] at h1; cases h1
  . rcases hz with ⟨h1, _⟩ | ⟨_, h2, h3⟩
    . rw [e1] at h1; cases h1
    . rw [e2]; exact ⟨FW.nan h2, .inr h3⟩
def xsg (p q : Int) : Bool := decide (p < 0) != decide (q < 0)
def fsize (p q : Int) : Int := sg (xsg p q) (patV p * patV q / 2 ^ 4194304)
def fprod (p q : Int) : Int :=
  if cls p = 4 ∨ cls q = 4 then 9221120237041090561
  else if rg p = 9218868437227405312 ∨ rg q = 9218868437227405312 then (if rg p = 0 ∨ rg q = 0 then 9221120237041090561 else patS (xsg p q) 9218868437227405312)
  else if fsize p q = 0 then patS (xsg p q) 0 else nearP (sg (xsg p q) (fsize p q))
theorem fsize_of {g : Bool} {D Z C : Int} (hZ : 0 < Z) (h : sg g D * Z = C) : sg g (C / Z) = D := by
  rw [<- h, Int.mul_ediv_cancel _ (Int.ne_of_gt hZ)]
  cases g
  . rfl
  . exact Int.neg_neg D
theorem nearP_sg {g : Bool} {D : Int} {r0 : Nat} {left : Int} (h0 : 0 < D) (hR : Rung D r0 left) : nearP (sg g D) = patS g (rTo 0 g r0 left) := by
  have hd : decide (sg g D < 0) = g := by
    cases g
    . exact decide_eq_false (by show ¬ D < 0; omega)
    . exact decide_eq_true (by show -D < 0; omega)
  have hn : sg g D ≠ 0 := by
    cases g
    . show D ≠ 0; omega
    . show -D ≠ 0; omega
  obtain ⟨A, s0, k, e1, e2, e3⟩ := nearP_rung hn
  rw [hd] at e1 e3
  have := sg_inj e1
  subst this
  obtain ⟨h1, h2⟩ := hR.unique e2
  subst h1 h2
  exact e3
theorem fmul_fin {p q : Int} (hp : rng p) (hq : rng q) (pp : pok p = true) (pq : pok q = true) : Ieee.double.mul (wd p) (wd q) = some (wd (if fsize p q = 0 then patS (xsg p q) 0 else nearP (sg (xsg p q) (fsize p q)))) := by
  obtain ⟨D, d0, d1, d2, d3⟩ := fmul hp hq pp pq
  have hf : fsize p q = D := fsize_of (two_pos 4194304) d1
  rw [hf]
  by_cases h : D = 0
  . rw [if_pos h]; exact d2 h
  . rw [if_neg h]
    obtain ⟨r0, left, hR, hE⟩ := d3 h
    rw [hE, nearP_sg (by omega) hR]
    rfl
theorem write_infS (g : Bool) : Ieee.double.write (.infinity g) = wd (patS g 9218868437227405312) := by
  unfold Format.write
  dsimp only
  rw [dInf]
  exact wd_word (ng := g) (r := 9218868437227405312) (by decide) (by decide)
theorem mag_zero {q : Int} {m u : Nat} (hq : rng q) (pq : pok q = true) (h : patV q = sg (decide (q < 0)) ((m : Int) * pw (-1074 + (u : Int)))) : m = 0 ↔ rg q = 0 := by
  have e := patV_dec hq pq
  rw [h] at e
  have e2 := sg_inj e
  obtain ⟨r0, r1⟩ := rg_lt hq pq
  constructor
  . intro hm
    rw [hm] at e2
    have e3 : vS (rg q).toNat = 0 := by rw [<- e2]; simp
    rcases Nat.eq_zero_or_pos (rg q).toNat with g | g
    . omega
    . have := vS_lt g
      rw [vS_zero, e3] at this
      exact absurd this (Int.lt_irrefl _)
  . intro hr
    rw [hr] at e2
    have e3 : (m : Int) * pw (-1074 + (u : Int)) = 0 := by rw [e2]; exact vS_zero
    have := (eq_zero_iff (pw_pos (-1074 + (u : Int)))).2 e3
    omega
theorem mul_FW {p q : Int} {x y : Nat} (hx : FW p x) (hy : FW q y) : (∃ z, Ieee.double.mul x y = some z ∧ FW (fprod p q) z) ∨ (Ieee.double.mul x y = none ∧ fprod p q = 9221120237041090561) := by
  by_cases h4 : cls p = 4 ∨ cls q = 4
  . right
    refine ⟨?_, by unfold fprod; rw [if_pos h4]⟩
    unfold Format.mul
    rcases h4 with h | h
    . obtain ⟨s, t, e⟩ := hx.read_nan h
      rw [e]
      rfl
    . obtain ⟨s, t, e⟩ := hy.read_nan h
      rw [e]
      cases Ieee.double.read x <;> rfl
  . have h4p : cls p ≠ 4 := fun h => h4 (.inl h)
    have h4q : cls q ≠ 4 := fun h => h4 (.inr h)
    obtain ⟨rp, rfl, p0, p1⟩ := hx.of h4p
    obtain ⟨rq, rfl, q0, q1⟩ := hy.of h4q
    have hI := patS_rng (ng := xsg p q) (r := 9218868437227405312) (by decide) (by decide)
    have hX : (decide (p < 0) ^^ decide (q < 0)) = xsg p q := xor_ne _ _
    have hX2 : (decide (q < 0) ^^ decide (p < 0)) = xsg p q := by rw [<- hX]; cases decide (p < 0) <;> cases decide (q < 0) <;> rfl
    unfold fprod
    rw [if_neg h4]
    by_cases ip : rg p = 9218868437227405312
    . rw [if_pos (.inl ip)]
      have ep := read_inf64 rp ip
      by_cases iq : rg q = 9218868437227405312
      . left
        rw [if_neg (by omega)]
        refine ⟨_, ?_, FW.pat hI.2 hI.1⟩
        unfold Format.mul
        rw [ep, read_inf64 rq iq]
        show some (Ieee.double.write (.infinity (decide (p < 0) ^^ decide (q < 0)))) = _
        rw [write_infS, hX]
      . have pq := (pok_rg rq).2 (by omega)
        obtain ⟨m, u, eq, vq⟩ := read_wd rq pq
        have hz := mag_zero rq pq vq
        by_cases hm : m = 0
        . right
          refine ⟨?_, by rw [if_pos (.inr (hz.1 hm))]⟩
          unfold Format.mul
          rw [ep, eq, hm]
          rfl
        . left
          rw [if_neg (fun h => by rcases h with h | h; omega; exact hm (hz.2 h))]
          refine ⟨_, ?_, FW.pat hI.2 hI.1⟩
          unfold Format.mul
          rw [ep, eq]
          unfold Datum.product
          dsimp only
          rw [if_neg hm]
          show some (Ieee.double.write (.infinity (decide (p < 0) ^^ decide (q < 0)))) = _
          rw [write_infS, hX]
    . have pp := (pok_rg rp).2 (by omega)
      by_cases iq : rg q = 9218868437227405312
      . rw [if_pos (.inr iq)]
        obtain ⟨m, u, ep, vp⟩ := read_wd rp pp
        have hz := mag_zero rp pp vp
        have eq := read_inf64 rq iq
        by_cases hm : m = 0
        . right
          refine ⟨?_, by rw [if_pos (.inl (hz.1 hm))]⟩
          unfold Format.mul
          rw [ep, eq, hm]
          rfl
        . left
          rw [if_neg (fun h => by rcases h with h | h; exact hm (hz.2 h); omega)]
          refine ⟨_, ?_, FW.pat hI.2 hI.1⟩
          unfold Format.mul
          rw [ep, eq]
          unfold Datum.product
          dsimp only
          rw [if_neg hm]
          show some (Ieee.double.write (.infinity (decide (q < 0) ^^ decide (p < 0)))) = _
          rw [write_infS, hX2]
      . left
        rw [if_neg (by omega)]
        refine ⟨_, fmul_fin rp rq pp ((pok_rg rq).2 (by omega)), ?_⟩
        by_cases hS : fsize p q = 0
        . rw [if_pos hS]
          obtain ⟨g1, g2⟩ := patS_rng (ng := xsg p q) (r := 0) (by decide) (by decide)
          exact FW.pat g2 g1
        . rw [if_neg hS]
          have hn : sg (xsg p q) (fsize p q) ≠ 0 := by
            generalize fsize p q = D at *
            cases xsg p q
            . exact hS
            . show -D ≠ 0; omega
          exact FW.pat (nearP_pat hn).2 (nearP_pat hn).1
theorem run_fprod {P : Program} (t : TypeId) {p q : Int} {x y : Nat} (hx : FW p x) (hy : FW q y) (w : World) :
    ∃ z w', (binOp .mul t (.float .f64 x) (.float .f64 y)).run P w = .ok (.float .f64 z) w' ∧ FW (fprod p q) z ∧ (w' = w ∨ w' = w.drew) := by
  obtain ⟨z, w', h, hz⟩ := run_farith (P := P) .mul (.inr (.inr (.inl rfl))) t x y w
  refine ⟨z, w', h, ?_⟩
  have hf : floatBits .mul .f64 x y = Ieee.double.mul x y := rfl
  rw [hf] at hz
  rcases mul_FW hx hy with ⟨z', e1, e2⟩ | ⟨e1, e2⟩
  . rcases hz with ⟨h1, h2⟩ | ⟨h1, _⟩
    . rw [e1] at h1; cases h1; exact ⟨e2, .inl h2⟩
    . rw [e1] at h1; cases h1
  . rcases hz with ⟨h1, _⟩ | ⟨_, h2, h3⟩
    . rw [e1] at h1; cases h1
    . rw [e2]; exact ⟨FW.nan h2, .inr h3⟩
theorem wd_told {a : Int} (ha : rng a) : FW (told a) (wd a) := by
  unfold told
  by_cases h : cls a = 4
  . rw [if_pos h]
    refine FW.nan ⟨?_, ?_⟩
    . unfold wd; omega
    . exact (cls4_rung ha).1 h
  . rw [if_neg h]
    exact FW.pat h ha
theorem patW_rng {x : Nat} (h : x < 18446744073709551616) : rng (patW x) ∧ wd (patW x) = x := by
  unfold patW rng wd
  split
  . exact ⟨by omega, by omega⟩
  . exact ⟨by omega, by omega⟩
theorem of_FW {p : Int} {x : Nat} (h : FW p x) (w : World) : Calls Tryz.prog 86 #[.float .f64 x] w fun e w' => e = .returned (.int .i64 p) ∧ w' = w := by
  rcases h with ⟨h4, hp, rfl⟩ | ⟨rfl, hN⟩
  . have := bitsOf p w hp
    have e : told p = p := by unfold told; rw [if_neg h4]
    rwa [e] at this
  . obtain ⟨h1, h2⟩ := patW_rng hN.1
    have := bitsOf (patW x) w h1
    rw [h2] at this
    have e : told (patW x) = 9221120237041090561 := by
      unfold told
      rw [if_pos ((cls4_rung h1).2 (by rw [h2]; exact hN.2))]
    rwa [e] at this
end Go.Proofs.YthpachmmjjlomaaGreatDoor
namespace Go.Proofs.YthpachmmjjlomaaGreatDoor.M
set_option linter.unusedVariables false
def Fl (n : Int) : Prop := ∃ k : Nat, (2 ^ k : Int) ∣ n ∧ (n.natAbs : Int) < 9007199254740992 * 2 ^ k
def Nr (S h : Int) : Prop := Fl h ∧ ∀ f, Fl f -> (h - S).natAbs <= (f - S).natAbs
theorem p2 (k : Nat) : (0 : Int) < 2 ^ k := Int.pow_pos (by decide)
theorem p2s (k : Nat) : (2 : Int) ^ (k + 1) = 2 * 2 ^ k := by rw [Int.pow_succ, Int.mul_comm]
theorem p2dvd {j k : Nat} (h : j <= k) : (2 ^ j : Int) ∣ 2 ^ k := ⟨2 ^ (k - j), by rw [<- Int.pow_add, Nat.add_sub_cancel' h]⟩
theorem p2le {j k : Nat} (h : j <= k) : (2 : Int) ^ j <= 2 ^ k := Int.le_of_dvd (p2 k) (p2dvd h)
theorem p2lt {j k : Nat} (h : (2 : Int) ^ j < 2 ^ k) : j < k := by
  rcases Nat.lt_or_ge j k with c | c
  . exact c
  . have := p2le c; omega
theorem Fl.neg {n : Int} (h : Fl n) : Fl (-n) := by
  obtain ⟨k, d, b⟩ := h
  exact ⟨k, (Int.dvd_neg).2 d, by rw [Int.natAbs_neg]; exact b⟩
theorem fl_zero : Fl 0 := ⟨0, ⟨0, by simp⟩, by simp⟩
theorem fl_of {n : Int} {k : Nat} (d : (2 ^ k : Int) ∣ n) (b : (n.natAbs : Int) <= 9007199254740992 * 2 ^ k) : Fl n := by
  by_cases c : (n.natAbs : Int) < 9007199254740992 * 2 ^ k
  . exact ⟨k, d, c⟩
  . have e : (n.natAbs : Int) = 9007199254740992 * 2 ^ k := by omega
    refine ⟨k + 1, ?_, ?_⟩
    . rw [<- Int.dvd_natAbs, e, p2s]
      exact ⟨4503599627370496, by omega⟩
    . rw [p2s]; have := p2 k; omega
theorem Fl.dbl {n : Int} (h : Fl n) : Fl (2 * n) := by
  obtain ⟨k, ⟨c, rfl⟩, b⟩ := h
  refine ⟨k + 1, ⟨c, by rw [p2s, Int.mul_assoc]⟩, ?_⟩
  rw [p2s]
  omega
theorem Nr.neg {S h : Int} (n : Nr S h) : Nr (-S) (-h) := by
  refine ⟨n.1.neg, fun f hf => ?_⟩
  have := n.2 (-f) hf.neg
  omega
theorem nr_self {S h : Int} (hS : Fl S) (n : Nr S h) : h = S := by
  have := n.2 S hS
  omega
theorem fl_sub {x y : Int} (hx : Fl x) (hy : Fl y) (h1 : (x - y).natAbs <= x.natAbs) (h2 : (x - y).natAbs <= y.natAbs) : Fl (x - y) := by
  obtain ⟨j, dx, bx⟩ := hx
  obtain ⟨k, dy, by1⟩ := hy
  rcases Nat.le_total j k with c | c
  . exact ⟨j, Int.dvd_sub dx (Int.dvd_trans (p2dvd c) dy), by omega⟩
  . exact ⟨k, Int.dvd_sub (Int.dvd_trans (p2dvd c) dx) dy, by omega⟩
theorem fl_add {x y : Int} (hx : Fl x) (hy : Fl y) (h1 : (x + y).natAbs <= x.natAbs) (h2 : (x + y).natAbs <= y.natAbs) : Fl (x + y) := by
  have e : x + y = x - -y := by omega
  rw [e]
  exact fl_sub hx hy.neg (by omega) (by omega)
theorem nr_dvd_pos {S h : Int} {k : Nat} (n : Nr S h) (d : (2 ^ k : Int) ∣ S) (h0 : 0 <= S) : (2 ^ k : Int) ∣ h := by
  by_cases c : (S.natAbs : Int) <= 9007199254740992 * 2 ^ k
  . rw [nr_self (fl_of d c) n]; exact d
  . have hT : Fl (9007199254740992 * 2 ^ k) := fl_of ⟨9007199254740992, by rw [Int.mul_comm]⟩ (by have := p2 k; omega)
    have h1 := n.2 _ hT
    obtain ⟨j, dj, bj⟩ := n.1
    have hk := p2 k
    have hj := p2 j
    have : (2 : Int) ^ k < 2 ^ j := by omega
    exact Int.dvd_trans (p2dvd (Nat.le_of_lt (p2lt this))) dj
theorem nr_dvd {S h : Int} {k : Nat} (n : Nr S h) (d : (2 ^ k : Int) ∣ S) : (2 ^ k : Int) ∣ h := by
  rcases Int.le_total 0 S with c | c
  . exact nr_dvd_pos n d c
  . have := nr_dvd_pos n.neg ((Int.dvd_neg).2 d) (by omega)
    exact (Int.dvd_neg).1 this
theorem err_sum {a b h : Int} (ha : Fl a) (hb : Fl b) (n : Nr (a + b) h) : Fl (a + b - h) := by
  have e1 := n.2 a ha
  have e2 := n.2 b hb
  obtain ⟨j, da, ba⟩ := ha
  obtain ⟨k, db, bb⟩ := hb
  rcases Nat.le_total j k with c | c
  . have d := Int.dvd_add da (Int.dvd_trans (p2dvd c) db)
    exact ⟨j, Int.dvd_sub d (nr_dvd n d), by omega⟩
  . have d := Int.dvd_add (Int.dvd_trans (p2dvd c) da) db
    exact ⟨k, Int.dvd_sub d (nr_dvd n d), by omega⟩
theorem back_pos {a b h : Int} (ha : Fl a) (hb : Fl b) (h0 : 0 <= a) (hab : b.natAbs <= a.natAbs) (n : Nr (a + b) h) : Fl (h - a) := by
  have ea := n.2 a ha
  have e2 := n.2 (2 * a) ha.dbl
  have ez := n.2 0 fl_zero
  by_cases hs : a <= 2 * h
  . exact fl_sub n.1 ha (by omega) (by omega)
  . have hS : Fl (a + b) := by
      obtain ⟨k, ⟨c, hc⟩, ba⟩ := ha
      cases k with
      | zero => exact ⟨0, ⟨a + b, by simp⟩, by simp at ba ⊢; omega⟩
      | succ k =>
        have hf : Fl (2 ^ k * c) := ⟨k, ⟨c, rfl⟩, by rw [p2s] at ba hc; rw [Int.mul_assoc] at hc; omega⟩
        have e3 := n.2 _ hf
        rw [p2s, Int.mul_assoc] at hc
        exact fl_add ⟨k + 1, ⟨c, by rw [p2s, Int.mul_assoc]; exact hc⟩, ba⟩ hb (by omega) (by omega)
    rw [nr_self hS n, show a + b - a = b by omega]
    exact hb
theorem back {a b h : Int} (ha : Fl a) (hb : Fl b) (hab : b.natAbs <= a.natAbs) (n : Nr (a + b) h) : Fl (h - a) := by
  rcases Int.le_total 0 a with c | c
  . exact back_pos ha hb c hab n
  . have n2 := n.neg
    rw [show -(a + b) = -a + -b by omega] at n2
    have := (back_pos ha.neg hb.neg (by omega) (by omega) n2).neg
    rwa [show -(-h - -a) = h - a by omega] at this
theorem binade (S : Int) (h0 : 0 <= S) : ∃ k : Nat, S < 9007199254740992 * 2 ^ k ∧ (k = 0 ∨ 4503599627370496 * 2 ^ k <= S) := by
  have ex : ∀ n : Nat, S < 9007199254740992 * 2 ^ n -> ∃ k : Nat, S < 9007199254740992 * 2 ^ k ∧ (k = 0 ∨ 4503599627370496 * 2 ^ k <= S) := by
    intro n
    induction n with
    | zero => intro h; exact ⟨0, h, .inl rfl⟩
    | succ n ih =>
      intro h
      by_cases c : S < 9007199254740992 * 2 ^ n
      . exact ih c
      . exact ⟨n + 1, h, .inr (by rw [p2s]; omega)⟩
  refine ex S.natAbs ?_
  have h1 : S.natAbs < 2 ^ S.natAbs := Nat.lt_two_pow_self
  have h2 : ((2 ^ S.natAbs : Nat) : Int) = 2 ^ S.natAbs := by simp
  have h3 := p2 S.natAbs
  omega
theorem nr_rel_pos {S h : Int} (n : Nr S h) (h0 : 0 <= S) : 1000 * (h - S).natAbs <= S.natAbs := by
  obtain ⟨k, b, c⟩ := binade S h0
  have hk := p2 k
  have hm := Int.emod_nonneg S (show (2 : Int) ^ k ≠ 0 by omega)
  have hl := Int.emod_lt_of_pos S hk
  have hf : Fl (S - S % 2 ^ k) := by
    refine fl_of (k := k) ⟨S / 2 ^ k, by have := Int.emod_add_mul_ediv S (2 ^ k); omega⟩ ?_
    have : 0 <= S - S % 2 ^ k := by
      have := Int.emod_add_mul_ediv S (2 ^ k)
      have h2 : 0 <= 2 ^ k * (S / 2 ^ k) := Int.mul_nonneg (by omega) (Int.ediv_nonneg h0 (by omega))
      omega
    omega
  have e := n.2 _ hf
  rcases c with c | c
  . subst c
    have : S % 2 ^ 0 = 0 := by simp
    omega
  . omega
theorem nr_rel {S h : Int} (n : Nr S h) : 1000 * (h - S).natAbs <= S.natAbs := by
  rcases Int.le_total 0 S with c | c
  . exact nr_rel_pos n c
  . have := nr_rel_pos n.neg (by omega)
    omega
theorem two_sum {a b h v u p q l : Int} (ha : Fl a) (hb : Fl b) (nh : Nr (a + b) h) (nv : Nr (h - a) v) (nu : Nr (h - v) u) (np : Nr (a - u) p) (nq : Nr (b - v) q) (nl : Nr (p + q) l) : l = a + b - h := by
  have hd := err_sum ha hb nh
  -- the step back, where it is exact
  have A : Fl (h - a) -> l = a + b - h := by
    intro hx
    have e1 := nr_self hx nv
    subst e1
    rw [show h - (h - a) = a by omega] at nu
    have e2 := nr_self ha nu
    subst e2
    rw [show u - u = 0 by omega] at np
    have e3 := nr_self fl_zero np
    subst e3
    rw [show b - (h - u) = u + b - h by omega] at nq
    have e4 := nr_self hd nq
    subst e4
    rw [show 0 + (u + b - h) = u + b - h by omega] at nl
    exact nr_self hd nl
  by_cases hab : b.natAbs <= a.natAbs
  . exact A (back ha hb hab nh)
  by_cases hha : a.natAbs <= h.natAbs
  . -- h - v is exact
    have n1 : Nr (h + -a) v := by rw [show h + -a = h - a by omega]; exact nv
    have hx := (back nh.1 ha.neg (by omega) n1).neg
    rw [show -(v - h) = h - v by omega] at hx
    have e1 := nr_self hx nu
    subst e1
    have hy := (err_sum nh.1 ha.neg n1).neg
    rw [show -(h + -a - v) = a - (h - v) by omega] at hy
    have e2 := nr_self hy np
    subst e2
    have r1 := nr_rel nh
    have r2 := nv.2 b hb
    have hz : Fl (b - v) := fl_sub hb nv.1 (by omega) (by omega)
    have e3 := nr_self hz nq
    subst e3
    rw [show a - (h - v) + (b - v) = a + b - h by omega] at nl
    exact nr_self hd nl
  . -- then the sum is exact
    have e1 := nh.2 a ha
    have e2 := nh.2 (-a) ha.neg
    have hS : Fl (a + b) := fl_add ha hb (by omega) (by omega)
    have e3 := nr_self hS nh
    exact A (by rw [e3, show a + b - a = b by omega]; exact hb)
theorem fast_sum {a b h v l : Int} (ha : Fl a) (hb : Fl b) (hab : b.natAbs <= a.natAbs) (nh : Nr (a + b) h) (nv : Nr (h - a) v) (nl : Nr (b - v) l) : l = a + b - h := by
  have hd := err_sum ha hb nh
  have e1 := nr_self (back ha hb hab nh) nv
  subst e1
  rw [show b - (h - a) = a + b - h by omega] at nl
  exact nr_self hd nl
theorem nr_ge {S h T : Int} (n : Nr S h) (hT : Fl T) (c : T <= S) : T <= h := by
  have := n.2 T hT
  omega
theorem nr_le {S h T : Int} (n : Nr S h) (hT : Fl T) (c : S <= T) : h <= T := by
  have := n.2 T hT
  omega
theorem fl_p2 (i : Nat) {m : Nat} (hm : (m : Int) <= 9007199254740992) : Fl ((m : Int) * 2 ^ i) := by
  refine fl_of (k := i) ⟨m, by rw [Int.mul_comm]⟩ ?_
  have h1 : 0 <= (m : Int) * 2 ^ i := Int.mul_nonneg (by omega) (Int.le_of_lt (p2 i))
  have h2 : (m : Int) * 2 ^ i <= 9007199254740992 * 2 ^ i := Int.mul_le_mul_of_nonneg_right hm (Int.le_of_lt (p2 i))
  omega
theorem fl_units {h : Int} {i : Nat} (f : Fl h) (c : 4503599627370496 * 2 ^ i <= (h.natAbs : Int)) : (2 ^ i : Int) ∣ h := by
  obtain ⟨j, d, b⟩ := f
  have hi := p2 i
  have hj := p2 j
  cases i with
  | zero => exact ⟨h, by simp⟩
  | succ i =>
    rw [p2s] at c
    have : (2 : Int) ^ i < 2 ^ j := by omega
    exact Int.dvd_trans (p2dvd (p2lt this)) d
theorem near_mult (S : Int) (i : Nat) : ∃ T : Int, (2 ^ i : Int) ∣ T ∧ 2 * (T - S).natAbs <= (2 ^ i : Int) := by
  have hi := p2 i
  have hm := Int.emod_nonneg S (show (2 : Int) ^ i ≠ 0 by omega)
  have hl := Int.emod_lt_of_pos S hi
  have e := Int.emod_add_mul_ediv S (2 ^ i)
  generalize S % 2 ^ i = t at *
  by_cases c : 2 * t <= 2 ^ i
  . exact ⟨S - t, ⟨S / 2 ^ i, by omega⟩, by omega⟩
  . exact ⟨S - t + 2 ^ i, ⟨S / 2 ^ i + 1, by rw [Int.mul_add, Int.mul_one]; omega⟩, by omega⟩
theorem nr_err {S h : Int} {i : Nat} (n : Nr S h) (c : (S.natAbs : Int) <= 9007199254740992 * 2 ^ i) : 2 * ((h - S).natAbs : Int) <= 2 ^ i := by
  obtain ⟨T, d, e⟩ := near_mult S i
  have hi := p2 i
  have hT : Fl T := by
    by_cases c2 : (T.natAbs : Int) <= 9007199254740992 * 2 ^ i
    . exact fl_of d c2
    . exfalso
      obtain ⟨t, rfl⟩ := d
      have h1 : (9007199254740992 : Int) < t.natAbs := by
        rw [Int.natAbs_mul] at c2
        have e2 : ((2 ^ i : Int).natAbs : Int) = 2 ^ i := by omega
        push_cast at c2
        rcases Int.lt_or_le 9007199254740992 (t.natAbs : Int) with g | g
        . exact g
        . exfalso
          have := Int.mul_le_mul_of_nonneg_left g (Int.le_of_lt hi)
          rw [e2] at c2
          omega
      have h2 : (2 ^ i : Int) * 9007199254740993 <= ((2 ^ i * t).natAbs : Int) := by
        rw [Int.natAbs_mul]
        have e2 : ((2 ^ i : Int).natAbs : Int) = 2 ^ i := by omega
        rw [Int.natCast_mul, e2]
        exact Int.mul_le_mul_of_nonneg_left (by omega) (Int.le_of_lt hi)
      generalize 2 ^ i * t = T at *
      omega
  have := n.2 T hT
  omega
structure Spl (a h : Int) (j : Nat) : Prop where
  up : (134217728 * 2 ^ j : Int) ∣ h
  lo : (2 ^ j : Int) ∣ a - h
  top : (h.natAbs : Int) <= 9007199254740992 * 2 ^ j
  low : ((a - h).natAbs : Int) <= 67108864 * 2 ^ j
theorem mult_le {a q : Int} {m : Int} (hq : 0 < q) (d : q ∣ a) (h : a < m * q) : a <= m * q - q := by
  obtain ⟨c, rfl⟩ := d
  rw [Int.mul_comm q c] at h ⊢
  have h1 : c < m := Int.lt_of_mul_lt_mul_right h (by omega)
  have h2 : (c + 1) * q <= m * q := Int.mul_le_mul_of_nonneg_right (by omega) (by omega)
  rw [Int.add_mul, Int.one_mul] at h2
  omega
theorem split_pos {a c d h l : Int} {j : Nat} (da : (2 ^ j : Int) ∣ a) (a0 : 4503599627370496 * 2 ^ j <= a) (a1 : a < 9007199254740992 * 2 ^ j)
    (nc : Nr (134217729 * a) c) (nd : Nr (c - a) d) (nh : Nr (c - d) h) (nl : Nr (a - h) l) : h = c - d ∧ l = a - h ∧ Spl a h j := by
  have hj := p2 j
  have a2 : a <= 9007199254740992 * 2 ^ j - 2 ^ j := mult_le hj da a1
  have a3 : a = 4503599627370496 * 2 ^ j ∨ 4503599627370496 * 2 ^ j + 2 ^ j <= a := by
    by_cases c0 : a = 4503599627370496 * 2 ^ j
    . exact .inl c0
    . right
      have d2 : (2 ^ j : Int) ∣ -a := (Int.dvd_neg).2 da
      have := mult_le hj d2 (show -a < -4503599627370496 * 2 ^ j by omega)
      omega
  have e27 : (2 : Int) ^ (j + 27) = 134217728 * 2 ^ j := by rw [Int.pow_add, Int.mul_comm]; rfl
  have e28 : (2 : Int) ^ (j + 28) = 268435456 * 2 ^ j := by rw [Int.pow_add, Int.mul_comm]; rfl
  have L79 : Fl (604462909807314587353088 * 2 ^ j) := by
    have := fl_p2 (j + 27) (m := 4503599627370496) (by decide)
    rw [e27] at this
    rwa [show ((4503599627370496 : Nat) : Int) * (134217728 * 2 ^ j) = 604462909807314587353088 * 2 ^ j by rw [<- Int.mul_assoc]; rfl] at this
  -- the product
  have c1 := nr_ge nc L79 (by omega)
  have ec := nr_err (i := j + 28) nc (by rw [e28]; omega)
  rw [e28] at ec
  have dc : (134217728 * 2 ^ j : Int) ∣ c := by rw [<- e27]; exact fl_units nc.1 (by rw [e27]; omega)
  -- where a is a power of 2 nothing is lost
  have cz : a = 4503599627370496 * 2 ^ j -> c = 134217729 * a := by
    intro h0
    refine nr_self ?_ nc
    subst h0
    have := fl_p2 (j + 52) (m := 134217729) (by decide)
    rw [show (2 : Int) ^ (j + 52) = 4503599627370496 * 2 ^ j by rw [Int.pow_add, Int.mul_comm]; rfl] at this
    exact this
  have c2 : 604462909807314587353088 * 2 ^ j <= c - a := by
    rcases a3 with g | g
    . have := cz g; omega
    . omega
  have d1 := nr_ge nd L79 c2
  have ed := nr_err (i := j + 27) nd (by rw [e27]; omega)
  rw [e27] at ed
  have dd : (134217728 * 2 ^ j : Int) ∣ d := by rw [<- e27]; exact fl_units nd.1 (by rw [e27]; omega)
  have dcd := Int.dvd_sub dc dd
  have hx : Fl (c - d) := by
    refine fl_of (k := j + 27) (by rw [e27]; exact dcd) ?_
    rw [e27]; omega
  have eh := nr_self hx nh
  have top : ((c - d).natAbs : Int) <= 9007199254740992 * 2 ^ j := by
    -- a multiple of 2^27 units within 2^26 of what is below 2^53
    by_cases g : c - d <= 9007199254740992 * 2 ^ j
    . omega
    . exfalso
      have d2 : (134217728 * 2 ^ j : Int) ∣ -(c - d) := (Int.dvd_neg).2 dcd
      have := mult_le (q := 134217728 * 2 ^ j) (m := -67108864) (by omega) d2 (by omega)
      omega
  have dal : (2 ^ j : Int) ∣ a - (c - d) := Int.dvd_sub da (Int.dvd_trans ⟨134217728, by rw [Int.mul_comm]⟩ dcd)
  have hl : Fl (a - (c - d)) := fl_of (k := j) dal (by omega)
  rw [eh] at nl ⊢
  have el := nr_self hl nl
  exact ⟨rfl, el, dcd, dal, top, by omega⟩
theorem Spl.neg {a h : Int} {j : Nat} (s : Spl a h j) : Spl (-a) (-h) j :=
  ⟨(Int.dvd_neg).2 s.up, by rw [show -a - -h = -(a - h) by omega]; exact (Int.dvd_neg).2 s.lo, by rw [Int.natAbs_neg]; exact s.top, by rw [show -a - -h = -(a - h) by omega, Int.natAbs_neg]; exact s.low⟩
theorem split_norm {a c d h l : Int} {j : Nat} (da : (2 ^ j : Int) ∣ a) (a0 : 4503599627370496 * 2 ^ j <= (a.natAbs : Int)) (a1 : (a.natAbs : Int) < 9007199254740992 * 2 ^ j)
    (nc : Nr (134217729 * a) c) (nd : Nr (c - a) d) (nh : Nr (c - d) h) (nl : Nr (a - h) l) : h = c - d ∧ l = a - h ∧ Spl a h j := by
  rcases Int.le_total 0 a with g | g
  . exact split_pos da (by omega) (by omega) nc nd nh nl
  . have n1 := nc.neg
    rw [show -(134217729 * a) = 134217729 * -a by omega] at n1
    have n2 := nd.neg
    rw [show -(c - a) = -c - -a by omega] at n2
    have n3 := nh.neg
    rw [show -(c - d) = -c - -d by omega] at n3
    have n4 := nl.neg
    rw [show -(a - h) = -a - -h by omega] at n4
    obtain ⟨e1, e2, s⟩ := split_pos ((Int.dvd_neg).2 da) (by omega) (by omega) n1 n2 n3 n4
    have := s.neg
    rw [Int.neg_neg, Int.neg_neg] at this
    exact ⟨by omega, by omega, this⟩
theorem natAbs_p2 (i : Nat) (t : Int) : ((2 ^ i * t).natAbs : Int) = 2 ^ i * (t.natAbs : Int) := by
  have hi := p2 i
  rw [Int.natAbs_mul, Int.natCast_mul, show ((2 ^ i : Int).natAbs : Int) = 2 ^ i by omega]
theorem Fl.down {i : Nat} {t : Int} (h : Fl (2 ^ i * t)) : Fl t := by
  obtain ⟨k, d, b⟩ := h
  rw [natAbs_p2] at b
  rcases Nat.le_total i k with c | c
  . obtain ⟨e, rfl⟩ : ∃ e, k = i + e := ⟨k - i, by omega⟩
    rw [Int.pow_add] at d b
    refine ⟨e, Int.dvd_of_mul_dvd_mul_left (by have := p2 i; omega) d, ?_⟩
    have e2 : (9007199254740992 : Int) * (2 ^ i * 2 ^ e) = 2 ^ i * (9007199254740992 * 2 ^ e) := by rw [<- Int.mul_assoc, <- Int.mul_assoc, Int.mul_comm _ (2 ^ i)]
    rw [e2] at b
    exact Int.lt_of_mul_lt_mul_left b (Int.le_of_lt (p2 i))
  . refine ⟨0, ⟨t, by simp⟩, ?_⟩
    have h1 : (9007199254740992 : Int) * 2 ^ k <= 2 ^ i * 9007199254740992 := by rw [Int.mul_comm]; exact Int.mul_le_mul_of_nonneg_right (p2le c) (by decide)
    have h2 := Int.lt_of_mul_lt_mul_left (Int.lt_of_lt_of_le b h1) (Int.le_of_lt (p2 i))
    simpa using h2
theorem Fl.up {t : Int} (h : Fl t) (i : Nat) : Fl (2 ^ i * t) := by
  obtain ⟨k, ⟨c, rfl⟩, b⟩ := h
  refine ⟨i + k, ⟨c, by rw [Int.pow_add, Int.mul_assoc]⟩, ?_⟩
  rw [natAbs_p2, Int.pow_add]
  have e2 : (9007199254740992 : Int) * (2 ^ i * 2 ^ k) = 2 ^ i * (9007199254740992 * 2 ^ k) := by rw [<- Int.mul_assoc, <- Int.mul_assoc, Int.mul_comm _ (2 ^ i)]
  rw [e2]
  exact Int.mul_lt_mul_of_pos_left b (p2 i)
theorem nr_scale {S h : Int} (n : Nr S h) (i : Nat) : Nr (2 ^ i * S) (2 ^ i * h) := by
  have hi := p2 i
  have key : ∀ g : Int, Fl g -> ((2 ^ i * h - 2 ^ i * S).natAbs : Int) <= ((2 ^ i * g - 2 ^ i * S).natAbs : Int) := by
    intro g hg
    rw [<- Int.mul_sub, <- Int.mul_sub, natAbs_p2, natAbs_p2]
    exact Int.mul_le_mul_of_nonneg_left (by have := n.2 g hg; omega) (Int.le_of_lt hi)
  refine ⟨n.1.up i, fun f hf => ?_⟩
  by_cases d : (2 ^ i : Int) ∣ f
  . obtain ⟨g, rfl⟩ := d
    have := key g hf.down
    omega
  . -- f is small: the next whole number of units on S's side is a float, and nearer
    obtain ⟨j, dj, bj⟩ := hf
    have hji : j < i := by
      rcases Nat.lt_or_ge j i with c | c
      . exact c
      . exact absurd (Int.dvd_trans (p2dvd c) dj) d
    have hfb : (f.natAbs : Int) < 4503599627370496 * 2 ^ i := by
      have := p2le (show j + 1 <= i by omega)
      rw [p2s] at this
      omega
    have em := Int.emod_add_mul_ediv f (2 ^ i)
    have m0 := Int.emod_nonneg f (show (2 : Int) ^ i ≠ 0 by omega)
    have m1 := Int.emod_lt_of_pos f hi
    obtain ⟨e, he⟩ : ∃ e, f / 2 ^ i = e := ⟨_, rfl⟩
    rw [he] at em
    have small : ∀ g : Int, ((2 ^ i * g).natAbs : Int) <= 4503599627370496 * 2 ^ i + 2 ^ i -> Fl g := by
      intro g hg
      rw [natAbs_p2] at hg
      refine fl_of (k := 0) ⟨g, by simp⟩ ?_
      have : (2 : Int) ^ i * (g.natAbs : Int) <= 2 ^ i * 4503599627370497 := by omega
      have := Int.le_of_mul_le_mul_left this hi
      simp
      omega
    rcases Int.lt_or_le e S with c | c
    . have h1 := key (e + 1) (small (e + 1) (by rw [Int.mul_add, Int.mul_one]; omega))
      have h2 : (2 : Int) ^ i * (e + 1) <= 2 ^ i * S := Int.mul_le_mul_of_nonneg_left (by omega) (Int.le_of_lt hi)
      rw [Int.mul_add, Int.mul_one] at h1 h2
      omega
    . have h1 := key e (small e (by omega))
      have h2 : (2 : Int) ^ i * S <= 2 ^ i * e := Int.mul_le_mul_of_nonneg_left (by omega) (Int.le_of_lt hi)
      omega
theorem norm_steps (j : Nat) : ∀ (n : Nat) (a : Int), ((a.natAbs : Int) < 9007199254740992 * 2 ^ j) -> (4503599627370496 * 2 ^ j <= 2 ^ n * (a.natAbs : Int)) -> ∃ x : Nat, 4503599627370496 * 2 ^ j <= ((2 ^ x * a).natAbs : Int) ∧ ((2 ^ x * a).natAbs : Int) < 9007199254740992 * 2 ^ j := by
  intro n
  induction n with
  | zero =>
    intro a h1 h2
    rw [Int.pow_zero, Int.one_mul] at h2
    exact ⟨0, by rw [Int.pow_zero, Int.one_mul]; exact ⟨h2, h1⟩⟩
  | succ n ih =>
    intro a h1 h2
    by_cases c : 4503599627370496 * 2 ^ j <= (a.natAbs : Int)
    . exact ⟨0, by rw [Int.pow_zero, Int.one_mul]; exact ⟨c, h1⟩⟩
    . have e : ((2 * a).natAbs : Int) = 2 * (a.natAbs : Int) := by omega
      obtain ⟨x, g⟩ := ih (2 * a) (by omega) (by rw [e, <- Int.mul_assoc, Int.mul_comm (2 ^ n) 2, <- p2s]; exact h2)
      rw [<- Int.mul_assoc, Int.mul_comm (2 ^ x) 2, <- p2s] at g
      exact ⟨x + 1, g⟩
theorem fl_norm {a : Int} (h : Fl a) (h0 : a ≠ 0) : ∃ x j : Nat, (2 ^ j : Int) ∣ 2 ^ x * a ∧ 4503599627370496 * 2 ^ j <= ((2 ^ x * a).natAbs : Int) ∧ ((2 ^ x * a).natAbs : Int) < 9007199254740992 * 2 ^ j := by
  obtain ⟨j, d, b⟩ := h
  have hj := p2 j
  have h1 : (2 ^ j : Int) <= (a.natAbs : Int) := Int.le_of_dvd (by omega) (Int.dvd_natAbs.2 d)
  obtain ⟨x, g⟩ := norm_steps j 52 a b (by rw [show (2 : Int) ^ 52 = 4503599627370496 by decide]; omega)
  exact ⟨x, j, Int.dvd_mul_of_dvd_right d, g⟩
theorem split_fl {a c d h l : Int} (ha : Fl a) (h0 : a ≠ 0) (nc : Nr (134217729 * a) c) (nd : Nr (c - a) d) (nh : Nr (c - d) h) (nl : Nr (a - h) l) :
    l = a - h ∧ ∃ x j : Nat, Spl (2 ^ x * a) (2 ^ x * h) j ∧ 4503599627370496 * 2 ^ j <= ((2 ^ x * a).natAbs : Int) ∧ ((2 ^ x * a).natAbs : Int) < 9007199254740992 * 2 ^ j := by
  obtain ⟨x, j, g1, g2, g3⟩ := fl_norm ha h0
  have n1 := nr_scale nc x
  rw [show (2 : Int) ^ x * (134217729 * a) = 134217729 * (2 ^ x * a) by rw [<- Int.mul_assoc, Int.mul_comm (2 ^ x), Int.mul_assoc]] at n1
  have n2 := nr_scale nd x
  rw [Int.mul_sub] at n2
  have n3 := nr_scale nh x
  rw [Int.mul_sub] at n3
  have n4 := nr_scale nl x
  rw [Int.mul_sub] at n4
  obtain ⟨e1, e2, s⟩ := split_norm g1 g2 g3 n1 n2 n3 n4
  rw [<- Int.mul_sub] at e2
  exact ⟨Int.eq_of_mul_eq_mul_left (by have := p2 x; omega) e2, x, j, s, g2, g3⟩
theorem abs_mul_le {x y : Int} {X Y : Int} (hx : (x.natAbs : Int) <= X) (hy : (y.natAbs : Int) <= Y) : ((x * y).natAbs : Int) <= X * Y := by
  rw [Int.natAbs_mul, Int.natCast_mul]
  exact Int.mul_le_mul hx hy (by omega) (by omega)
theorem abs_mul_ge {x y : Int} {X Y : Int} (hX : 0 <= X) (hY : 0 <= Y) (hx : X <= (x.natAbs : Int)) (hy : Y <= (y.natAbs : Int)) : X * Y <= ((x * y).natAbs : Int) := by
  rw [Int.natAbs_mul, Int.natCast_mul]
  exact Int.mul_le_mul hx hy hY (by omega)
theorem prod2 (c d : Int) (i j : Nat) : (c * 2 ^ i) * (d * 2 ^ j) = c * d * 2 ^ (i + j) := by
  rw [Int.pow_add, Int.mul_assoc, Int.mul_assoc]
  congr 1
  rw [<- Int.mul_assoc, <- Int.mul_assoc, Int.mul_comm (2 ^ i) d]
theorem dr0 (a b c d : Int) : a + c + (b + d) = a + b + c + d := by omega
theorem dr1 (a b c d : Int) : a + b + c + d = a + (b + d) + c := by omega
theorem dr2 (a b c d : Int) : a + b + c + d = a + b + (c + d) := by omega
theorem dr3 (h a b c d : Int) : d - (h - a - b - c) = a + b + c + d - h := by omega
theorem dk1 {H AB PR QB PS g : Int} (e : AB = PR + QB + PS) (h : 2 * ((H - AB).natAbs : Int) <= 9007199254740992 * g) (q : (QB.natAbs : Int) <= 604462909807314587353088 * g) (s : (PS.natAbs : Int) <= 604462909807314587353088 * g) : ((H - PR).natAbs : Int) <= 9007199254740992 * (4503599627370496 * g) := by omega
theorem dk2 {H AB PR QR AS g : Int} (e : AB = PR + QR + AS) (h : 2 * ((H - AB).natAbs : Int) <= 9007199254740992 * g) (q : (AS.natAbs : Int) <= 604462909807314587353088 * g) : ((H - PR - QR).natAbs : Int) <= 9007199254740992 * (134217728 * g) := by omega
theorem dk3 {H AB PR QR PS QS g : Int} (e : AB = PR + QR + PS + QS) (h : 2 * ((H - AB).natAbs : Int) <= 9007199254740992 * g) (q : (QS.natAbs : Int) <= 4503599627370496 * g) : ((H - PR - QR - PS).natAbs : Int) <= 9007199254740992 * g := by omega
theorem dk4 {H AB PR QR PS QS g : Int} (e : AB = PR + QR + PS + QS) (h : 2 * ((H - AB).natAbs : Int) <= 9007199254740992 * g) : ((QS - (H - PR - QR - PS)).natAbs : Int) <= 9007199254740992 * g := by omega
theorem dk5 {H AB G : Int} (n : Nr AB H) (f : Fl G) (h : G <= (AB.natAbs : Int)) : G <= (H.natAbs : Int) := by
  rcases Int.le_total 0 AB with c | c
  . have := nr_ge n f (by omega); omega
  . have := nr_le n f.neg (by omega); omega
theorem dk6 {x c d g : Int} (hg : 0 < g) (h : (x.natAbs : Int) <= c * g) (hcd : c <= d) : (x.natAbs : Int) <= d * g := Int.le_trans h (Int.mul_le_mul_of_nonneg_right hcd (Int.le_of_lt hg))
theorem dk7 {x c d e g : Int} (hg : 0 < g) (h : (x.natAbs : Int) <= c * g) (hcd : c <= d * e) : (x.natAbs : Int) <= d * (e * g) := by rw [<- Int.mul_assoc]; exact dk6 hg h hcd
theorem dekker {A B P R H x1 t1 x2 t2 x3 t3 x4 l : Int} {i j : Nat} (sa : Spl A P i) (sb : Spl B R j) (a0 : 4503599627370496 * 2 ^ i <= (A.natAbs : Int)) (a1 : (A.natAbs : Int) < 9007199254740992 * 2 ^ i)
    (b0 : 4503599627370496 * 2 ^ j <= (B.natAbs : Int)) (b1 : (B.natAbs : Int) < 9007199254740992 * 2 ^ j)
    (nH : Nr (A * B) H) (n1 : Nr (P * R) x1) (m1 : Nr (H - x1) t1) (n2 : Nr ((A - P) * R) x2) (m2 : Nr (t1 - x2) t2) (n3 : Nr (P * (B - R)) x3) (m3 : Nr (t2 - x3) t3) (n4 : Nr ((A - P) * (B - R)) x4) (m4 : Nr (x4 - t3) l) : l = A * B - H := by
  obtain ⟨Q, hQ⟩ : ∃ Q, A - P = Q := ⟨_, rfl⟩
  obtain ⟨S, hS⟩ : ∃ S, B - R = S := ⟨_, rfl⟩
  obtain ⟨u1, u2, u3, u4⟩ := sa
  obtain ⟨v1, v2, v3, v4⟩ := sb
  rw [hQ] at u2 u4 n2 n4
  rw [hS] at v2 v4 n3 n4
  have hi := p2 i
  have hj := p2 j
  have hg := p2 (i + j)
  -- sizes
  have zAB := abs_mul_ge (by omega) (by omega) a0 b0
  rw [prod2] at zAB
  have yAB := abs_mul_le (Int.le_of_lt a1) (Int.le_of_lt b1)
  rw [prod2] at yAB
  have yQS := abs_mul_le u4 v4
  rw [prod2] at yQS
  have yQR := abs_mul_le u4 v3
  rw [prod2] at yQR
  have yPS := abs_mul_le u3 v4
  rw [prod2] at yPS
  have yPR := abs_mul_le u3 v3
  rw [prod2] at yPR
  have yQB := abs_mul_le u4 (Int.le_of_lt b1)
  rw [prod2] at yQB
  have yAS := abs_mul_le (Int.le_of_lt a1) v4
  rw [prod2] at yAS
  -- units
  have dPR : (18014398509481984 * 2 ^ (i + j) : Int) ∣ P * R := by
    have := Int.mul_dvd_mul u1 v1
    rw [prod2] at this
    exact this
  have dQR : (134217728 * 2 ^ (i + j) : Int) ∣ Q * R := by
    have := Int.mul_dvd_mul u2 v1
    rw [show (2 : Int) ^ i * (134217728 * 2 ^ j) = 134217728 * 2 ^ (i + j) by rw [<- Int.mul_assoc, Int.mul_comm (2 ^ i), Int.mul_assoc, <- Int.pow_add]] at this
    exact this
  have dPS : (134217728 * 2 ^ (i + j) : Int) ∣ P * S := by
    have := Int.mul_dvd_mul u1 v2
    rw [show 134217728 * (2 : Int) ^ i * 2 ^ j = 134217728 * 2 ^ (i + j) by rw [Int.mul_assoc, <- Int.pow_add]] at this
    exact this
  have dQS : (2 ^ (i + j) : Int) ∣ Q * S := by
    have := Int.mul_dvd_mul u2 v2
    rwa [<- Int.pow_add] at this
  have eA : A = P + Q := by omega
  have eB : B = R + S := by omega
  have e1 : A * B = P * R + Q * R + P * S + Q * S := by
    rw [eA, eB, Int.add_mul, Int.mul_add, Int.mul_add]; exact dr0 _ _ _ _
  have e2 : Q * B = Q * R + Q * S := by rw [eB, Int.mul_add]
  have e3 : A * S = P * S + Q * S := by rw [eA, Int.add_mul]
  have e4 : A * B = P * R + Q * B + P * S := by rw [e1, e2]; exact dr1 _ _ _ _
  have e5 : A * B = P * R + Q * R + A * S := by rw [e1, e3]; exact dr2 _ _ _ _
  clear eA eB hQ hS e2 e3
  generalize P * R = PR at *
  generalize Q * R = QR at *
  generalize P * S = PS at *
  generalize Q * S = QS at *
  generalize A * S = AS at *
  generalize Q * B = QB at *
  generalize A * B = AB at *
  obtain ⟨g, hgg⟩ : ∃ g : Int, (2 : Int) ^ (i + j) = g := ⟨_, rfl⟩
  have w27 : (2 : Int) ^ (i + j + 27) = 134217728 * g := by rw [Int.pow_add, hgg, Int.mul_comm]; rfl
  have w52 : (2 : Int) ^ (i + j + 52) = 4503599627370496 * g := by rw [Int.pow_add, hgg, Int.mul_comm]; rfl
  have w53 : (2 : Int) ^ (i + j + 53) = 9007199254740992 * g := by rw [Int.pow_add, hgg, Int.mul_comm]; rfl
  have w54 : (2 : Int) ^ (i + j + 54) = 18014398509481984 * g := by rw [Int.pow_add, hgg, Int.mul_comm]; rfl
  rw [hgg] at zAB yAB yQS yQR yPS yPR yQB yAS dPR dQR dPS dQS hg
  -- the product
  have eH := nr_err (i := i + j + 53) nH (by rw [w53]; exact dk7 hg yAB (by decide))
  rw [w53] at eH
  have L104 : Fl (20282409603651670423947251286016 * g) := by
    have := fl_p2 (i + j + 52) (m := 4503599627370496) (by decide)
    rw [w52] at this
    rwa [show ((4503599627370496 : Nat) : Int) * (4503599627370496 * g) = 20282409603651670423947251286016 * g by rw [<- Int.mul_assoc]; rfl] at this
  have h104 : 20282409603651670423947251286016 * g <= (H.natAbs : Int) := dk5 nH L104 zAB
  have dH : (4503599627370496 * g : Int) ∣ H := by rw [<- w52]; exact fl_units nH.1 (by rw [w52, <- Int.mul_assoc]; exact h104)
  have dvA : ∀ {c d x : Int}, (c * d * g : Int) ∣ x -> (d * g : Int) ∣ x := fun {c d x} h => Int.dvd_trans ⟨c, by rw [Int.mul_assoc, Int.mul_comm]⟩ h
  -- the steps
  have f1 := nr_self (fl_of (k := i + j + 54) (by rw [w54]; exact dPR) (by rw [w54]; exact dk7 hg yPR (by decide))) n1
  subst f1
  have d1 : (4503599627370496 * g : Int) ∣ H - x1 := Int.dvd_sub dH (dvA (c := 4) dPR)
  have f2 := nr_self (fl_of (k := i + j + 52) (by rw [w52]; exact d1) (by rw [w52]; exact dk1 e4 eH yQB yPS)) m1
  subst f2
  have f3 := nr_self (fl_of (k := i + j + 27) (by rw [w27]; exact dQR) (by rw [w27]; exact dk7 hg yQR (by decide))) n2
  subst f3
  have d2 : (134217728 * g : Int) ∣ H - x1 - x2 := Int.dvd_sub (dvA (c := 33554432) d1) dQR
  have f4 := nr_self (fl_of (k := i + j + 27) (by rw [w27]; exact d2) (by rw [w27]; exact dk2 e5 eH yAS)) m2
  subst f4
  have f5 := nr_self (fl_of (k := i + j + 27) (by rw [w27]; exact dPS) (by rw [w27]; exact dk7 hg yPS (by decide))) n3
  subst f5
  have d3 : (g : Int) ∣ H - x1 - x2 - x3 := by
    have := Int.dvd_sub d2 dPS
    exact Int.dvd_trans ⟨134217728, by rw [Int.mul_comm]⟩ this
  have f6 := nr_self (fl_of (k := i + j) (by rw [hgg]; exact d3) (by rw [hgg]; exact dk3 e1 eH yQS)) m3
  subst f6
  have f7 := nr_self (fl_of (k := i + j) (by rw [hgg]; exact dQS) (by rw [hgg]; exact dk6 hg yQS (by decide))) n4
  subst f7
  have d4 : (g : Int) ∣ x4 - (H - x1 - x2 - x3) := Int.dvd_sub dQS d3
  have f8 := nr_self (fl_of (k := i + j) (by rw [hgg]; exact d4) (by rw [hgg]; exact dk4 e1 eH)) m4
  rw [f8, e1]
  exact dr3 _ _ _ _ _
end Go.Proofs.YthpachmmjjlomaaGreatDoor.M
namespace Go.Proofs.YthpachmmjjlomaaGreatDoor
open Go Go.RowKit Go.Proofs.YthpachmmjjlomaaGreatDoor.M Ieee
set_option linter.unusedSimpArgs false
set_option linter.unusedVariables false
def iV (p : Int) : Int := sg (decide (p < 0)) (V Ieee.double (rg p).toNat : Int)
theorem patV_iV {p : Int} (hp : rng p) (h : pok p = true) : patV p = iV p * pw (-1074) := by
  rw [patV_dec hp h]; unfold iV vS; rw [sg_prod]
theorem nat_two (n k : Nat) : ((n * 2 ^ k : Nat) : Int) = 2 ^ k * (n : Int) := by rw [Int.natCast_mul, Int.mul_comm]; simp
theorem k_ne {S q : Int} (hq : 0 < q) (h : S ≠ 0) : S * q ≠ 0 := fun c => by
  rcases Int.mul_eq_zero.1 c with d | d <;> omega
theorem k_neg {S q : Int} (hq : 0 < q) : decide (S * q < 0) = decide (S < 0) := by
  congr 1
  exact propext (lt_zero_iff hq).symm
theorem k_abs {S q A : Int} (hq : 0 < q) (h : S * q = sg (decide (S < 0)) A) : A = (S.natAbs : Int) * q := by
  have := natAbs_sg (t := S) hq
  rw [this] at h
  exact (sg_inj h).symm
theorem k_back {S h : Int} (n : Nr (S.natAbs : Int) h) : Nr S (sg (decide (S < 0)) h) := by
  by_cases c : S < 0
  . rw [decide_eq_true c]
    have n2 := n.neg
    have e : -(S.natAbs : Int) = S := by omega
    rw [e] at n2
    exact n2
  . rw [decide_eq_false c]
    have e : (S.natAbs : Int) = S := by omega
    rw [e] at n
    exact n
theorem fl_V (r : Nat) : Fl (V Ieee.double r : Int) := by
  unfold V
  rw [dBin]
  by_cases h : r < 4503599627370496
  . rw [if_pos h]
    exact ⟨0, ⟨r, by simp⟩, by simp; omega⟩
  . rw [if_neg h]
    have hm := Nat.mod_lt r (show 0 < 4503599627370496 by decide)
    obtain ⟨n, hn⟩ : ∃ n, 4503599627370496 + r % 4503599627370496 = n := ⟨_, rfl⟩
    rw [hn]
    refine ⟨r / 4503599627370496 - 1, ⟨n, nat_two _ _⟩, ?_⟩
    rw [Int.natAbs_natCast, nat_two, Int.mul_comm]
    exact Int.mul_lt_mul_of_pos_right (by omega) (p2 _)
theorem V_fl {f : Int} (h : Fl f) : ∃ r : Nat, (f.natAbs : Int) = (V Ieee.double r : Int) := by
  obtain ⟨k, b, c⟩ := binade (f.natAbs : Int) (by omega)
  rcases Nat.eq_zero_or_pos k with g | g
  . subst g
    have := V_parts Ieee.double 0 f.natAbs (.inl ⟨rfl, by rw [dBin]; simp at b; omega⟩)
    exact ⟨_, by rw [this]; simp⟩
  . have c2 : 4503599627370496 * 2 ^ k <= (f.natAbs : Int) := by
      rcases c with c | c
      . omega
      . exact c
    obtain ⟨t, ht⟩ := fl_units h c2
    have e : (f.natAbs : Int) = 2 ^ k * (t.natAbs : Int) := by rw [ht, natAbs_p2]
    rw [e] at b c2
    have hk := p2 k
    have b2 : (t.natAbs : Int) < 9007199254740992 := Int.lt_of_mul_lt_mul_left (by rw [Int.mul_comm (2 ^ k) 9007199254740992]; exact b) (Int.le_of_lt hk)
    have c3 : 4503599627370496 <= (t.natAbs : Int) := Int.le_of_mul_le_mul_left (by rw [Int.mul_comm (2 ^ k) 4503599627370496]; exact c2) hk
    have := V_parts Ieee.double k t.natAbs (.inr ⟨by rw [dBin]; omega, by rw [dBin]; omega⟩)
    exact ⟨_, by rw [this, e]; push_cast; rw [Int.mul_comm]⟩
theorem V_le {r s : Nat} (h : r <= s) : (V Ieee.double r : Int) <= V Ieee.double s := by
  rcases Nat.lt_or_eq_of_le h with g | g
  . have := V_lt Ieee.double g; omega
  . rw [g]; omega
theorem nr_V {S : Int} {ng : Bool} {r0 : Nat} {left : Int} (h0 : 0 <= S) (hR : Rung (S * pw (-1074)) r0 left) (hf : rTo 0 ng r0 left < 9218868437227405312) : Nr S (V Ieee.double (rTo 0 ng r0 left).toNat : Int) := by
  obtain ⟨lo, hi, l0, l1, l2, l3⟩ := hR
  have hq := pw_pos (-1074)
  unfold vS at *
  generalize pw (-1074) = q at *
  have g1 : (V Ieee.double r0 : Int) <= S := Int.le_of_mul_le_mul_right lo hq
  have g2 : S < (V Ieee.double (r0 + 1) : Int) := Int.lt_of_mul_lt_mul_right hi (Int.le_of_lt hq)
  have g3 : left = 2 -> 2 * S = (V Ieee.double r0 : Int) + V Ieee.double (r0 + 1) := fun c => by
    have := l2.1 c
    rw [<- Int.add_mul, <- Int.mul_assoc] at this
    exact Int.eq_of_mul_eq_mul_right (by omega) this
  have g4 : left = 3 -> (V Ieee.double r0 : Int) + V Ieee.double (r0 + 1) < 2 * S := fun c => by
    have := l3.1 c
    rw [<- Int.add_mul, <- Int.mul_assoc] at this
    exact Int.lt_of_mul_lt_mul_right this (Int.le_of_lt hq)
  have g5 : left ≠ 3 -> 2 * S <= (V Ieee.double r0 : Int) + V Ieee.double (r0 + 1) := fun c => by
    rcases Int.lt_or_le ((V Ieee.double r0 : Int) + V Ieee.double (r0 + 1)) (2 * S) with d | d
    . have := Int.mul_lt_mul_of_pos_right d hq
      rw [Int.add_mul, Int.mul_assoc] at this
      exact absurd (l3.2 this) c
    . exact d
  clear l0 l1 l2 l3 lo hi
  have far : ∀ f : Int, Fl f -> f <= V Ieee.double r0 ∨ V Ieee.double (r0 + 1) <= f := by
    intro f hf
    obtain ⟨s, hs⟩ := V_fl hf
    rcases Nat.lt_or_ge r0 s with c | c
    . have := V_le (show r0 + 1 <= s from c)
      have := V_le (show 0 <= r0 by omega)
      omega
    . have := V_le c
      omega
  unfold rTo at hf ⊢
  by_cases hr : (r0 : Int) < 9218868437227405312
  . rw [if_pos hr] at hf ⊢
    cases hu : rUp 0 ng (decide (r0 % 2 = 1)) left
    . rw [if_neg (by decide)]
      have e : ((r0 : Int) + 0).toNat = r0 := by omega
      rw [e]
      have hl : left ≠ 3 := fun c => by
        subst c
        unfold rUp at hu
        simp at hu
      refine ⟨fl_V r0, fun f hf => ?_⟩
      have := far f hf
      have := g5 hl
      omega
    . rw [if_pos rfl]
      have e : ((r0 : Int) + 1).toNat = r0 + 1 := by omega
      rw [e]
      have hl : left = 3 ∨ left = 2 := by
        unfold rUp at hu
        simp at hu
        rcases hu with c | c
        . exact .inl c
        . exact .inr c.1
      refine ⟨fl_V (r0 + 1), fun f hf => ?_⟩
      have := far f hf
      rcases hl with c | c
      . have := g4 c; omega
      . have := g3 c; omega
  . rw [if_neg hr] at hf
    unfold bRung rUp at hf
    simp at hf
def maxV : Int := (V Ieee.double 9218868437227405311 : Int)
theorem fin_V {S : Int} {ng : Bool} {r0 : Nat} {left : Int} (h0 : S <= maxV) (hR : Rung (S * pw (-1074)) r0 left) : rTo 0 ng r0 left < 9218868437227405312 := by
  obtain ⟨lo, hi, l0, l1, l2, l3⟩ := hR
  have hq := pw_pos (-1074)
  unfold vS at *
  generalize pw (-1074) = q at *
  have g1 : (V Ieee.double r0 : Int) <= S := Int.le_of_mul_le_mul_right lo hq
  have hr : r0 <= 9218868437227405311 := by
    rcases Nat.lt_or_ge 9218868437227405311 r0 with c | c
    . have := V_lt Ieee.double c
      unfold maxV at h0
      omega
    . exact c
  unfold rTo
  rw [if_pos (by omega)]
  by_cases c : r0 = 9218868437227405311
  . have e : S = (V Ieee.double r0 : Int) := by rw [c] at g1 ⊢; unfold maxV at h0; omega
    have : left = 0 := l0.2 (by rw [e])
    subst this
    rw [if_neg (fun c => rUp_left c)]
    omega
  . split <;> omega
theorem patS_parts {ng : Bool} {r : Int} (h0 : 0 <= r) (h1 : r <= 9218868437227405312) : rng (patS ng r) ∧ rg (patS ng r) = r ∧ decide (patS ng r < 0) = ng := by
  unfold patS rng rg
  cases ng
  . simp only [Bool.false_eq_true, if_false]
    rw [if_neg (by omega)]
    exact ⟨by omega, rfl, decide_eq_false (by omega)⟩
  . simp only [if_true]
    rw [if_pos (by omega)]
    exact ⟨by omega, by omega, decide_eq_true (by omega)⟩
theorem patS_fin {ng : Bool} {r : Int} (h0 : 0 <= r) (h1 : r <= 9218868437227405312) : pok (patS ng r) = decide (r < 9218868437227405312) := by
  obtain ⟨a, b, _⟩ := patS_parts (ng := ng) h0 h1
  have := pok_rg a
  rw [b] at this
  cases h : pok (patS ng r)
  . refine (decide_eq_false fun c => ?_).symm
    rw [this.2 c] at h; cases h
  . exact (decide_eq_true (this.1 h)).symm
theorem iV_patS {ng : Bool} {r : Int} (h0 : 0 <= r) (h1 : r <= 9218868437227405312) : iV (patS ng r) = sg ng (V Ieee.double r.toNat : Int) := by
  obtain ⟨_, b, c⟩ := patS_parts (ng := ng) h0 h1
  unfold iV
  rw [b, c]
theorem nr_zero : Nr 0 0 := ⟨fl_zero, fun f _ => by omega⟩
theorem near_iV {S : Int} (h : S ≠ 0) : rng (nearP (S * pw (-1074))) ∧ (pok (nearP (S * pw (-1074))) = true -> Nr S (iV (nearP (S * pw (-1074))))) ∧ ((S.natAbs : Int) <= maxV -> pok (nearP (S * pw (-1074))) = true) := by
  have hq := pw_pos (-1074)
  obtain ⟨A, r0, left, e1, hR, e2⟩ := nearP_rung (k_ne hq h)
  rw [k_neg hq] at e1 e2
  have hA := k_abs hq e1
  rw [hA] at hR
  have hrr := rTo_range 0 (decide (S < 0)) r0 left
  rw [e2]
  refine ⟨(patS_parts hrr.1 hrr.2).1, fun hp => ?_, fun hb => ?_⟩
  . rw [patS_fin hrr.1 hrr.2] at hp
    have n := nr_V (ng := decide (S < 0)) (Int.natCast_nonneg _) hR (of_decide_eq_true hp)
    rw [iV_patS hrr.1 hrr.2]
    exact k_back n
  . rw [patS_fin hrr.1 hrr.2]
    exact decide_eq_true (fin_V hb hR)
end Go.Proofs.YthpachmmjjlomaaGreatDoor
