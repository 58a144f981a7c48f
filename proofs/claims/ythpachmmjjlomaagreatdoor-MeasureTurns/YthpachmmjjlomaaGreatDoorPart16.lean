/-
  Parts of the proof, one behind another.
-/
import Derived.Test.YthpachmmjjlomaaGreatDoorPart15
import Derived.Test.YthpachmmjjlomaaGreatDoorPart9
import Derived.Test.YthpachmmjjlomaaGreatDoorPart10
import Derived.Test.YthpachmmjjlomaaGreatDoorPart1
import Derived.Test.YthpachmmjjlomaaGreatDoorPart3
namespace Go.Proofs.YthpachmmjjlomaaGreatDoor
open Go Go.RowKit Go.Proofs.YthpachmmjjlomaaGreatDoor.M Ieee
set_option linter.unusedSimpArgs false
set_option linter.unusedVariables false
theorem log2_fin {b : Int} {m u : Nat} (hb : rng b) (hp : pok b = true) (h : Ieee.double.read (wd b) = .number (decide (b < 0)) m (-1074 + (u : Int))) : m < 9007199254740992 ∧ u <= 2046 := by
  obtain ⟨h0, h1⟩ := rg_lt hb hp
  have hw : ((wd b % 9223372036854775808 : Nat) : Int) = rg b := wd_rung hb
  unfold Format.read at h
  rw [dSign, dBin, dInf, dLeast] at h
  dsimp only at h
  split at h
  . rename_i h2
    simp only [Datum.number.injEq] at h
    obtain ⟨_, h3, h4⟩ := h
    exact ⟨by omega, by omega⟩
  . rw [if_pos (by omega)] at h
    have hm := Nat.mod_lt (wd b % 9223372036854775808) (show 0 < 4503599627370496 by decide)
    have hd : wd b % 9223372036854775808 / 4503599627370496 <= 2047 := by omega
    simp only [Datum.number.injEq] at h
    obtain ⟨_, h3, h4⟩ := h
    exact ⟨by omega, by omega⟩
theorem nearest_nearP {S t base : Int} (hb : -4194304 <= base) (hS : t * pw base = S) (h0 : S ≠ 0) : Ieee.double.nearest (decide (t < 0)) t.natAbs base = wd (nearP S) := by
  obtain ⟨A, r0, left, a1, a2, a3⟩ := write_near hb hS h0
  obtain ⟨B, s0, k, b1, b2, b3⟩ := nearP_rung h0
  have hAB := sg_inj (a1.symm.trans b1)
  subst hAB
  obtain ⟨h2, h3⟩ := a2.unique b2
  subst h2 h3
  rw [a3, b3]
def fmaS (p q r : Int) : Int := sg (xsg p q) (fsize p q) + patV r
theorem ffma_fin {p q r : Int} (hp : rng p) (hq : rng q) (hr : rng r) (pp : pok p = true) (pq : pok q = true) (pr : pok r = true) :
    Ieee.double.fma (wd p) (wd q) (wd r) = some (wd (if fmaS p q r = 0 then patS (xsg p q && decide (r < 0)) 0 else nearP (fmaS p q r))) := by
  obtain ⟨m, u, h1, v1⟩ := read_wd hp pp
  obtain ⟨n, v, h2, v2⟩ := read_wd hq pq
  obtain ⟨l, x, h3, v3⟩ := read_wd hr pr
  obtain ⟨i, hi⟩ : ∃ i : Int, -1074 + (u : Int) + (-1074 + (v : Int)) = i := ⟨_, rfl⟩
  obtain ⟨j, hj⟩ : ∃ j : Int, -1074 + (x : Int) = j := ⟨_, rfl⟩
  have hpm := pw_mul (a := -1074 + (u : Int)) (b := -1074 + (v : Int)) (by omega) (by omega)
  have hC := fmul_core (g := decide (p < 0)) (h := decide (q < 0)) (x := (m : Int)) (y := (n : Int)) hpm
  rw [<- v1, <- v2, hi] at hC
  have hcast : ((m * n : Nat) : Int) = (m : Int) * (n : Int) := by push_cast; rfl
  have hf : fsize p q = ((m * n : Nat) : Int) * pw i := by rw [hcast]; exact fsize_of (two_pos 4194304) hC
  obtain ⟨base, hbase⟩ : ∃ base, min i j = base := ⟨_, rfl⟩
  have hB : -4194304 <= base := by omega
  obtain ⟨t, ht⟩ : ∃ t, signed (xsg p q) (m * n) (i - base).toNat + signed (decide (r < 0)) l (j - base).toNat = t := ⟨_, rfl⟩
  have hfma : Ieee.double.fma (wd p) (wd q) (wd r) = some (Ieee.double.nearest (if t = 0 then xsg p q && decide (r < 0) else decide (t < 0)) t.natAbs base) := by
    unfold Format.fma
    rw [h1, h2, h3]
    unfold Datum.product
    dsimp only
    rw [hi, hj, xor_ne]
    show Option.map Ieee.double.write (Datum.sum (.number (xsg p q) (m * n) i) (.number (decide (r < 0)) l j)) = _
    unfold Datum.sum
    dsimp only
    rw [hbase, ht]
    rfl
  have s1 := signed_pw (xsg p q) (m * n) (i - base).toNat (i := i) (base := base) (by omega) hB
  have s2 := signed_pw (decide (r < 0)) l (j - base).toNat (i := j) (base := base) (by omega) hB
  rw [hj] at v3
  rw [<- hf] at s1
  rw [<- v3] at s2
  have hS : t * pw base = fmaS p q r := by
    unfold fmaS
    rw [<- ht, Int.add_mul, s1, s2]
  rw [hfma]
  by_cases h : fmaS p q r = 0
  . have ht0 : t = 0 := (eq_zero_iff (pw_pos base)).2 (hS.trans h)
    rw [if_pos h, ht0, if_pos rfl]
    unfold Format.nearest
    rw [if_pos (show Int.natAbs 0 = 0 from rfl)]
    have := wd_word (ng := xsg p q && decide (r < 0)) (r := 0) (by decide) (by decide)
    rw [<- this]
    rfl
  . have ht0 : t ≠ 0 := fun e => h (by rw [<- hS, e, Int.zero_mul])
    rw [if_neg h, if_neg ht0, nearest_nearP hB hS h]
def RdP (way V p : Int) : Prop := ∃ (A : Int) (r0 : Nat) (left : Int), V = sg (decide (V < 0)) A ∧ Rung A r0 left ∧ p = patS (decide (V < 0)) (rTo way (decide (V < 0)) r0 left)
theorem RdP.unique {way V p q : Int} (h : RdP way V p) (k : RdP way V q) : p = q := by
  obtain ⟨A, r0, l, h1, h2, h3⟩ := h
  obtain ⟨B, s0, m, k1, k2, k3⟩ := k
  have hAB := sg_inj (h1.symm.trans k1)
  subst hAB
  obtain ⟨e1, e2⟩ := h2.unique k2
  subst e1 e2
  rw [h3, k3]
theorem r64_num {way : Int} {ng sd : Bool} {M e : Int} (hv : 0 < M) (he : -4194304 <= e) :
    ∃ (r0 : Nat) (left : Int), Rung (M * pw e) r0 left ∧ r64 way ng sd (M / 2 ^ vK M).toNat (e + vK M) (decide (M % 2 ^ vK M ≠ 0)) = (patS (ng && (decide (0 < rTo way ng r0 left) || sd)) (rTo way ng r0 left), decide (left ≠ 0) || decide (9218868437227405312 <= (r0 : Int))) := by
  have hsm := vK_small (Int.le_of_lt hv)
  have hb := blen_pos hv
  have hp := two_pos (vK M)
  have hge : 2 ^ (blen M - 1 - vK M) <= M / 2 ^ vK M := by
    rw [Int.le_ediv_iff_mul_le hp, <- Int.pow_add]
    by_cases hk : vK M <= blen M - 1
    . rw [show blen M - 1 - vK M + vK M = blen M - 1 by omega]
      exact hb.2
    . exfalso; unfold vK at hk; omega
  have hpos := two_pos (blen M - 1 - vK M)
  have e64 : (2 : Nat) ^ 64 = 18446744073709551616 := by decide
  have e60 : (2 : Nat) ^ 60 = 1152921504606846976 := by decide
  refine r64_spec (held_cut (Int.le_of_lt hv) (by omega) _) (by omega) (by omega) (by omega) (fun hc => ?_)
  have hk0 : 0 < vK M := by
    rcases Nat.eq_zero_or_pos (vK M) with h | h
    . rw [h, Int.pow_zero, Int.emod_one] at hc; simp at hc
    . exact h
  have h61 : blen M - 1 - vK M = 61 := by unfold vK at hk0 ⊢; omega
  rw [h61] at hge
  have e61 : (2 : Int) ^ 61 = 2305843009213693952 := by decide
  rw [e61] at hge
  omega
theorem sg_lt {ng : Bool} {A : Int} (h : 0 < A) : decide (sg ng A < 0) = ng := by
  cases ng
  . exact decide_eq_false (by show ¬ A < 0; omega)
  . exact decide_eq_true (by show -A < 0; omega)
theorem rd_of {way V : Int} {ng : Bool} {M e : Int} (hV : V = sg ng (M * pw e)) (hv : 0 < M) (he : -4194304 <= e) :
    RdP way V (r64 way ng true (M / 2 ^ vK M).toNat (e + vK M) (decide (M % 2 ^ vK M ≠ 0))).1 := by
  obtain ⟨r0, left, h1, h2⟩ := r64_num (way := way) (ng := ng) (sd := true) hv he
  have hA : 0 < M * pw e := Int.mul_pos hv (pw_pos e)
  have hn : decide (V < 0) = ng := by rw [hV]; exact sg_lt hA
  refine ⟨M * pw e, r0, left, by rw [hn]; exact hV, h1, ?_⟩
  rw [h2, hn]
  simp
def rdP (way V : Int) : Int := (r64 way (decide (V < 0)) true ((V.natAbs : Int) / 2 ^ vK (V.natAbs : Int)).toNat (-4194304 + vK (V.natAbs : Int)) (decide ((V.natAbs : Int) % 2 ^ vK (V.natAbs : Int) ≠ 0))).1
theorem rdP_is (way : Int) {V : Int} (h : V ≠ 0) : RdP way V (rdP way V) := by
  refine rd_of ?_ (by omega) (Int.le_refl _)
  rw [pw_least, Int.mul_one]
  by_cases hn : V < 0
  . rw [decide_eq_true hn]; show V = -(V.natAbs : Int); omega
  . rw [decide_eq_false hn]; show V = (V.natAbs : Int); omega
theorem rdP_eq {way V p : Int} (h0 : V ≠ 0) (h : RdP way V p) : rdP way V = p := (rdP_is way h0).unique h
theorem rdP_near {V : Int} (h : V ≠ 0) : rdP 0 V = nearP V := by
  obtain ⟨A, r0, left, h1, h2, h3⟩ := nearP_rung h
  exact rdP_eq h ⟨A, r0, left, h1, h2, h3⟩
theorem r64_dy {way V : Int} {ng : Bool} {m e : Int} (hy : Dy V ng m e) (h0 : V ≠ 0) (he : -4194304 <= e) :
    (r64 way ng true (m / 2 ^ vK m).toNat (e + vK m) (decide (m % 2 ^ vK m ≠ 0))).1 = rdP way V := by
  have hm : 0 < m := by
    rcases hy.form with ⟨f1, _⟩ | ⟨f1, _⟩
    . exact absurd (hy.eq_zero.2 f1) h0
    . exact f1
  refine (rdP_eq h0 (rd_of ?_ hm he)).symm
  rw [hy.val]
  cases ng
  . rfl
  . show -m * pw e = -(m * pw e); rw [Int.neg_mul]
theorem rdP_pat (way : Int) {V : Int} (h : V ≠ 0) : rng (rdP way V) ∧ cls (rdP way V) ≠ 4 := by
  obtain ⟨A, r0, left, _, _, h3⟩ := rdP_is way h
  rw [h3]
  have := rTo_range way (decide (V < 0)) r0 left
  exact patS_rng this.1 this.2
theorem prod_infD {p q : Int} (rp : rng p) (rq : rng q) (p0 : 0 <= rg p) (p1 : rg p <= 9218868437227405312) (q0 : 0 <= rg q) (q1 : rg q <= 9218868437227405312) (h : rg p = 9218868437227405312 ∨ rg q = 9218868437227405312) :
    Datum.product (Ieee.double.read (wd p)) (Ieee.double.read (wd q)) = if rg p = 0 ∨ rg q = 0 then none else some (.infinity (xsg p q)) := by
  have hX : (decide (p < 0) ^^ decide (q < 0)) = xsg p q := xor_ne _ _
  have hX2 : (decide (q < 0) ^^ decide (p < 0)) = xsg p q := by rw [<- hX]; cases decide (p < 0) <;> cases decide (q < 0) <;> rfl
  by_cases ip : rg p = 9218868437227405312
  . have ep := read_inf64 rp ip
    by_cases iq : rg q = 9218868437227405312
    . rw [if_neg (by omega), ep, read_inf64 rq iq, <- hX]
      rfl
    . have pq := (pok_rg rq).2 (by omega)
      obtain ⟨m, u, eq, vq⟩ := read_wd rq pq
      have hz := mag_zero rq pq vq
      rw [ep, eq]
      unfold Datum.product
      dsimp only
      by_cases hm : m = 0
      . rw [if_pos hm, if_pos (.inr (hz.1 hm))]
      . rw [if_neg hm, if_neg (fun h => by rcases h with h | h; omega; exact hm (hz.2 h)), hX]
  . have iq : rg q = 9218868437227405312 := by omega
    have pp := (pok_rg rp).2 (by omega)
    obtain ⟨m, u, ep, vp⟩ := read_wd rp pp
    have hz := mag_zero rp pp vp
    have eq := read_inf64 rq iq
    rw [ep, eq]
    unfold Datum.product
    dsimp only
    by_cases hm : m = 0
    . rw [if_pos hm, if_pos (.inl (hz.1 hm))]
    . rw [if_neg hm, if_neg (fun h => by rcases h with h | h; exact hm (hz.2 h); omega), hX2]
def ffma (p q r : Int) : Int :=
  if cls p = 4 ∨ cls q = 4 ∨ cls r = 4 then 9221120237041090561
  else if rg p = 9218868437227405312 ∨ rg q = 9218868437227405312 then
    if rg p = 0 ∨ rg q = 0 then 9221120237041090561
    else if rg r = 9218868437227405312 ∧ ¬ xsg p q = decide (r < 0) then 9221120237041090561 else patS (xsg p q) 9218868437227405312
  else if rg r = 9218868437227405312 then r
  else if fmaS p q r = 0 then patS (xsg p q && decide (r < 0)) 0 else nearP (fmaS p q r)
theorem fma_FW {p q r : Int} {x y z : Nat} (hx : FW p x) (hy : FW q y) (hz : FW r z) : (∃ t, Ieee.double.fma x y z = some t ∧ FW (ffma p q r) t) ∨ (Ieee.double.fma x y z = none ∧ ffma p q r = 9221120237041090561) := by
  by_cases h4 : cls p = 4 ∨ cls q = 4 ∨ cls r = 4
  . right
    refine ⟨?_, by unfold ffma; rw [if_pos h4]⟩
    unfold Format.fma
    rcases h4 with h | h | h
    . obtain ⟨s, t, e⟩ := hx.read_nan h
      rw [e]
      rfl
    . obtain ⟨s, t, e⟩ := hy.read_nan h
      rw [e]
      cases Ieee.double.read x <;> rfl
    . obtain ⟨s, t, e⟩ := hz.read_nan h
      rw [e]
      cases Datum.product (Ieee.double.read x) (Ieee.double.read y) with
      | none => rfl
      | some d => cases d <;> rfl
  . have h4p : cls p ≠ 4 := fun h => h4 (.inl h)
    have h4q : cls q ≠ 4 := fun h => h4 (.inr (.inl h))
    have h4r : cls r ≠ 4 := fun h => h4 (.inr (.inr h))
    obtain ⟨rp, rfl, p0, p1⟩ := hx.of h4p
    obtain ⟨rq, rfl, q0, q1⟩ := hy.of h4q
    obtain ⟨rr, rfl, r0, r1⟩ := hz.of h4r
    have hI := patS_rng (ng := xsg p q) (r := 9218868437227405312) (by decide) (by decide)
    unfold ffma
    rw [if_neg h4]
    by_cases hi : rg p = 9218868437227405312 ∨ rg q = 9218868437227405312
    . rw [if_pos hi]
      have hP := prod_infD rp rq p0 p1 q0 q1 hi
      by_cases h0 : rg p = 0 ∨ rg q = 0
      . right
        rw [if_pos h0] at hP ⊢
        refine ⟨?_, rfl⟩
        unfold Format.fma
        rw [hP]
        rfl
      . rw [if_neg h0] at hP ⊢
        by_cases ir : rg r = 9218868437227405312
        . have er := read_inf64 rr ir
          by_cases hs : xsg p q = decide (r < 0)
          . left
            rw [if_neg (fun h => h.2 hs)]
            refine ⟨_, ?_, FW.pat hI.2 hI.1⟩
            unfold Format.fma
            rw [hP, er]
            show Option.map Ieee.double.write (Datum.sum (.infinity (xsg p q)) (.infinity (decide (r < 0)))) = _
            unfold Datum.sum
            dsimp only
            rw [if_pos hs]
            show some (Ieee.double.write (.infinity (xsg p q))) = _
            rw [write_infS]
          . right
            rw [if_pos ⟨ir, hs⟩]
            refine ⟨?_, rfl⟩
            unfold Format.fma
            rw [hP, er]
            show Option.map Ieee.double.write (Datum.sum (.infinity (xsg p q)) (.infinity (decide (r < 0)))) = _
            unfold Datum.sum
            dsimp only
            rw [if_neg hs]
            rfl
        . left
          obtain ⟨l, v, er, _⟩ := read_wd rr ((pok_rg rr).2 (by omega))
          rw [if_neg (fun h => ir h.1)]
          refine ⟨_, ?_, FW.pat hI.2 hI.1⟩
          unfold Format.fma
          rw [hP, er]
          show some (Ieee.double.write (.infinity (xsg p q))) = _
          rw [write_infS]
    . rw [if_neg hi]
      have pp := (pok_rg rp).2 (by omega)
      have pq := (pok_rg rq).2 (by omega)
      by_cases ir : rg r = 9218868437227405312
      . left
        rw [if_pos ir]
        obtain ⟨m, u, ep, _⟩ := read_wd rp pp
        obtain ⟨n, v, eq, _⟩ := read_wd rq pq
        refine ⟨wd r, ?_, FW.pat h4r rr⟩
        unfold Format.fma
        rw [ep, eq, read_inf64 rr ir]
        show some (Ieee.double.write (.infinity (decide (r < 0)))) = _
        rw [write_inf64 rr ir]
      . left
        rw [if_neg ir]
        refine ⟨_, ffma_fin rp rq rr pp pq ((pok_rg rr).2 (by omega)), ?_⟩
        by_cases hS : fmaS p q r = 0
        . rw [if_pos hS]
          obtain ⟨g1, g2⟩ := patS_rng (ng := xsg p q && decide (r < 0)) (r := 0) (by decide) (by decide)
          exact FW.pat g2 g1
        . rw [if_neg hS]
          exact FW.pat (nearP_pat hS).2 (nearP_pat hS).1
end Go.Proofs.YthpachmmjjlomaaGreatDoor
namespace Go.Proofs.YthpachmmjjlomaaGreatDoor.M
open Go Ieee
set_option linter.unusedSimpArgs false
set_option linter.unusedVariables false
def nn (p : Int) : Prop := rng p ∧ ¬ cls p = 4
def minP (a b : Int) : Int := if key a < key b then a else if key b < key a then b else if a = b then a else -9223372036854775808
def maxP (a b : Int) : Int := if key a < key b then b else if key b < key a then a else if a = b then a else 0
theorem key_zeros {a b : Int} (ha : rng a) (hb : rng b) (h : key a = key b) (hn : ¬ a = b) : (a = 0 ∧ b = -9223372036854775808) ∨ (a = -9223372036854775808 ∧ b = 0) := by
  unfold key rng at *
  split at h <;> split at h <;> omega
theorem nn0 : nn 0 ∧ nn (-9223372036854775808) := by refine ⟨⟨?_, by decide⟩, ⟨?_, by decide⟩⟩ <;> (unfold rng; omega)
theorem minP_nn {a b : Int} (ha : nn a) (hb : nn b) : nn (minP a b) ∧ key (minP a b) <= key a ∧ key (minP a b) <= key b ∧ (key (minP a b) = key a ∨ key (minP a b) = key b) := by
  unfold minP
  split
  . exact ⟨ha, by omega, by omega, .inl rfl⟩
  . split
    . exact ⟨hb, by omega, by omega, .inr rfl⟩
    . split
      . exact ⟨ha, by omega, by omega, .inl rfl⟩
      . have e : key a = key b := by omega
        have e0 : key (-9223372036854775808) = 0 := by decide
        have e1 : key 0 = 0 := by decide
        rcases key_zeros ha.1 hb.1 e (by assumption) with ⟨rfl, rfl⟩ | ⟨rfl, rfl⟩
        . exact ⟨nn0.2, by omega, by omega, .inr rfl⟩
        . exact ⟨nn0.2, by omega, by omega, .inl rfl⟩
theorem maxP_nn {a b : Int} (ha : nn a) (hb : nn b) : nn (maxP a b) ∧ key a <= key (maxP a b) ∧ key b <= key (maxP a b) ∧ (key (maxP a b) = key a ∨ key (maxP a b) = key b) := by
  unfold maxP
  split
  . exact ⟨hb, by omega, by omega, .inr rfl⟩
  . split
    . exact ⟨ha, by omega, by omega, .inl rfl⟩
    . split
      . exact ⟨ha, by omega, by omega, .inl rfl⟩
      . have e : key a = key b := by omega
        have e0 : key (-9223372036854775808) = 0 := by decide
        have e1 : key 0 = 0 := by decide
        rcases key_zeros ha.1 hb.1 e (by assumption) with ⟨rfl, rfl⟩ | ⟨rfl, rfl⟩
        . exact ⟨nn0.1, by omega, by omega, .inl rfl⟩
        . exact ⟨nn0.1, by omega, by omega, .inr rfl⟩
def vld (lo hi : Int) : Bool := decide (¬ cls lo = 4 ∧ ¬ cls hi = 4 ∧ key lo <= key hi ∧ key lo < 9218868437227405312 ∧ -9218868437227405312 < key hi)
theorem vld_iff {lo hi : Int} : vld lo hi = true ↔ ¬ cls lo = 4 ∧ ¬ cls hi = 4 ∧ key lo <= key hi ∧ key lo < 9218868437227405312 ∧ -9218868437227405312 < key hi := by unfold vld; exact decide_eq_true_iff
theorem key_canon {p : Int} (h : nn p) : key (canon p) = key p ∧ nn (canon p) := by
  have h0 := cls0 h.1
  unfold canon
  rw [if_neg h.2]
  split
  . rename_i hz
    rcases h0.1 hz with rfl | rfl
    . exact ⟨rfl, nn0.1⟩
    . exact ⟨by decide, nn0.1⟩
  . exact ⟨rfl, h⟩
end Go.Proofs.YthpachmmjjlomaaGreatDoor.M
namespace Go.Proofs.YthpachmmjjlomaaGreatDoor
open Go Go.RowKit Go.Proofs.YthpachmmjjlomaaGreatDoor.M
set_option linter.unusedSimpArgs false
set_option linter.unusedVariables false
theorem q_cell {w w' : World} {p : Addr} {v : Value} (h : w.cell? p = some v) (hb : Below w.heap.size w w') : w'.cell? p = some v :=
  (hb.cell (World.block_lt_of_cell? w _ h)).trans h
theorem Q4.keeps {a b : Nat} {x0 x1 x2 x3 : Value} {W W' : World} (h : W.cell? ⟨a, 0, none⟩ = some x0 ∧ W.cell? ⟨a, 1, none⟩ = some x1 ∧ W.cell? ⟨b, 0, none⟩ = some x2 ∧ W.cell? ⟨b, 1, none⟩ = some x3) (hb : Below W.heap.size W W') :
    W'.cell? ⟨a, 0, none⟩ = some x0 ∧ W'.cell? ⟨a, 1, none⟩ = some x1 ∧ W'.cell? ⟨b, 0, none⟩ = some x2 ∧ W'.cell? ⟨b, 1, none⟩ = some x3 :=
  ⟨q_cell h.1 hb, q_cell h.2.1 hb, q_cell h.2.2.1 hb, q_cell h.2.2.2 hb⟩
def ivl (lo hi : Int) : Value := .agg #[.float .f64 (wd lo), .float .f64 (wd hi)]
def spn (lo hi : Int) : Value := .agg #[.int .i64 lo, .int .i64 hi]
set_option maxRecDepth 100000 in
theorem spanReadX (x y : Int) (w : World) :
    Calls Tryz.prog 97 #[spn x y] w fun e w' => e = .returned (ivl x y) ∧ w' = ((w.alloc (.cells #[.int .i64 x, .int .i64 y] 55)).alloc (.cells #[.float .f64 (wd x), .float .f64 (wd y)] 102)).drew := by
  unfold spn ivl
  have hx : Hid ((((w.alloc (.cells #[.int .i64 x, .int .i64 y] 55)).alloc (.cells #[.float .f64 0, .float .f64 0] 102)).setCell ⟨w.heap.size + 1, 0, none⟩ (.float .f64 (wd x))).setCell ⟨w.heap.size + 1, 1, none⟩ (.float .f64 (wd y)) = (w.alloc (.cells #[.int .i64 x, .int .i64 y] 55)).alloc (.cells #[.float .f64 (wd x), .float .f64 (wd y)] 102)) := by
    unfold Hid
    rw [World.setCell_alloc_at _ _ _ _ _ (by simp), World.setCell_alloc_at _ _ _ _ _ (by simp)]
    rfl
  have hb2 := bel_alloc2 w (.cells #[.int .i64 x, .int .i64 y] 55) (.cells #[.float .f64 0, .float .f64 0] 102)
  have q0 := heap_a2 w (.cells #[.int .i64 x, .int .i64 y] 55) (.cells #[.float .f64 0, .float .f64 0] 102)
  have q1 := heap_b2 w (.cells #[.int .i64 x, .int .i64 y] 55) (.cells #[.float .f64 0, .float .f64 0] 102)
  have hs := size2 w (.cells #[.int .i64 x, .int .i64 y] 55) (.cells #[.float .f64 0, .float .f64 0] 102)
  have k0 := blkC q0 0 rfl
  have k1 := blkC q0 1 rfl
  go_enter Tryz.func97, Tryz.ntmps97
  go_wp2_with fail
  generalize hwx : (w.alloc (.cells #[.int .i64 x, .int .i64 y] 55)).alloc (.cells #[.float .f64 0, .float .f64 0] 102) = wx at hb2 q0 q1 hs k0 k1 hx ⊢
  clear hwx
  have hc : w.heap.size < w.heap.size + 1 ∧ w.heap.size + 1 <= wx.drew.heap.size ∧ wx.drew.cell? ⟨w.heap.size, 0, none⟩ = some (.int .i64 x) ∧ wx.drew.cell? ⟨w.heap.size, 1, none⟩ = some (.int .i64 y) := ⟨by omega, by show _ <= wx.heap.size; omega, k0, k1⟩
  have d1 : wx.drew.heap[w.heap.size + 1]? = some (.cells #[.float .f64 0, .float .f64 0] 102 (0, 0)) := q1
  have d2 : ((wx.setCell ⟨w.heap.size + 1, 0, none⟩ (.float .f64 (wd x))).drew).heap[w.heap.size + 1]? = some (.cells #[.float .f64 (wd x), .float .f64 0] 102 (0, 0)) := q_heap_set d1 0 (.float .f64 (wd x))
  have d3 : (((wx.setCell ⟨w.heap.size + 1, 0, none⟩ (.float .f64 (wd x))).setCell ⟨w.heap.size + 1, 1, none⟩ (.float .f64 (wd y))).drew).heap[w.heap.size + 1]? = some (.cells #[.float .f64 (wd x), .float .f64 (wd y)] 102 (0, 0)) := q_heap_set d2 1 (.float .f64 (wd y))
  have f0 := blkC d1 0 rfl
  have z0 := blkF d1 0
  have f1 := blkC d2 1 rfl
  have z1 := blkF d2 1
  have s0 : (store ⟨w.heap.size + 1, 0, none⟩ (.float .f64 (wd x))).run Tryz.prog wx.drew = .ok () ((wx.setCell ⟨w.heap.size + 1, 0, none⟩ (.float .f64 (wd x))).drew) := by rw [run_store _ _ _ _ _ rfl, f0]; simp only [z0]; rfl
  have s1 : (store ⟨w.heap.size + 1, 1, none⟩ (.float .f64 (wd y))).run Tryz.prog ((wx.setCell ⟨w.heap.size + 1, 0, none⟩ (.float .f64 (wd x))).drew) = .ok () (((wx.setCell ⟨w.heap.size + 1, 0, none⟩ (.float .f64 (wd x))).setCell ⟨w.heap.size + 1, 1, none⟩ (.float .f64 (wd y))).drew) := by rw [run_store _ _ _ _ _ rfl, f1]; simp only [z1]; rfl
  go_region_held3 (fun W => w.heap.size < w.heap.size + 1 ∧ w.heap.size + 1 <= W.heap.size ∧ W.cell? ⟨w.heap.size, 0, none⟩ = some (.int .i64 x) ∧ W.cell? ⟨w.heap.size, 1, none⟩ = some (.int .i64 y))
    (first | assumption | (repeat (first | exact hc | refine q_two_set (by omega) ?_)))
    ((go_at_call 84; refine (bitsFloat _ _).mono ?_; rintro _ _ ⟨rfl, rfl⟩))
  have e0 := blkC d3 0 rfl
  have e1 := blkC d3 1 rfl
  clear s0 s1 f0 f1 z0 z1 d1 d2 d3
  generalize (wx.setCell ⟨w.heap.size + 1, 0, none⟩ (.float .f64 (wd x))).setCell ⟨w.heap.size + 1, 1, none⟩ (.float .f64 (wd y)) = wy at *
  go_wp2
  refine bodyPost_ret (v := .agg #[.float .f64 (wd x), .float .f64 (wd y)]) (by simp [results, Tryz.results97, go_sem, e0, e1]) rfl ⟨rfl, by rw [hx.out]⟩
theorem spanRead (x y : Int) (w : World) :
    Calls Tryz.prog 97 #[spn x y] w fun e w' => e = .returned (ivl x y) ∧ Below w.heap.size w w' :=
  (spanReadX x y w).mono fun _ _ ⟨h1, h2⟩ => ⟨h1, by rw [h2]; exact (bel_alloc2 w _ _).drew⟩
theorem isInf_up {p : Int} (h : nn p) (w : World) :
    Calls Tryz.prog 130 #[.float .f64 (wd p), .int .i64 1] w fun e w' => e = .returned (.bool (decide (9218868437227405312 <= key p))) ∧ w' = w := by
  have r : rng 9218868437227405311 := by unfold rng; omega
  have c : ¬ cls 9218868437227405311 = 4 := by decide
  have k : key 9218868437227405311 = 9218868437227405311 := by decide
  have e : wd 9218868437227405311 = 9218868437227405311 := by decide
  rcases Int.lt_trichotomy (key p) 9218868437227405311 with g | g | g
  . have o := q_lt h.1 r h.2 c (by rw [k]; exact g)
    rw [e] at o
    rw [decide_eq_false (by omega)]
    go_enter Tryz.func130, Tryz.ntmps130
    go_wp2
    go_ret
    exact ⟨rfl, rfl⟩
  . have o := q_eq h.1 r h.2 c (by rw [k]; exact g)
    rw [e] at o
    rw [decide_eq_false (by omega)]
    go_enter Tryz.func130, Tryz.ntmps130
    go_wp2
    go_ret
    exact ⟨rfl, rfl⟩
  . have o := q_gt h.1 r h.2 c (by rw [k]; exact g)
    rw [e] at o
    rw [decide_eq_true (by omega)]
    go_enter Tryz.func130, Tryz.ntmps130
    go_wp2
    go_ret
    exact ⟨rfl, rfl⟩
theorem neg_wd {p : Int} (h : nn p) : Op.negFloat .f64 (wd p) = wd (neg p) := by
  have hr := h.1
  unfold Op.negFloat
  show wd p ^^^ 2 ^ 63 = _
  unfold neg
  rw [if_neg h.2]
  unfold rng at hr
  by_cases h0 : p < 0
  . rw [if_pos h0]
    have e : wd p = 2 ^ 63 + wd (p + 9223372036854775808) := by unfold wd; omega
    rw [e, xor_top' 63 _ (by unfold wd; omega)]
  . rw [if_neg h0, Nat.xor_comm, xor_top 63 _ (by unfold wd; omega)]
    unfold wd; omega
theorem run_negF {P : Program} {p : Int} (h : nn p) (w : World) : (Op.unary UnOp.neg (.float .f64 (wd p))).run P w = .ok (.float .f64 (wd (neg p))) w := by
  show (pure (Value.float .f64 (Op.negFloat .f64 (wd p))) : Sem Value).run P w = _
  rw [neg_wd h]
  rfl
theorem nn_neg {p : Int} (h : nn p) : nn (neg p) ∧ key (neg p) = - key p := by
  obtain ⟨a, b⟩ := key_neg h.1 h.2
  exact ⟨⟨rng_neg h.1, b⟩, a⟩
theorem isInf_down {p : Int} (h : nn p) (w : World) :
    Calls Tryz.prog 130 #[.float .f64 (wd p), .int .i64 (-1)] w fun e w' => e = .returned (.bool (decide (key p <= -9218868437227405312))) ∧ w' = w := by
  have r : rng 9218868437227405311 := by unfold rng; omega
  have c : ¬ cls 9218868437227405311 = 4 := by decide
  have k : key 9218868437227405311 = 9218868437227405311 := by decide
  have e : wd 9218868437227405311 = 9218868437227405311 := by decide
  have hN := fun W => run_negF (P := Tryz.prog) h W
  obtain ⟨g0, g1⟩ := nn_neg h
  rcases Int.lt_trichotomy (key (neg p)) 9218868437227405311 with g | g | g
  . have o := q_lt g0.1 r g0.2 c (by rw [k]; exact g)
    rw [e] at o
    rw [decide_eq_false (by omega)]
    clear g1 g
    go_enter Tryz.func130, Tryz.ntmps130
    go_wp2
    go_ret
    exact ⟨rfl, rfl⟩
  . have o := q_eq g0.1 r g0.2 c (by rw [k]; exact g)
    rw [e] at o
    rw [decide_eq_false (by omega)]
    clear g1 g
    go_enter Tryz.func130, Tryz.ntmps130
    go_wp2
    go_ret
    exact ⟨rfl, rfl⟩
  . have o := q_gt g0.1 r g0.2 c (by rw [k]; exact g)
    rw [e] at o
    rw [decide_eq_true (by omega)]
    clear g1 g
    go_enter Tryz.func130, Tryz.ntmps130
    go_wp2
    go_ret
    exact ⟨rfl, rfl⟩
set_option maxRecDepth 100000 in
theorem ivlValid {lo hi : Int} (hl : rng lo) (hh : rng hi) (w : World) :
    Calls Tryz.prog 98 #[ivl lo hi] w fun e w' => e = .returned (.bool (vld lo hi)) ∧ Below w.heap.size w w' := by
  unfold ivl
  by_cases h4 : cls lo = 4 ∨ cls hi = 4
  . have o := order64_nan hl hh h4
    rw [show vld lo hi = false from decide_eq_false (fun h => by rcases h4 with g | g; exact h.1 g; exact h.2.1 g)]
    go_enter Tryz.func98, Tryz.ntmps98
    go_wp2
    go_ret
    exact ⟨rfl, bel_alloc _ _⟩
  have h1 : ¬ cls lo = 4 := fun h => h4 (.inl h)
  have h2 : ¬ cls hi = 4 := fun h => h4 (.inr h)
  have CU : Hid (∀ W, Calls Tryz.prog 130 #[.float .f64 (wd lo), .int .i64 1] W fun e w' => e = .returned (.bool (decide (9218868437227405312 <= key lo))) ∧ w' = W) := fun W => isInf_up ⟨hl, h1⟩ W
  have CD : Hid (∀ W, Calls Tryz.prog 130 #[.float .f64 (wd hi), .int .i64 (-1)] W fun e w' => e = .returned (.bool (decide (key hi <= -9218868437227405312))) ∧ w' = W) := fun W => isInf_down ⟨hh, h2⟩ W
  have q0 : (w.alloc (.cells #[.float .f64 (wd lo), .float .f64 (wd hi)] 102)).heap[w.heap.size]? = some (.cells #[.float .f64 (wd lo), .float .f64 (wd hi)] 102 (0, 0)) := by show (w.heap.push _)[w.heap.size]? = _; simp
  have k0 := blkC q0 0 rfl
  have k1 := blkC q0 1 rfl
  have hb := bel_alloc w (.cells #[.float .f64 (wd lo), .float .f64 (wd hi)] 102)
  by_cases g : key hi < key lo
  . have o := q_gt hl hh h1 h2 g
    rw [show vld lo hi = false from decide_eq_false (fun h => by omega)]
    clear CU CD
    go_enter Tryz.func98, Tryz.ntmps98
    go_wp2
    go_ret
    exact ⟨rfl, bel_alloc _ _⟩
  have o : FloatKind.f64.format.order (wd lo) (wd hi) = some .lt ∨ FloatKind.f64.format.order (wd lo) (wd hi) = some .eq := by
    by_cases e : key lo = key hi
    . exact .inr (q_eq hl hh h1 h2 e)
    . exact .inl (q_lt hl hh h1 h2 (by omega))
  by_cases a : 9218868437227405312 <= key lo
  . rw [show vld lo hi = false from decide_eq_false (fun h => by omega)]
    rw [decide_eq_true a] at CU
    clear h4 g a CD q0 k0 k1
    rcases o with o | o
    all_goals
      go_enter Tryz.func98, Tryz.ntmps98
      go_wp2_with (go_at_call 130; refine (CU.out _).mono ?_; rintro _ _ ⟨rfl, rfl⟩)
      go_ret
      exact ⟨rfl, hb⟩
  rw [decide_eq_false a] at CU
  by_cases b : key hi <= -9218868437227405312
  . rw [show vld lo hi = false from decide_eq_false (fun h => by omega)]
    rw [decide_eq_true b] at CD
    clear h4 g a b q0 k0 k1
    rcases o with o | o
    all_goals
      go_enter Tryz.func98, Tryz.ntmps98
      go_wp2_with fail
      refine (CU.out _).mono ?_
      rintro _ _ ⟨rfl, rfl⟩
      go_wp2_with fail
      refine (CD.out _).mono ?_
      rintro _ _ ⟨rfl, rfl⟩
      go_wp2
      go_ret
      exact ⟨rfl, hb⟩
  . rw [show vld lo hi = true from decide_eq_true ⟨h1, h2, by omega, by omega, by omega⟩]
    rw [decide_eq_false b] at CD
    clear h4 g a b q0 k0 k1
    rcases o with o | o
    all_goals
      go_enter Tryz.func98, Tryz.ntmps98
      go_wp2_with fail
      refine (CU.out _).mono ?_
      rintro _ _ ⟨rfl, rfl⟩
      go_wp2_with fail
      refine (CD.out _).mono ?_
      rintro _ _ ⟨rfl, rfl⟩
      go_wp2
      go_ret
      exact ⟨rfl, hb⟩
theorem eq_neg {a b : Int} (ha : nn a) (hb : nn b) (h : key a = key b) : (if (FloatKind.f64.decode (wd a)).neg then wd a else wd b) = wd (if a = b then a else -9223372036854775808) := by
  by_cases e : a = b
  . subst e; rw [if_pos rfl]; split <;> rfl
  . rw [if_neg e]
    rcases key_zeros ha.1 hb.1 h e with ⟨rfl, rfl⟩ | ⟨rfl, rfl⟩
    . rfl
    . rfl
theorem eq_pos {a b : Int} (ha : nn a) (hb : nn b) (h : key a = key b) : (if (FloatKind.f64.decode (wd a)).neg then wd b else wd a) = wd (if a = b then a else 0) := by
  by_cases e : a = b
  . subst e; rw [if_pos rfl]; split <;> rfl
  . rw [if_neg e]
    rcases key_zeros ha.1 hb.1 h e with ⟨rfl, rfl⟩ | ⟨rfl, rfl⟩
    . rfl
    . rfl
theorem run_minF {P : Program} {a b : Int} (ha : nn a) (hb : nn b) (ts : Array TypeId) (t : TypeId) (w : World) : (Builtin.min_ ts t #[.float .f64 (wd a), .float .f64 (wd b)]).run P w = .ok (.float .f64 (wd (minP a b))) w := by
  have hf : (Builtin.min_ ts t #[.float .f64 (wd a), .float .f64 (wd b)]) = (Builtin.min2 (.float .f64 (wd a)) (.float .f64 (wd b))) := by simp [Builtin.min_]
  rw [hf]
  unfold Builtin.min2 minP
  rcases Int.lt_trichotomy (key a) (key b) with h | h | h
  . rw [if_pos h]
    simp only [q_lt ha.1 hb.1 ha.2 hb.2 h]
    rfl
  . rw [if_neg (by omega), if_neg (by omega)]
    simp only [q_eq ha.1 hb.1 ha.2 hb.2 h]
    rw [eq_neg ha hb h]
    rfl
  . rw [if_neg (by omega), if_pos h]
    simp only [q_gt ha.1 hb.1 ha.2 hb.2 h]
    rfl
theorem run_maxF {P : Program} {a b : Int} (ha : nn a) (hb : nn b) (ts : Array TypeId) (t : TypeId) (w : World) : (Builtin.max_ ts t #[.float .f64 (wd a), .float .f64 (wd b)]).run P w = .ok (.float .f64 (wd (maxP a b))) w := by
  have hf : (Builtin.max_ ts t #[.float .f64 (wd a), .float .f64 (wd b)]) = (Builtin.max2 (.float .f64 (wd a)) (.float .f64 (wd b))) := by simp [Builtin.max_]
  rw [hf]
  unfold Builtin.max2 maxP
  rcases Int.lt_trichotomy (key a) (key b) with h | h | h
  . rw [if_pos h]
    simp only [q_lt ha.1 hb.1 ha.2 hb.2 h]
    rfl
  . rw [if_neg (by omega), if_neg (by omega)]
    simp only [q_eq ha.1 hb.1 ha.2 hb.2 h]
    rw [eq_pos ha hb h]
    rfl
  . rw [if_neg (by omega), if_pos h]
    simp only [q_gt ha.1 hb.1 ha.2 hb.2 h]
    rfl
theorem s4_set {a b B g o : Nat} {v x0 x1 x2 x3 : Value} {W : World} (hg : B <= g) (h : (a < B ∧ b < B ∧ B <= W.heap.size) ∧ W.cell? ⟨a, 0, none⟩ = some x0 ∧ W.cell? ⟨a, 1, none⟩ = some x1 ∧ W.cell? ⟨b, 0, none⟩ = some x2 ∧ W.cell? ⟨b, 1, none⟩ = some x3) :
    (a < B ∧ b < B ∧ B <= (W.setCell ⟨g, o, none⟩ v).heap.size) ∧ (W.setCell ⟨g, o, none⟩ v).cell? ⟨a, 0, none⟩ = some x0 ∧ (W.setCell ⟨g, o, none⟩ v).cell? ⟨a, 1, none⟩ = some x1 ∧ (W.setCell ⟨g, o, none⟩ v).cell? ⟨b, 0, none⟩ = some x2 ∧ (W.setCell ⟨g, o, none⟩ v).cell? ⟨b, 1, none⟩ = some x3 := by
  have hw : Wr g W (W.setCell ⟨g, o, none⟩ v) := (Wr.refl g W).setCell o v
  obtain ⟨⟨h1, h2, h3⟩, a0, a1, a2, a3⟩ := h
  exact ⟨⟨h1, h2, Nat.le_trans h3 hw.size⟩, (hw.cell (show a < W.heap.size by omega) (show a ≠ g by omega)).trans a0, (hw.cell (show a < W.heap.size by omega) (show a ≠ g by omega)).trans a1, (hw.cell (show b < W.heap.size by omega) (show b ≠ g by omega)).trans a2, (hw.cell (show b < W.heap.size by omega) (show b ≠ g by omega)).trans a3⟩
theorem heap3 (w : World) (a b c : Obj) : (((w.alloc a).alloc b).alloc c).heap[w.heap.size]? = some a ∧ (((w.alloc a).alloc b).alloc c).heap[w.heap.size + 1]? = some b ∧ (((w.alloc a).alloc b).alloc c).heap[w.heap.size + 2]? = some c ∧ (((w.alloc a).alloc b).alloc c).heap.size = w.heap.size + 3 ∧ Below w.heap.size w (((w.alloc a).alloc b).alloc c) := by
  have h : (((w.alloc a).alloc b).alloc c).heap = ((w.heap.push a).push b).push c := rfl
  rw [h]
  refine ⟨?_, ?_, ?_, by simp, bel_trans (bel_alloc2 w a b) (bel_alloc _ _)⟩
  . simp [Array.getElem?_push]
    omega
  . rw [Array.getElem?_push, if_neg (by simp), Array.getElem?_push, if_pos (by simp)]
  . rw [Array.getElem?_push, if_pos (by simp)]
set_option maxRecDepth 100000 in
theorem ivlJoined {a b c d : Int} (ha : nn a) (hb : nn b) (hc : nn c) (hd : nn d) (w : World) :
    Calls Tryz.prog 102 #[ivl a b, ivl c d] w fun e w' => e = .returned (ivl (minP a c) (maxP b d)) ∧ Below w.heap.size w w' := by
  unfold ivl
  have RM := fun ts t W => run_minF (P := Tryz.prog) ha hc ts t W
  have RX := fun ts t W => run_maxF (P := Tryz.prog) hb hd ts t W
  generalize wd (minP a c) = X at *
  generalize wd (maxP b d) = Y at *
  generalize wd a = A at *
  generalize wd b = B at *
  generalize wd c = C at *
  generalize wd d = D at *
  obtain ⟨q0, q1, q2, hs, hb3⟩ := heap3 w (.cells #[.float .f64 A, .float .f64 B] 102) (.cells #[.float .f64 C, .float .f64 D] 102) (.cells #[.float .f64 0, .float .f64 0] 102)
  have k0 := blkC q0 0 rfl
  have k1 := blkC q0 1 rfl
  have k2 := blkC q1 0 rfl
  have k3 := blkC q1 1 rfl
  replace q2 : (((w.alloc (.cells #[.float .f64 A, .float .f64 B] 102)).alloc (.cells #[.float .f64 C, .float .f64 D] 102)).alloc (.cells #[.float .f64 0, .float .f64 0] 102)).heap[w.heap.size + 1 + 1]? = some (.cells #[.float .f64 0, .float .f64 0] 102 (0, 0)) := q2
  go_enter Tryz.func102, Tryz.ntmps102
  go_wp2_with fail
  clear q0 q1 k0 k1 k2 k3 hs RM RX
  generalize ((w.alloc (.cells #[.float .f64 A, .float .f64 B] 102)).alloc (.cells #[.float .f64 C, .float .f64 D] 102)).alloc (.cells #[.float .f64 0, .float .f64 0] 102) = wx at *
  obtain ⟨g, hg⟩ : ∃ g, w.heap.size + 1 + 1 = g := ⟨_, rfl⟩
  have hwg : w.heap.size <= g := by omega
  rw [hg] at q2
  simp only [hg]
  clear hg
  have d2 := q_heap_set q2 0 (.float .f64 X)
  have d3 := q_heap_set d2 1 (.float .f64 Y)
  have f0 := blkC q2 0 rfl
  have z0 := blkF q2 0
  have f1 := blkC d2 1 rfl
  have z1 := blkF d2 1
  have hbe := (hb3.setCell (p := ⟨g, 0, none⟩) hwg (.float .f64 X)).setCell (p := ⟨g, 1, none⟩) hwg (.float .f64 Y)
  have s0 : (store ⟨g, 0, none⟩ (.float .f64 X)).run Tryz.prog wx = .ok () (wx.setCell ⟨g, 0, none⟩ (.float .f64 X)) := by rw [run_store _ _ _ _ _ rfl, f0]; simp only [z0]; rfl
  have s1 : (store ⟨g, 1, none⟩ (.float .f64 Y)).run Tryz.prog (wx.setCell ⟨g, 0, none⟩ (.float .f64 X)) = .ok () ((wx.setCell ⟨g, 0, none⟩ (.float .f64 X)).setCell ⟨g, 1, none⟩ (.float .f64 Y)) := by rw [run_store _ _ _ _ _ rfl, f1]; simp only [z1]; rfl
  have e0 := blkC d3 0 rfl
  have e1 := blkC d3 1 rfl
  clear f0 z0 f1 z1 d2 d3 q2
  simp only [s0, s1, Result.andThen]
  go_wp2
  refine bodyPost_ret (v := .agg #[.float .f64 X, .float .f64 Y]) (by simp [results, Tryz.results102, go_sem, e0, e1]) rfl ⟨rfl, hbe⟩
theorem isNaN_no {p : Int} (h : nn p) (w : World) :
    Calls Tryz.prog 156 #[.float .f64 (wd p)] w fun e w' => e = .returned (.bool false) ∧ w' = w := by
  have n0 := no64 h.1
  rw [decide_eq_false h.2] at n0
  go_enter Tryz.func156, Tryz.ntmps156
  go_wp2
  go_ret
  exact ⟨rfl, rfl⟩
theorem infUp (w : World) :
    Calls Tryz.prog 151 #[.int .i64 1] w fun e w' => e = .returned (.float .f64 9218868437227405312) ∧ w' = w := by
  have hd := run_from64
  go_enter Tryz.func151, Tryz.ntmps151
  go_wp2
  go_ret
  exact ⟨rfl, rfl⟩
theorem infDown (w : World) :
    Calls Tryz.prog 151 #[.int .i64 (-1)] w fun e w' => e = .returned (.float .f64 18442240474082181120) ∧ w' = w := by
  have hd := run_from64
  go_enter Tryz.func151, Tryz.ntmps151
  go_wp2
  go_ret
  exact ⟨rfl, rfl⟩
theorem copyUp (w : World) :
    Calls Tryz.prog 158 #[.float .f64 1, .float .f64 9218868437227405312] w fun e w' => e = .returned (.float .f64 1) ∧ w' = w := by
  have hd := run_from64
  have hb := run_bits64
  have e1 : bits .andNot .u64 1 9223372036854775808 = 1 := by decide
  have e2 : bits .and .u64 9218868437227405312 9223372036854775808 = 0 := by decide
  have e3 : bits .or .u64 1 0 = 1 := by decide
  go_enter Tryz.func158, Tryz.ntmps158
  go_wp2
  go_ret
  exact ⟨rfl, rfl⟩
theorem copyDown (w : World) :
    Calls Tryz.prog 158 #[.float .f64 1, .float .f64 18442240474082181120] w fun e w' => e = .returned (.float .f64 9223372036854775809) ∧ w' = w := by
  have hd := run_from64
  have hb := run_bits64
  have e1 : bits .andNot .u64 1 9223372036854775808 = 1 := by decide
  have e2 : bits .and .u64 18442240474082181120 9223372036854775808 = 9223372036854775808 := by decide
  have e3 : bits .or .u64 1 9223372036854775808 = 9223372036854775809 := by decide
  go_enter Tryz.func158, Tryz.ntmps158
  go_wp2
  go_ret
  exact ⟨rfl, rfl⟩
set_option maxRecDepth 100000 in
theorem nextUp {p : Int} (h : nn p) (w : World) :
    Calls Tryz.prog 150 #[.float .f64 (wd p), .float .f64 9218868437227405312] w fun e w' => e = .returned (.float .f64 (wd (next p))) ∧ w' = w := by
  have hd := run_from64
  have hbt := run_bits64
  have ey : wd 9218868437227405312 = 9218868437227405312 := by decide
  have ny : nn 9218868437227405312 := ⟨by unfold rng; omega, by decide⟩
  have ky : key 9218868437227405312 = 9218868437227405312 := by decide
  have n0 : nn 0 := nn0.1
  have k0 : key 0 = 0 := by decide
  have e0 : wd 0 = 0 := by decide
  have hr := h.1
  unfold rng at hr
  have CX : Hid (∀ W, Calls Tryz.prog 156 #[.float .f64 (wd p)] W fun e w' => e = .returned (.bool false) ∧ w' = W) := fun W => isNaN_no h W
  have CY : Hid (∀ W, Calls Tryz.prog 156 #[.float .f64 9218868437227405312] W fun e w' => e = .returned (.bool false) ∧ w' = W) := fun W => by rw [<- ey]; exact isNaN_no ny W
  have hw := q_wdlt p
  by_cases a1 : p = 9218868437227405312
  . subst a1
    have o1 := q_eq h.1 ny.1 h.2 ny.2 rfl
    rw [ey] at o1 CX ⊢
    clear hr
    go_enter Tryz.func150, Tryz.ntmps150
    go_wp2_with fail
    refine (CX.out _).mono ?_
    rintro _ _ ⟨rfl, rfl⟩
    go_wp2_with fail
    refine (CY.out _).mono ?_
    rintro _ _ ⟨rfl, rfl⟩
    go_wp2
    go_ret
    exact ⟨ret_float (by first | rfl | (rw [next_inf, ey]) | (rw [next_inf]; exact ey.symm)), rfl⟩
  have kp : key p < 9218868437227405312 := by
    have h4 := cls4_not h.2
    unfold key fld frc at *
    split <;> omega
  have o1 := q_lt h.1 ny.1 h.2 ny.2 (by rw [ky]; exact kp)
  have o2 := q_gt ny.1 h.1 ny.2 h.2 (by rw [ky]; exact kp)
  rw [ey] at o1 o2
  rcases Int.lt_trichotomy (key p) 0 with g | g | g
  . have o3 := q_lt h.1 n0.1 h.2 n0.2 (by rw [k0]; exact g)
    rw [e0] at o3
    have hp : p < 0 ∧ p ≠ -9223372036854775808 := by unfold key at g; split at g <;> omega
    have hn : next p = p - 1 := by unfold next; rw [if_neg h.2, if_neg a1, if_neg hp.2, if_pos hp.1]
    have hv : wd (p - 1) = wd p - 1 ∧ 1 <= wd p := by unfold wd; omega
    clear hr
    go_enter Tryz.func150, Tryz.ntmps150
    go_wp2_with fail
    refine (CX.out _).mono ?_
    rintro _ _ ⟨rfl, rfl⟩
    go_wp2_with fail
    refine (CY.out _).mono ?_
    rintro _ _ ⟨rfl, rfl⟩
    go_wp2
    go_ret
    exact ⟨ret_float (by rw [hn, hv.1]), rfl⟩
  . have o3 := q_eq h.1 n0.1 h.2 n0.2 (by rw [k0]; exact g)
    rw [e0] at o3
    have hp : p = 0 ∨ p = -9223372036854775808 := by unfold key at g; split at g <;> omega
    have hn : next p = 1 := by rcases hp with rfl | rfl <;> decide
    have e1 : wd 1 = 1 := by decide
    clear hr
    go_enter Tryz.func150, Tryz.ntmps150
    go_wp2_with fail
    refine (CX.out _).mono ?_
    rintro _ _ ⟨rfl, rfl⟩
    go_wp2_with fail
    refine (CY.out _).mono ?_
    rintro _ _ ⟨rfl, rfl⟩
    go_wp2_with (go_at_call 158; refine (copyUp _).mono ?_; rintro _ _ ⟨rfl, rfl⟩)
    go_ret
    exact ⟨ret_float (by rw [hn]; exact e1.symm), rfl⟩
  . have o3 := q_gt h.1 n0.1 h.2 n0.2 (by rw [k0]; exact g)
    rw [e0] at o3
    have hp : 0 < p := by unfold key at g; split at g <;> omega
    have hn : next p = p + 1 := by unfold next; rw [if_neg h.2, if_neg a1, if_neg (by omega), if_neg (by omega)]
    have hv : wd (p + 1) = wd p + 1 ∧ wd p < 9223372036854775808 := by unfold wd; unfold key at kp; split at kp <;> omega
    clear hr
    go_enter Tryz.func150, Tryz.ntmps150
    go_wp2_with fail
    refine (CX.out _).mono ?_
    rintro _ _ ⟨rfl, rfl⟩
    go_wp2_with fail
    refine (CY.out _).mono ?_
    rintro _ _ ⟨rfl, rfl⟩
    go_wp2
    go_ret
    exact ⟨ret_float (by rw [hn, hv.1]), rfl⟩
theorem prev_down {p : Int} (h : nn p) (a1 : ¬ p = -4503599627370496) : prev p = if p = 0 ∨ p = -9223372036854775808 then -9223372036854775807 else if p < 0 then p + 1 else p - 1 := by
  have hr := h.1
  have h4 := cls4_not h.2
  unfold rng at hr
  by_cases z : p = 0 ∨ p = -9223372036854775808
  . rw [if_pos z]; rcases z with rfl | rfl <;> decide
  rw [if_neg z]
  obtain ⟨n1, k1⟩ := nn_neg h
  have e1 : neg p = if p < 0 then p + 9223372036854775808 else p - 9223372036854775808 := by unfold neg; rw [if_neg h.2]
  have i1 : ¬ neg p = 9218868437227405312 := by rw [e1]; split <;> omega
  obtain ⟨_, n2, _, _⟩ := key_next n1.1 n1.2 i1
  have e2 : next (neg p) = if neg p < 0 then neg p - 1 else neg p + 1 := by unfold next; rw [if_neg n1.2, if_neg i1, if_neg (by rw [e1]; split <;> omega)]
  unfold prev
  unfold neg
  rw [if_neg (by exact n2)]
  show (if next (neg p) < 0 then next (neg p) + 9223372036854775808 else next (neg p) - 9223372036854775808) = _
  rw [e2, e1]
  unfold fld frc at h4
  repeat' split
  all_goals omega
set_option maxRecDepth 100000 in
theorem nextDown {p : Int} (h : nn p) (w : World) :
    Calls Tryz.prog 150 #[.float .f64 (wd p), .float .f64 18442240474082181120] w fun e w' => e = .returned (.float .f64 (wd (prev p))) ∧ w' = w := by
  have hd := run_from64
  have hbt := run_bits64
  have ey : wd (-4503599627370496) = 18442240474082181120 := by decide
  have ny : nn (-4503599627370496) := ⟨by unfold rng; omega, by decide⟩
  have ky : key (-4503599627370496) = -9218868437227405312 := by decide
  have n0 : nn 0 := nn0.1
  have k0 : key 0 = 0 := by decide
  have e0 : wd 0 = 0 := by decide
  have hr := h.1
  unfold rng at hr
  have CX : Hid (∀ W, Calls Tryz.prog 156 #[.float .f64 (wd p)] W fun e w' => e = .returned (.bool false) ∧ w' = W) := fun W => isNaN_no h W
  have CY : Hid (∀ W, Calls Tryz.prog 156 #[.float .f64 18442240474082181120] W fun e w' => e = .returned (.bool false) ∧ w' = W) := fun W => by rw [<- ey]; exact isNaN_no ny W
  have hw := q_wdlt p
  by_cases a1 : p = -4503599627370496
  . subst a1
    have o1 := q_eq h.1 ny.1 h.2 ny.2 rfl
    rw [ey] at o1 CX ⊢
    clear hr
    go_enter Tryz.func150, Tryz.ntmps150
    go_wp2_with fail
    refine (CX.out _).mono ?_
    rintro _ _ ⟨rfl, rfl⟩
    go_wp2_with fail
    refine (CY.out _).mono ?_
    rintro _ _ ⟨rfl, rfl⟩
    go_wp2
    go_ret
    exact ⟨ret_float (by rw [show prev (-4503599627370496) = -4503599627370496 by decide]; exact ey.symm), rfl⟩
  have kp : -9218868437227405312 < key p := by
    have h4 := cls4_not h.2
    unfold key fld frc at *
    split <;> omega
  have o1 := q_gt h.1 ny.1 h.2 ny.2 (by rw [ky]; exact kp)
  have o2 := q_lt ny.1 h.1 ny.2 h.2 (by rw [ky]; exact kp)
  rw [ey] at o1 o2
  rcases Int.lt_trichotomy (key p) 0 with g | g | g
  . have o3 := q_lt h.1 n0.1 h.2 n0.2 (by rw [k0]; exact g)
    rw [e0] at o3
    have hp : p < 0 ∧ p ≠ -9223372036854775808 := by unfold key at g; split at g <;> omega
    have hn : prev p = p + 1 := by have := key_prev h.1 h.2 a1; have hq := prev_down h a1; rw [hq, if_neg (by omega), if_pos hp.1]
    have hv : wd (p + 1) = wd p + 1 ∧ wd p < 18446744073709551615 := by unfold wd; unfold key at kp; split at kp <;> omega
    clear hr
    go_enter Tryz.func150, Tryz.ntmps150
    go_wp2_with fail
    refine (CX.out _).mono ?_
    rintro _ _ ⟨rfl, rfl⟩
    go_wp2_with fail
    refine (CY.out _).mono ?_
    rintro _ _ ⟨rfl, rfl⟩
    go_wp2
    go_ret
    exact ⟨ret_float (by rw [hn, hv.1]), rfl⟩
  . have o3 := q_eq h.1 n0.1 h.2 n0.2 (by rw [k0]; exact g)
    rw [e0] at o3
    have hp : p = 0 ∨ p = -9223372036854775808 := by unfold key at g; split at g <;> omega
    have hn : prev p = -9223372036854775807 := by rcases hp with rfl | rfl <;> decide
    have e1 : wd (-9223372036854775807) = 9223372036854775809 := by decide
    clear hr
    go_enter Tryz.func150, Tryz.ntmps150
    go_wp2_with fail
    refine (CX.out _).mono ?_
    rintro _ _ ⟨rfl, rfl⟩
    go_wp2_with fail
    refine (CY.out _).mono ?_
    rintro _ _ ⟨rfl, rfl⟩
    go_wp2_with (go_at_call 158; refine (copyDown _).mono ?_; rintro _ _ ⟨rfl, rfl⟩)
    go_ret
    exact ⟨ret_float (by rw [hn]; exact e1.symm), rfl⟩
  . have o3 := q_gt h.1 n0.1 h.2 n0.2 (by rw [k0]; exact g)
    rw [e0] at o3
    have hp : 0 < p := by unfold key at g; split at g <;> omega
    have hn : prev p = p - 1 := by rw [prev_down h a1, if_neg (by omega), if_neg (by omega)]
    have hv : wd (p - 1) = wd p - 1 ∧ 1 <= wd p := by unfold wd; omega
    clear hr
    go_enter Tryz.func150, Tryz.ntmps150
    go_wp2_with fail
    refine (CX.out _).mono ?_
    rintro _ _ ⟨rfl, rfl⟩
    go_wp2_with fail
    refine (CY.out _).mono ?_
    rintro _ _ ⟨rfl, rfl⟩
    go_wp2
    go_ret
    exact ⟨ret_float (by rw [hn, hv.1]), rfl⟩
set_option maxRecDepth 100000 in
theorem besideDown {p : Int} (h : nn p) (l : Nat) (o : FloatKind.f64.format.order l 0 = some .lt) (w : World) :
    Calls Tryz.prog 131 #[.float .f64 (wd p), .float .f64 l] w fun e w' => e = .returned (.agg #[.float .f64 (wd (prev p)), .float .f64 (wd p)]) ∧ w' = w.alloc (.cells #[.float .f64 (wd (prev p)), .float .f64 (wd p)] 102) := by
  have hst : ∀ (p : Addr) (n : Nat) (m : Mode) (w : World), (store p (.float .f64 n) m).run Tryz.prog w = stored Tryz.prog w p (.float .f64 n) m := fun p n m w => run_store _ w p _ m rfl
  have CI : Hid (∀ W, Calls Tryz.prog 151 #[.int .i64 (-1)] W fun e w' => e = .returned (.float .f64 18442240474082181120) ∧ w' = W) := fun W => infDown W
  have CN : Hid (∀ W, Calls Tryz.prog 150 #[.float .f64 (wd p), .float .f64 18442240474082181120] W fun e w' => e = .returned (.float .f64 (wd (prev p))) ∧ w' = W) := fun W => nextDown h W
  have hg : (w.alloc (.cells #[.float .f64 (wd (prev p)), .float .f64 (wd p)] 102)).heap[w.heap.size]? = some (.cells #[.float .f64 (wd (prev p)), .float .f64 (wd p)] 102 (0, 0)) := by show (w.heap.push _)[w.heap.size]? = _; simp
  have e0 := blkC hg 0 rfl
  have e1 := blkC hg 1 rfl
  clear h
  go_enter Tryz.func131, Tryz.ntmps131
  go_wp2_with fail
  refine (CI.out _).mono ?_
  rintro _ _ ⟨rfl, rfl⟩
  go_wp2_with fail
  refine (CN.out _).mono ?_
  rintro _ _ ⟨rfl, rfl⟩
  go_wp2
  refine bodyPost_ret (v := .agg #[.float .f64 (wd (prev p)), .float .f64 (wd p)]) (by simp [results, Tryz.results131, go_sem, e0, e1]) rfl ⟨rfl, rfl⟩
set_option maxRecDepth 100000 in
theorem besideUp {p : Int} (h : nn p) (l : Nat) (o : FloatKind.f64.format.order l 0 = some .gt) (w : World) :
    Calls Tryz.prog 131 #[.float .f64 (wd p), .float .f64 l] w fun e w' => e = .returned (.agg #[.float .f64 (wd p), .float .f64 (wd (next p))]) ∧ w' = w.alloc (.cells #[.float .f64 (wd p), .float .f64 (wd (next p))] 102) := by
  have hst : ∀ (p : Addr) (n : Nat) (m : Mode) (w : World), (store p (.float .f64 n) m).run Tryz.prog w = stored Tryz.prog w p (.float .f64 n) m := fun p n m w => run_store _ w p _ m rfl
  have CI : Hid (∀ W, Calls Tryz.prog 151 #[.int .i64 1] W fun e w' => e = .returned (.float .f64 9218868437227405312) ∧ w' = W) := fun W => infUp W
  have CN : Hid (∀ W, Calls Tryz.prog 150 #[.float .f64 (wd p), .float .f64 9218868437227405312] W fun e w' => e = .returned (.float .f64 (wd (next p))) ∧ w' = W) := fun W => nextUp h W
  have hg : (w.alloc (.cells #[.float .f64 (wd p), .float .f64 (wd (next p))] 102)).heap[w.heap.size]? = some (.cells #[.float .f64 (wd p), .float .f64 (wd (next p))] 102 (0, 0)) := by show (w.heap.push _)[w.heap.size]? = _; simp
  have e0 := blkC hg 0 rfl
  have e1 := blkC hg 1 rfl
  clear h
  go_enter Tryz.func131, Tryz.ntmps131
  go_wp2_with fail
  refine (CI.out _).mono ?_
  rintro _ _ ⟨rfl, rfl⟩
  go_wp2_with fail
  refine (CN.out _).mono ?_
  rintro _ _ ⟨rfl, rfl⟩
  go_wp2
  refine bodyPost_ret (v := .agg #[.float .f64 (wd p), .float .f64 (wd (next p))]) (by simp [results, Tryz.results131, go_sem, e0, e1]) rfl ⟨rfl, rfl⟩
set_option maxRecDepth 100000 in
theorem besideSame (p l : Nat) (o : FloatKind.f64.format.order l 0 = some .eq ∨ FloatKind.f64.format.order l 0 = none) (w : World) :
    Calls Tryz.prog 131 #[.float .f64 p, .float .f64 l] w fun e w' => e = .returned (.agg #[.float .f64 p, .float .f64 p]) ∧ w' = w.alloc (.cells #[.float .f64 p, .float .f64 p] 102) := by
  have hst : ∀ (p : Addr) (n : Nat) (m : Mode) (w : World), (store p (.float .f64 n) m).run Tryz.prog w = stored Tryz.prog w p (.float .f64 n) m := fun p n m w => run_store _ w p _ m rfl
  have hg : (w.alloc (.cells #[.float .f64 p, .float .f64 p] 102)).heap[w.heap.size]? = some (.cells #[.float .f64 p, .float .f64 p] 102 (0, 0)) := by show (w.heap.push _)[w.heap.size]? = _; simp
  have e0 := blkC hg 0 rfl
  have e1 := blkC hg 1 rfl
  rcases o with o | o
  all_goals
    go_enter Tryz.func131, Tryz.ntmps131
    go_wp2
    refine bodyPost_ret (v := .agg #[.float .f64 p, .float .f64 p]) (by simp [results, Tryz.results131, go_sem, e0, e1]) rfl ⟨rfl, rfl⟩
end Go.Proofs.YthpachmmjjlomaaGreatDoor
