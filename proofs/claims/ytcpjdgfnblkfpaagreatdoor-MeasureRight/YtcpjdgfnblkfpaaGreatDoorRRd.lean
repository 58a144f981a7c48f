/-
  Plain mathematics: a number rounded in a way, as a pattern; a product and a sum, rounded once, of any patterns. No Go text in sight.
-/
import Derived.Test.YtcpjdgfnblkfpaaGreatDoorRFfma
import Derived.Test.YtcpjdgfnblkfpaaGreatDoorRNear2
import Derived.Test.YtcpjdgfnblkfpaaGreatDoorRFw4
namespace Go.Proofs.YtcpjdgfnblkfpaaGreatDoor
open Go Go.RowKit Go.Proofs.YtcpjdgfnblkfpaaGreatDoor.M Ieee
set_option linter.unusedSimpArgs false
set_option linter.unusedVariables false

/-- p is V, which is not 0, rounded in a way. -/
def RdP (way V p : Int) : Prop := ∃ (A : Int) (r0 : Nat) (left : Int), V = sg (decide (V < 0)) A ∧ Rung A r0 left ∧ p = patS (decide (V < 0)) (rTo way (decide (V < 0)) r0 left)
theorem RdP.unique {way V p q : Int} (h : RdP way V p) (k : RdP way V q) : p = q := by
  obtain ⟨A, r0, l, h1, h2, h3⟩ := h
  obtain ⟨B, s0, m, k1, k2, k3⟩ := k
  have hAB := sg_inj (h1.symm.trans k1)
  subst hAB
  obtain ⟨e1, e2⟩ := h2.unique k2
  subst e1 e2
  rw [h3, k3]
theorem r64_num {way : Int} {ng sd : Bool} {M e : Int} (hv : 0 < M) (he : -4194304 ≤ e) :
    ∃ (r0 : Nat) (left : Int), Rung (M * pw e) r0 left ∧ r64 way ng sd (M / 2 ^ vK M).toNat (e + vK M) (decide (M % 2 ^ vK M ≠ 0)) = (patS (ng && (decide (0 < rTo way ng r0 left) || sd)) (rTo way ng r0 left), decide (left ≠ 0) || decide (9218868437227405312 ≤ (r0 : Int))) := by
  have hsm := vK_small (Int.le_of_lt hv)
  have hb := blen_pos hv
  have hp := two_pos (vK M)
  have hge : 2 ^ (blen M - 1 - vK M) ≤ M / 2 ^ vK M := by
    rw [Int.le_ediv_iff_mul_le hp, ← Int.pow_add]
    by_cases hk : vK M ≤ blen M - 1
    · rw [show blen M - 1 - vK M + vK M = blen M - 1 by omega]
      exact hb.2
    · exfalso; unfold vK at hk; omega
  have hpos := two_pos (blen M - 1 - vK M)
  have e64 : (2 : Nat) ^ 64 = 18446744073709551616 := by decide
  have e60 : (2 : Nat) ^ 60 = 1152921504606846976 := by decide
  refine r64_spec (held_cut (Int.le_of_lt hv) (by omega) _) (by omega) (by omega) (by omega) (fun hc => ?_)
  have hk0 : 0 < vK M := by
    rcases Nat.eq_zero_or_pos (vK M) with h | h
    · rw [h, Int.pow_zero, Int.emod_one] at hc; simp at hc
    · exact h
  have h61 : blen M - 1 - vK M = 61 := by unfold vK at hk0 ⊢; omega
  rw [h61] at hge
  have e61 : (2 : Int) ^ 61 = 2305843009213693952 := by decide
  rw [e61] at hge
  omega
theorem sg_lt {ng : Bool} {A : Int} (h : 0 < A) : decide (sg ng A < 0) = ng := by
  cases ng
  · exact decide_eq_false (by show ¬ A < 0; omega)
  · exact decide_eq_true (by show -A < 0; omega)
theorem rd_of {way V : Int} {ng : Bool} {M e : Int} (hV : V = sg ng (M * pw e)) (hv : 0 < M) (he : -4194304 ≤ e) :
    RdP way V (r64 way ng true (M / 2 ^ vK M).toNat (e + vK M) (decide (M % 2 ^ vK M ≠ 0))).1 := by
  obtain ⟨r0, left, h1, h2⟩ := r64_num (way := way) (ng := ng) (sd := true) hv he
  have hA : 0 < M * pw e := Int.mul_pos hv (pw_pos e)
  have hn : decide (V < 0) = ng := by rw [hV]; exact sg_lt hA
  refine ⟨M * pw e, r0, left, by rw [hn]; exact hV, h1, ?_⟩
  rw [h2, hn]
  simp
/-- The number rounded. -/
def rdP (way V : Int) : Int := (r64 way (decide (V < 0)) true ((V.natAbs : Int) / 2 ^ vK (V.natAbs : Int)).toNat (-4194304 + vK (V.natAbs : Int)) (decide ((V.natAbs : Int) % 2 ^ vK (V.natAbs : Int) ≠ 0))).1
theorem rdP_is (way : Int) {V : Int} (h : V ≠ 0) : RdP way V (rdP way V) := by
  refine rd_of ?_ (by omega) (Int.le_refl _)
  rw [pw_least, Int.mul_one]
  by_cases hn : V < 0
  · rw [decide_eq_true hn]; show V = -(V.natAbs : Int); omega
  · rw [decide_eq_false hn]; show V = (V.natAbs : Int); omega
theorem rdP_eq {way V p : Int} (h0 : V ≠ 0) (h : RdP way V p) : rdP way V = p := (rdP_is way h0).unique h
theorem rdP_near {V : Int} (h : V ≠ 0) : rdP 0 V = nearP V := by
  obtain ⟨A, r0, left, h1, h2, h3⟩ := nearP_rung h
  exact rdP_eq h ⟨A, r0, left, h1, h2, h3⟩
theorem r64_dy {way V : Int} {ng : Bool} {m e : Int} (hy : Dy V ng m e) (h0 : V ≠ 0) (he : -4194304 ≤ e) :
    (r64 way ng true (m / 2 ^ vK m).toNat (e + vK m) (decide (m % 2 ^ vK m ≠ 0))).1 = rdP way V := by
  have hm : 0 < m := by
    rcases hy.form with ⟨f1, _⟩ | ⟨f1, _⟩
    · exact absurd (hy.eq_zero.2 f1) h0
    · exact f1
  refine (rdP_eq h0 (rd_of ?_ hm he)).symm
  rw [hy.val]
  cases ng
  · rfl
  · show -m * pw e = -(m * pw e); rw [Int.neg_mul]
theorem rdP_pat (way : Int) {V : Int} (h : V ≠ 0) : rng (rdP way V) ∧ cls (rdP way V) ≠ 4 := by
  obtain ⟨A, r0, left, _, _, h3⟩ := rdP_is way h
  rw [h3]
  have := rTo_range way (decide (V < 0)) r0 left
  exact patS_rng this.1 this.2
theorem prod_infD {p q : Int} (rp : rng p) (rq : rng q) (p0 : 0 ≤ rg p) (p1 : rg p ≤ 9218868437227405312) (q0 : 0 ≤ rg q) (q1 : rg q ≤ 9218868437227405312) (h : rg p = 9218868437227405312 ∨ rg q = 9218868437227405312) :
    Datum.product (Ieee.double.read (wd p)) (Ieee.double.read (wd q)) = if rg p = 0 ∨ rg q = 0 then none else some (.infinity (xsg p q)) := by
  have hX : (decide (p < 0) ^^ decide (q < 0)) = xsg p q := xor_ne _ _
  have hX2 : (decide (q < 0) ^^ decide (p < 0)) = xsg p q := by rw [← hX]; cases decide (p < 0) <;> cases decide (q < 0) <;> rfl
  by_cases ip : rg p = 9218868437227405312
  · have ep := read_inf64 rp ip
    by_cases iq : rg q = 9218868437227405312
    · rw [if_neg (by omega), ep, read_inf64 rq iq, ← hX]
      rfl
    · have pq := (pok_rg rq).2 (by omega)
      obtain ⟨m, u, eq, vq⟩ := read_wd rq pq
      have hz := mag_zero rq pq vq
      rw [ep, eq]
      unfold Datum.product
      dsimp only
      by_cases hm : m = 0
      · rw [if_pos hm, if_pos (.inr (hz.1 hm))]
      · rw [if_neg hm, if_neg (fun h => by rcases h with h | h; omega; exact hm (hz.2 h)), hX]
  · have iq : rg q = 9218868437227405312 := by omega
    have pp := (pok_rg rp).2 (by omega)
    obtain ⟨m, u, ep, vp⟩ := read_wd rp pp
    have hz := mag_zero rp pp vp
    have eq := read_inf64 rq iq
    rw [ep, eq]
    unfold Datum.product
    dsimp only
    by_cases hm : m = 0
    · rw [if_pos hm, if_pos (.inl (hz.1 hm))]
    · rw [if_neg hm, if_neg (fun h => by rcases h with h | h; exact hm (hz.2 h); omega), hX2]
/-- A product and a sum, rounded once, on patterns. -/
def ffma (p q r : Int) : Int :=
  if cls p = 4 ∨ cls q = 4 ∨ cls r = 4 then 9221120237041090561
  else if rg p = 9218868437227405312 ∨ rg q = 9218868437227405312 then
    if rg p = 0 ∨ rg q = 0 then 9221120237041090561
    else if rg r = 9218868437227405312 ∧ ¬ xsg p q = decide (r < 0) then 9221120237041090561 else patS (xsg p q) 9218868437227405312
  else if rg r = 9218868437227405312 then r
  else if fmaS p q r = 0 then patS (xsg p q && decide (r < 0)) 0 else nearP (fmaS p q r)
theorem fma_FW {p q r : Int} {x y z : Nat} (hx : FW p x) (hy : FW q y) (hz : FW r z) : (∃ t, Ieee.double.fma x y z = some t ∧ FW (ffma p q r) t) ∨ (Ieee.double.fma x y z = none ∧ ffma p q r = 9221120237041090561) := by
  by_cases h4 : cls p = 4 ∨ cls q = 4 ∨ cls r = 4
  · right
    refine ⟨?_, by unfold ffma; rw [if_pos h4]⟩
    unfold Format.fma
    rcases h4 with h | h | h
    · obtain ⟨s, t, e⟩ := hx.read_nan h
      rw [e]
      rfl
    · obtain ⟨s, t, e⟩ := hy.read_nan h
      rw [e]
      cases Ieee.double.read x <;> rfl
    · obtain ⟨s, t, e⟩ := hz.read_nan h
      rw [e]
      cases Datum.product (Ieee.double.read x) (Ieee.double.read y) with
      | none => rfl
      | some d => cases d <;> rfl
  · have h4p : cls p ≠ 4 := fun h => h4 (.inl h)
    have h4q : cls q ≠ 4 := fun h => h4 (.inr (.inl h))
    have h4r : cls r ≠ 4 := fun h => h4 (.inr (.inr h))
    obtain ⟨rp, rfl, p0, p1⟩ := hx.of h4p
    obtain ⟨rq, rfl, q0, q1⟩ := hy.of h4q
    obtain ⟨rr, rfl, r0, r1⟩ := hz.of h4r
    have hI := patS_rng (ng := xsg p q) (r := 9218868437227405312) (by decide) (by decide)
    unfold ffma
    rw [if_neg h4]
    by_cases hi : rg p = 9218868437227405312 ∨ rg q = 9218868437227405312
    · rw [if_pos hi]
      have hP := prod_infD rp rq p0 p1 q0 q1 hi
      by_cases h0 : rg p = 0 ∨ rg q = 0
      · right
        rw [if_pos h0] at hP ⊢
        refine ⟨?_, rfl⟩
        unfold Format.fma
        rw [hP]
        rfl
      · rw [if_neg h0] at hP ⊢
        by_cases ir : rg r = 9218868437227405312
        · have er := read_inf64 rr ir
          by_cases hs : xsg p q = decide (r < 0)
          · left
            rw [if_neg (fun h => h.2 hs)]
            refine ⟨_, ?_, FW.pat hI.2 hI.1⟩
            unfold Format.fma
            rw [hP, er]
            show Option.map Ieee.double.write (Datum.sum (.infinity (xsg p q)) (.infinity (decide (r < 0)))) = _
            unfold Datum.sum
            dsimp only
            rw [if_pos hs]
            show some (Ieee.double.write (.infinity (xsg p q))) = _
            rw [write_infS]
          · right
            rw [if_pos ⟨ir, hs⟩]
            refine ⟨?_, rfl⟩
            unfold Format.fma
            rw [hP, er]
            show Option.map Ieee.double.write (Datum.sum (.infinity (xsg p q)) (.infinity (decide (r < 0)))) = _
            unfold Datum.sum
            dsimp only
            rw [if_neg hs]
            rfl
        · left
          obtain ⟨l, v, er, _⟩ := read_wd rr ((pok_rg rr).2 (by omega))
          rw [if_neg (fun h => ir h.1)]
          refine ⟨_, ?_, FW.pat hI.2 hI.1⟩
          unfold Format.fma
          rw [hP, er]
          show some (Ieee.double.write (.infinity (xsg p q))) = _
          rw [write_infS]
    · rw [if_neg hi]
      have pp := (pok_rg rp).2 (by omega)
      have pq := (pok_rg rq).2 (by omega)
      by_cases ir : rg r = 9218868437227405312
      · left
        rw [if_pos ir]
        obtain ⟨m, u, ep, _⟩ := read_wd rp pp
        obtain ⟨n, v, eq, _⟩ := read_wd rq pq
        refine ⟨wd r, ?_, FW.pat h4r rr⟩
        unfold Format.fma
        rw [ep, eq, read_inf64 rr ir]
        show some (Ieee.double.write (.infinity (decide (r < 0)))) = _
        rw [write_inf64 rr ir]
      · left
        rw [if_neg ir]
        refine ⟨_, ffma_fin rp rq rr pp pq ((pok_rg rr).2 (by omega)), ?_⟩
        by_cases hS : fmaS p q r = 0
        · rw [if_pos hS]
          obtain ⟨g1, g2⟩ := patS_rng (ng := xsg p q && decide (r < 0)) (r := 0) (by decide) (by decide)
          exact FW.pat g2 g1
        · rw [if_neg hS]
          exact FW.pat (nearP_pat hS).2 (nearP_pat hS).1
end Go.Proofs.YtcpjdgfnblkfpaaGreatDoor
