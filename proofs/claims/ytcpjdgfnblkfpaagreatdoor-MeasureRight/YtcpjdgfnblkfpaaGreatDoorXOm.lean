/-
  Plain mathematics for the last stage of package orient: differences of tame floats in two parts, their products, and the sign of an expansion.
-/
import Derived.Test.YtcpjdgfnblkfpaaGreatDoorXSu
namespace Go.Proofs.YtcpjdgfnblkfpaaGreatDoor
open Go Go.RowKit Go.Proofs.YtcpjdgfnblkfpaaGreatDoor.M
set_option linter.unusedSimpArgs false
set_option linter.unusedVariables false

/-- The sign of an expansion is that of its last float. -/
theorem lsm_sign {d : Nat → Int} {n : Nat} (h : XV d (n + 1)) : (0 < lsm d (n + 1) ↔ 0 < iV (d n)) ∧ (lsm d (n + 1) < 0 ↔ iV (d n) < 0) := by
  have hne := h.ne (show n < n + 1 by omega)
  cases n with
  | zero =>
    have : lsm d 1 = iV (d 0) := by rw [lsm_succ]; show 0 + _ = _; omega
    rw [this]; exact ⟨Iff.rfl, Iff.rfl⟩
  | succ n =>
    obtain ⟨s, h1, h2⟩ := h.lo n (by omega)
    have ih := lsm_lt (n := n) ⟨fun i hi => h.fin i (by omega), fun i hi => h.lo i (by omega)⟩ s h1
    have hge := dvd_abs_le h2 hne (p2 s)
    rw [lsm_succ]
    omega
/-- What a difference of coordinates gives: nought, or from the middle. -/
def Mz (x : Int) : Prop := rng x ∧ pok x = true ∧ (2 ^ 872 : Int) ∣ iV x ∧ ((iV x).natAbs : Int) ≤ 2 ^ 1224
theorem tame_Mz {x : Int} (hx : rng x) (ht : tame x = true) : Mz x := by
  rw [tame_fld hx] at ht
  by_cases h0 : rg x = 0
  · have hc := (cls_nought hx).2 h0
    have hp : pok x = true := by
      cases hp : pok x
      · exfalso
        have hf : fld x = 2047 := by simpa [pok] using hp
        unfold cls at hc
        rw [if_pos hf] at hc
        split at hc <;> omega
      · rfl
    rw [Mz, iV_nought hx h0]
    exact ⟨hx, hp, ⟨0, by rw [Int.mul_zero]⟩, by have := p2 1224; show (((0 : Int).natAbs : Nat) : Int) ≤ _; omega⟩
  · have hz : decide (rg x = 0) = false := decide_eq_false h0
    rw [hz, Bool.false_or, Bool.and_eq_true] at ht
    have h1 := of_decide_eq_true ht.1
    have h2 := of_decide_eq_true ht.2
    have hf0 : fld x ≠ 2047 := by omega
    have hf1 : fld x ≠ 0 := by omega
    have hp : pok x = true := by simp [pok, hf0]
    have hfr := frc_le x
    have e1 : pmag x = 4503599627370496 + frc x := by unfold pmag; rw [if_neg hf0, if_neg hf1]
    have e2 : pexp x = fld x - 1075 := by unfold pexp; rw [if_neg hf0, if_neg hf1]
    have hm : pmag x ≤ 2 ^ 53 := by
      rw [e1]
      show _ ≤ 9007199254740992
      omega
    refine ⟨hx, hp, ?_, ?_⟩
    · apply Int.dvd_natAbs.1
      rw [iV_form hx hp]
      exact Int.dvd_trans (p2dvd (show 872 ≤ (pexp x + 1074).toNat by rw [e2]; omega)) ⟨pmag x, by rw [Int.mul_comm]⟩
    · rw [iV_form hx hp]
      have p1 : (2 : Int) ^ (pexp x + 1074).toNat ≤ 2 ^ 1171 := p2le (by rw [e2]; omega)
      have p0 := p2 (pexp x + 1074).toNat
      calc pmag x * 2 ^ (pexp x + 1074).toNat ≤ 2 ^ 53 * 2 ^ (pexp x + 1074).toNat := Int.mul_le_mul_of_nonneg_right hm (by omega)
        _ ≤ 2 ^ 53 * 2 ^ 1171 := Int.mul_le_mul_of_nonneg_left p1 (by decide)
        _ = 2 ^ 1224 := by rw [← Int.pow_add]
/-- A difference in two parts. -/
def dfL (p q : Int) : Ls := ((⟨0, fun _ => 0⟩ : Ls).add (sL p (neg q))).add (fsum p (neg q))
theorem df_fin {p q : Int} (hp : Mz p) (hq : Mz q) : pok (fsum p (neg q)) = true ∧ pok (sL p (neg q)) = true := by
  obtain ⟨n1, n2, n3⟩ := neg_facts hq.1 hq.2.1
  have hM := maxV_ge
  have h1 : (2 : Int) ^ 1225 ≤ 2 ^ 2097 := p2le (by decide)
  have h2 : (2 : Int) ^ 1225 = 2 * 2 ^ 1224 := p2s 1224
  have a := hp.2.2.2
  have b := hq.2.2.2
  exact sum_fin hp.1 n1 hp.2.1 n2 (by omega) (by rw [n3]; omega)
theorem dfL_mid {p q : Int} (hp : Mz p) (hq : Mz q) : XV (dfL p q).d (dfL p q).n ∧ (∀ j, j < (dfL p q).n → Mid ((dfL p q).d j)) ∧ (dfL p q).n ≤ 2 ∧ lsm (dfL p q).d (dfL p q).n = iV p - iV q := by
  obtain ⟨n1, n2, n3⟩ := neg_facts hq.1 hq.2.1
  obtain ⟨f1, f2⟩ := df_fin hp hq
  have nr := fsum_nr hp.1 n1 f2
  have e := (sL_exact hp.1 n1 f2).2.2
  have rh := fsum_rng hp.1 n1
  have rl : rng (sL p (neg q)) := sL_rng hp.1 n1
  have hl := nr_loss (fl_iV p) nr
  have z := nr.2 0 fl_zero
  have dS : (2 ^ 872 : Int) ∣ iV p + iV (neg q) := by
    rw [n3]
    exact Int.dvd_add hp.2.2.1 (Int.dvd_neg.2 hq.2.2.1)
  have dh := nr_dvd nr dS
  have el : iV (sL p (neg q)) = iV p + iV (neg q) - iV (fsum p (neg q)) := by omega
  have dl : (2 ^ 872 : Int) ∣ iV (sL p (neg q)) := by rw [el]; exact Int.dvd_sub dS dh
  have a := hp.2.2.2
  have b := hq.2.2.2
  have pw1 : (2 : Int) ^ 1226 ≤ 2 ^ 1250 := p2le (by decide)
  have pw2 : (2 : Int) ^ 1226 = 4 * 2 ^ 1224 := by rw [show 1226 = 1224 + 1 + 1 by decide, p2s, p2s]; omega
  have up : (2 ^ 822 : Int) ∣ 2 ^ 872 := p2dvd (by decide)
  have x0 : XV (⟨0, fun _ => 0⟩ : Ls).d (⟨0, fun _ => 0⟩ : Ls).n := ⟨fun i hi => absurd hi (Nat.not_lt_zero _), fun i hi => absurd hi (Nat.not_lt_zero _)⟩
  have x1 := x0.add (b := sL p (neg q)) rl f2 (fun i hi => absurd hi (Nat.not_lt_zero _))
  refine ⟨x1.add rh f1 ?_, ?_, ?_, ?_⟩
  · refine add_all (fun x => Lo (iV x) (iV (fsum p (neg q)))) (fun i hi => absurd hi (Nat.not_lt_zero _)) fun hz => ?_
    have hne := (iV_some rl f2 hz).1
    obtain ⟨u, h1, h2⟩ := nr_unit nr (fun c => hne (by omega))
    rw [← el] at h2
    exact ⟨u, h2, h1⟩
  · refine add_all Mid (add_all Mid (fun i hi => absurd hi (Nat.not_lt_zero _)) fun hz => ?_) fun hz => ?_
    · exact ⟨rl, f2, hz, Int.dvd_trans up dl, by rw [n3] at *; omega⟩
    · exact ⟨rh, f1, hz, Int.dvd_trans up dh, by rw [n3] at *; omega⟩
  · have h1 := ((⟨0, fun _ => 0⟩ : Ls).add_le (sL p (neg q))).2
    have h2 := (((⟨0, fun _ => 0⟩ : Ls).add (sL p (neg q))).add_le (fsum p (neg q))).2
    have h1' : ((⟨0, fun _ => 0⟩ : Ls).add (sL p (neg q))).n ≤ 0 + 1 := h1
    show (((⟨0, fun _ => 0⟩ : Ls).add (sL p (neg q))).add (fsum p (neg q))).n ≤ 2
    omega
  · show lsm (((⟨0, fun _ => 0⟩ : Ls).add (sL p (neg q))).add (fsum p (neg q))).d (((⟨0, fun _ => 0⟩ : Ls).add (sL p (neg q))).add (fsum p (neg q))).n = _
    rw [lsm_add rh, lsm_add rl]
    show (0 : Int) + _ + _ = _
    omega
/-- The determinant by expansions: no step fails, and the sign is the exact one's. -/
theorem det_mid {ax ay bx by' cx cy : Int} (hax : Mz ax) (hay : Mz ay) (hbx : Mz bx) (hby : Mz by') (hcx : Mz cx) (hcy : Mz cy) :
    let L := prS (dfL ax cx).d (dfL ax cx).n (dfL by' cy).d (dfL by' cy).n
    let R := prS (dfL ay cy).d (dfL ay cy).n (dfL bx cx).d (dfL bx cx).n
    prX (dfL ax cx).d (dfL ax cx).n (dfL by' cy).d (dfL by' cy).n = true ∧ prX (dfL ay cy).d (dfL ay cy).n (dfL bx cx).d (dfL bx cx).n = true ∧ XV L.d L.n ∧ XV R.d R.n ∧
    gaX ⟨L.n, L.d⟩ (fun i => neg (R.d i)) R.n = true ∧ XV (gaS ⟨L.n, L.d⟩ (fun i => neg (R.d i)) R.n).d (gaS ⟨L.n, L.d⟩ (fun i => neg (R.d i)) R.n).n ∧
    2 ^ 1074 * lsm (gaS ⟨L.n, L.d⟩ (fun i => neg (R.d i)) R.n).d (gaS ⟨L.n, L.d⟩ (fun i => neg (R.d i)) R.n).n = (iV ax - iV cx) * (iV by' - iV cy) - (iV ay - iV cy) * (iV bx - iV cx) := by
  intro L R
  obtain ⟨u1, u2, u3, u4⟩ := dfL_mid hax hcx
  obtain ⟨v1, v2, v3, v4⟩ := dfL_mid hby hcy
  obtain ⟨s1, s2, s3, s4⟩ := dfL_mid hay hcy
  obtain ⟨t1, t2, t3, t4⟩ := dfL_mid hbx hcx
  obtain ⟨l1, l2, l3, l4⟩ := pr_all u1 u2 (by omega) v2 (by omega) (dfL by' cy).n (Nat.le_refl _)
  obtain ⟨r1, r2, r3, r4⟩ := pr_all s1 s2 (by omega) t2 (by omega) (dfL bx cx).n (Nat.le_refl _)
  rw [u4, v4] at l4
  rw [s4, t4] at r4
  have hRn : R.n ≤ 8 := Nat.le_trans (prS_le _ _ _ _) (by
    have : 2 * (dfL ay cy).n * (dfL bx cx).n ≤ 2 * 2 * 2 := Nat.mul_le_mul (by omega) (by omega)
    omega)
  have hnf : ∀ i, i < R.n → rng (neg (R.d i)) ∧ pok (neg (R.d i)) = true := fun i hi => ⟨(neg_facts (r2.fn i hi).1 (r2.fn i hi).2).1, (neg_facts (r2.fn i hi).1 (r2.fn i hi).2).2.1⟩
  obtain ⟨g1, g2, _, g4⟩ := gaS_all3 (s := ⟨L.n, L.d⟩) (f := fun i => neg (R.d i)) (m := R.n) (b := 1552) l2 hnf (fun i hi => p2_up (l3 i hi) (by omega)) (fun i hi => by
    show ((iV (neg (R.d i))).natAbs : Int) ≤ _
    rw [(neg_facts (r2.fn i hi).1 (r2.fn i hi).2).2.2]
    have := p2_up (r3 i hi) (show 1480 + 36 * (dfL bx cx).n ≤ 1552 by omega)
    omega) (by omega) R.n (Nat.le_refl _)
  refine ⟨l1, r1, l2, r2, g1, g2, ?_⟩
  rw [g4, lsm_neg r2.fn]
  have e1 : 2 ^ 1074 * lsm L.d L.n = (iV ax - iV cx) * (iV by' - iV cy) := l4
  have e2 : 2 ^ 1074 * lsm R.d R.n = (iV ay - iV cy) * (iV bx - iV cx) := r4
  rw [Int.mul_add, Int.mul_neg, e1, e2]
  omega
end Go.Proofs.YtcpjdgfnblkfpaaGreatDoor
