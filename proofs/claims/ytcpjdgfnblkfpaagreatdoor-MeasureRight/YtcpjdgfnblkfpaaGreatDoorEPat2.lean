/-
  Sums and products of patterns, as whole numbers of the least float: the nearest ones; finite where the exact one is not too great; finite only where both operands are.
-/
import Derived.Test.YtcpjdgfnblkfpaaGreatDoorEPat
namespace Go.Proofs.YtcpjdgfnblkfpaaGreatDoor
open Go Go.RowKit Go.Proofs.YtcpjdgfnblkfpaaGreatDoor.M Ieee
set_option linter.unusedSimpArgs false
set_option linter.unusedVariables false

theorem nan_rng : rng 9221120237041090561 := by unfold rng; decide
theorem nan_no : pok 9221120237041090561 = false := by decide
theorem pok_of {p : Int} (hp : rng p) (h4 : ¬ cls p = 4) (hi : ¬ rg p = 9218868437227405312) : pok p = true := by
  have := (cls_rg hp).1
  rw [pok_rg hp]
  have : ¬ 9218868437227405312 < rg p := fun c => h4 (this.2 c)
  omega
theorem inf_no {p : Int} (hp : rng p) (hi : rg p = 9218868437227405312) : ¬ pok p = true := fun h => by
  have := (pok_rg hp).1 h
  omega
theorem fin_cls {p : Int} (hp : rng p) (h : pok p = true) : ¬ cls p = 4 ∧ ¬ rg p = 9218868437227405312 := by
  have h1 := (pok_rg hp).1 h
  exact ⟨fun c => by have := (cls_rg hp).1.1 c; omega, by omega⟩
theorem fsum_args {p q : Int} (hp : rng p) (hq : rng q) (h : pok (fsum p q) = true) : pok p = true ∧ pok q = true := by
  unfold fsum at h
  by_cases c4 : cls p = 4 ∨ cls q = 4
  · rw [if_pos c4, nan_no] at h; cases h
  rw [if_neg c4] at h
  by_cases ci : rg p = 9218868437227405312
  · rw [if_pos ci] at h
    by_cases cj : rg q = 9218868437227405312 ∧ decide (p < 0) ≠ decide (q < 0)
    · rw [if_pos cj, nan_no] at h; cases h
    · rw [if_neg cj] at h; exact absurd h (inf_no hp ci)
  rw [if_neg ci] at h
  by_cases cj : rg q = 9218868437227405312
  · rw [if_pos cj] at h; exact absurd h (inf_no hq cj)
  exact ⟨pok_of hp (fun c => c4 (.inl c)) ci, pok_of hq (fun c => c4 (.inr c)) cj⟩
theorem fprod_args {p q : Int} (hp : rng p) (hq : rng q) (h : pok (fprod p q) = true) : pok p = true ∧ pok q = true := by
  unfold fprod at h
  by_cases c4 : cls p = 4 ∨ cls q = 4
  · rw [if_pos c4, nan_no] at h; cases h
  rw [if_neg c4] at h
  by_cases ci : rg p = 9218868437227405312 ∨ rg q = 9218868437227405312
  · rw [if_pos ci] at h
    by_cases cj : rg p = 0 ∨ rg q = 0
    · rw [if_pos cj, nan_no] at h; cases h
    · rw [if_neg cj, patS_fin (by decide) (by decide)] at h
      simp at h
  exact ⟨pok_of hp (fun c => c4 (.inl c)) (fun c => ci (.inl c)), pok_of hq (fun c => c4 (.inr c)) (fun c => ci (.inr c))⟩
theorem zero_facts (g : Bool) : rng (patS g 0) ∧ pok (patS g 0) = true ∧ iV (patS g 0) = 0 := by
  refine ⟨(patS_parts (by decide) (by decide)).1, ?_, ?_⟩
  · rw [patS_fin (by decide) (by decide)]; decide
  · rw [iV_patS (by decide) (by decide)]
    show sg g (V Ieee.double 0 : Int) = 0
    rw [V_zero]
    exact sg_zero g
/-- What a step tells: a pattern; a nearest float of the exact number, where it is finite; finite, where that number is not too great. -/
structure EStp (S p : Int) : Prop where
  rn : rng p
  nr : pok p = true → Nr S (iV p)
  fin : (S.natAbs : Int) ≤ maxV → pok p = true
theorem stp_zero (g : Bool) : EStp 0 (patS g 0) := by
  obtain ⟨a, b, c⟩ := zero_facts g
  exact ⟨a, fun _ => by rw [c]; exact nr_zero, fun _ => b⟩
theorem stp_near {S : Int} (h : S ≠ 0) : EStp S (nearP (S * pw (-1074))) := by
  obtain ⟨a, b, c⟩ := near_iV h
  exact ⟨a, b, c⟩
theorem k_fs {a b T u Z k w : Int} (hz : 0 < Z) (e2 : w * w = u * Z) (e3 : w = u * k) (hT : k * T = a * b) : a * w * (b * w) / Z = T * w := by
  have e1 : a * w * (b * w) = a * b * (w * w) := by
    rw [Int.mul_assoc, Int.mul_assoc]; congr 1; rw [← Int.mul_assoc, ← Int.mul_assoc, Int.mul_comm w b]
  rw [e1, e2, ← hT]
  have : k * T * (u * Z) = T * w * Z := by
    rw [e3, Int.mul_comm k T, Int.mul_assoc, Int.mul_assoc, ← Int.mul_assoc k u Z, Int.mul_comm k u]
  rw [this]
  exact Int.mul_ediv_cancel _ (by omega)
theorem k_zero {T w : Int} (g : Bool) (hw : 0 < w) (d : sg g (T * w) = 0) : T = 0 := by
  have := sg_eq_zero d
  rcases Int.mul_eq_zero.1 this with g | g <;> omega
theorem k_zero0 {T w : Int} (hw : 0 < w) (d : T * w = 0) : T = 0 := by
  rcases Int.mul_eq_zero.1 d with g | g <;> omega
theorem k_sgz {T w : Int} (g : Bool) (h : T = 0) : sg g (T * w) = 0 := by rw [h, Int.zero_mul]; exact sg_zero g
theorem k_sgsg (g : Bool) (A : Int) : sg g (sg g A) = A := by cases g <;> simp [sg]
theorem stp_sum {p q : Int} (hp : rng p) (hq : rng q) (pp : pok p = true) (pq : pok q = true) : EStp (iV p + iV q) (fsum p q) := by
  obtain ⟨a1, a2⟩ := fin_cls hp pp
  obtain ⟨b1, b2⟩ := fin_cls hq pq
  have e : fsum p q = if iV p + iV q = 0 then patS (decide (p < 0) && decide (q < 0)) 0 else nearP ((iV p + iV q) * pw (-1074)) := by
    unfold fsum
    rw [if_neg (fun c => c.elim a1 b1), if_neg a2, if_neg b2, patV_iV hp pp, patV_iV hq pq, ← Int.add_mul]
    have hq := pw_pos (-1074)
    by_cases c : iV p + iV q = 0
    · rw [if_pos c, if_pos (by rw [c, Int.zero_mul])]
    · rw [if_neg c, if_neg (fun d => c (k_zero0 hq d))]
  rw [e]
  by_cases c : iV p + iV q = 0
  · rw [if_pos c, c]; exact stp_zero _
  · rw [if_neg c]; exact stp_near c
theorem stp_prod {p q T : Int} (hp : rng p) (hq : rng q) (pp : pok p = true) (pq : pok q = true) (hT : 2 ^ 1074 * T = iV p * iV q) : EStp T (fprod p q) := by
  obtain ⟨a1, a2⟩ := fin_cls hp pp
  obtain ⟨b1, b2⟩ := fin_cls hq pq
  have hw := pw_pos (-1074)
  have hs : patV p * patV q / 2 ^ 4194304 = T * pw (-1074) := by
    rw [patV_iV hp pp, patV_iV hq pq]
    have e2 := pw_mul (a := -1074) (b := -1074) (by decide) (by decide)
    rw [show (-1074 + -1074 : Int) = -2148 by decide] at e2
    have e3 := pw_add (e := -2148) (by decide) 1074
    rw [show (-2148 + ((1074 : Nat) : Int)) = -1074 by decide] at e3
    exact k_fs (two_pos 4194304) e2 e3 hT
  have e : fprod p q = if T = 0 then patS (xsg p q) 0 else nearP (T * pw (-1074)) := by
    unfold fprod fsize
    rw [if_neg (fun c => c.elim a1 b1), if_neg (fun c => c.elim a2 b2), hs]
    by_cases c : T = 0
    · rw [if_pos c, if_pos (k_sgz _ c)]
    · rw [if_neg c, if_neg (fun d => c (k_zero _ hw d)), k_sgsg]
  rw [e]
  by_cases c : T = 0
  · rw [if_pos c, c]; exact stp_zero _
  · rw [if_neg c]; exact stp_near c
theorem neg_facts {q : Int} (hq : rng q) (h : pok q = true) : rng (neg q) ∧ pok (neg q) = true ∧ iV (neg q) = -iV q := by
  obtain ⟨b1, b2⟩ := fin_cls hq h
  have h1 := (pok_rg hq).1 h
  have e : neg q = patS (!decide (q < 0)) (rg q) := by
    unfold neg patS rg
    rw [if_neg b1]
    by_cases c : q < 0
    · rw [if_pos c, if_pos c, decide_eq_true c]; rfl
    · rw [if_neg c, if_neg c, decide_eq_false c]; rfl
  have h0 : 0 ≤ rg q := by unfold rg; unfold rng at hq; split <;> omega
  obtain ⟨c1, c2, c3⟩ := patS_parts (ng := !decide (q < 0)) h0 (by omega)
  refine ⟨by rw [e]; exact c1, by rw [e, patS_fin h0 (by omega)]; exact decide_eq_true h1, ?_⟩
  rw [e, iV_patS h0 (by omega)]
  unfold iV
  rw [sg_not]
theorem neg_arg {q : Int} (hq : rng q) (h : pok (neg q) = true) : pok q = true := by
  unfold neg at h
  by_cases c : cls q = 4
  · rw [if_pos c, nan_no] at h; cases h
  · by_cases ci : rg q = 9218868437227405312
    · exfalso
      rw [if_neg c] at h
      have hr : rng (if q < 0 then q + 9223372036854775808 else q - 9223372036854775808) := by unfold rng at *; split <;> omega
      have := (pok_rg hr).1 h
      unfold rg at this ci
      split at this <;> split at ci <;> split at this <;> omega
    · exact pok_of hq c ci
theorem neg_rng {q : Int} (hq : rng q) : rng (neg q) := by
  unfold neg rng at *
  split
  · omega
  · split <;> omega
theorem stp_diff {p q : Int} (hp : rng p) (hq : rng q) (pp : pok p = true) (pq : pok q = true) : EStp (iV p - iV q) (fsum p (neg q)) := by
  obtain ⟨a, b, c⟩ := neg_facts hq pq
  have := stp_sum hp a pp b
  rw [c] at this
  exact this
theorem fdiff_args {p q : Int} (hp : rng p) (hq : rng q) (h : pok (fsum p (neg q)) = true) : pok p = true ∧ pok q = true := by
  obtain ⟨a, b⟩ := fsum_args hp (neg_rng hq) h
  exact ⟨a, neg_arg hq b⟩
theorem fsum_rng {p q : Int} (hp : rng p) (hq : rng q) : rng (fsum p q) := by
  by_cases h : pok p = true ∧ pok q = true
  · exact (stp_sum hp hq h.1 h.2).rn
  · unfold fsum
    by_cases c4 : cls p = 4 ∨ cls q = 4
    · rw [if_pos c4]; exact nan_rng
    rw [if_neg c4]
    by_cases ci : rg p = 9218868437227405312
    · rw [if_pos ci]; split
      · exact nan_rng
      · exact hp
    rw [if_neg ci]
    by_cases cj : rg q = 9218868437227405312
    · rw [if_pos cj]; exact hq
    exact absurd ⟨pok_of hp (fun c => c4 (.inl c)) ci, pok_of hq (fun c => c4 (.inr c)) cj⟩ h
theorem fprod_rng {p q : Int} (hp : rng p) (hq : rng q) : rng (fprod p q) := by
  unfold fprod
  split
  · exact nan_rng
  · split
    · split
      · exact nan_rng
      · exact (patS_parts (by decide) (by decide)).1
    · split
      · exact (patS_parts (by decide) (by decide)).1
      · rename_i h
        exact (nearP_pat (fun c => h (sg_eq_zero c))).1
end Go.Proofs.YtcpjdgfnblkfpaaGreatDoor
