/-
  Intervals by their exact ends: infinite with a sign, or a number in the scale; both rounded outward. Plain mathematics: what sums and products of ends become.
-/
import Derived.Test.YtcpjdgfnblkfpaaGreatDoorSTi2
import Derived.Test.YtcpjdgfnblkfpaaGreatDoorRMir
import Derived.Test.YtcpjdgfnblkfpaaGreatDoorSOps
namespace Go.Proofs.YtcpjdgfnblkfpaaGreatDoor
open Go Go.RowKit Go.Proofs.YtcpjdgfnblkfpaaGreatDoor.M
set_option linter.unusedSimpArgs false
set_option linter.unusedVariables false

/-- An end: infinite with a sign (i), or a number (v). -/
structure En where
  i : Int
  v : Int
def En.le (a b : En) : Prop := a.i < b.i ∨ (a.i = b.i ∧ a.v ≤ b.v)
def En.ok (a : En) : Prop := a.i = 0 ∨ ((a.i = 1 ∨ a.i = -1) ∧ a.v = 0)
def eLo (a : En) : Int := if 0 < a.i then 9218868437227405312 else if a.i < 0 then -4503599627370496 else cLo a.v
def eHi (a : En) : Int := if 0 < a.i then 9218868437227405312 else if a.i < 0 then -4503599627370496 else cHi a.v
def eOf (p : Int) : En := if rg p = 9218868437227405312 then ⟨if p < 0 then -1 else 1, 0⟩ else ⟨0, patV p⟩
theorem En.eq {a b : En} (h : a.i = b.i) (k : a.v = b.v) : a = b := by cases a; cases b; cases h; cases k; rfl
theorem En.le_refl (a : En) : a.le a := .inr ⟨rfl, Int.le_refl _⟩
theorem En.le_trans {a b c : En} (h : a.le b) (k : b.le c) : a.le c := by
  unfold En.le at *
  omega
theorem En.le.le_trans {a b c : En} (h : a.le b) (k : b.le c) : a.le c := En.le_trans h k
theorem En.le_total (a b : En) : a.le b ∨ b.le a := by
  unfold En.le
  omega
theorem rdof_ex (V : Int) : ∃ (ng : Bool) (f : Int → Int × Bool), RdOf V ng f := by
  by_cases h0 : V = 0
  · subst h0
    exact ⟨false, fun way => (patS (false && decide (0 < rTo way false 0 0)) (rTo way false 0 0), decide ((0 : Int) ≠ 0) || decide (9218868437227405312 ≤ ((0 : Nat) : Int))), 0, 0, 0, rfl, (fun h => by cases h), rung_zero, fun way => rfl⟩
  · obtain ⟨g, A, r0, left, e, hA, hR, _, _⟩ := c_rung h0
    exact ⟨g, fun way => (patS (g && decide (0 < rTo way g r0 left)) (rTo way g r0 left), decide (left ≠ 0) || decide (9218868437227405312 ≤ (r0 : Int))), A, r0, left, e, fun _ => hA, hR, fun way => rfl⟩
theorem c_nn (V : Int) : nn (cLo V) ∧ nn (cHi V) := by
  obtain ⟨ng, f, h⟩ := rdof_ex V
  obtain ⟨c1, c2⟩ := around_c h
  obtain ⟨A, r0, left, e, hn, hR, hf⟩ := h
  obtain ⟨_, a2, a3⟩ := RdOf.key (V := V) (A := A) (hf 1)
  obtain ⟨_, b2, b3⟩ := RdOf.key (V := V) (A := A) (hf 2)
  rw [c1] at a2 a3
  rw [c2] at b2 b3
  exact ⟨⟨a3, a2⟩, ⟨b3, b2⟩⟩
theorem not_less {a b : Int} (ha : nn a) (hb : nn b) (h : less a b = false) : key b ≤ key a := by
  unfold less at h
  simp [ha.2, hb.2] at h
  exact h
theorem c_mono {V U : Int} (h : V ≤ U) : key (cLo V) ≤ key (cLo U) ∧ key (cHi V) ≤ key (cHi U) := by
  obtain ⟨ng, f, k⟩ := rdof_ex V
  obtain ⟨mg, g, l⟩ := rdof_ex U
  obtain ⟨c1, c2⟩ := around_c k
  obtain ⟨d1, d2⟩ := around_c l
  have m1 := rd_mono k l h 1
  have m2 := rd_mono k l h 2
  rw [c1, d1] at m1
  rw [c2, d2] at m2
  exact ⟨not_less (c_nn U).1 (c_nn V).1 m1, not_less (c_nn U).2 (c_nn V).2 m2⟩
theorem nn_inf : nn 9218868437227405312 ∧ nn (-4503599627370496) := ⟨⟨by unfold rng; omega, by decide⟩, ⟨by unfold rng; omega, by decide⟩⟩
theorem key_bd {p : Int} (h : nn p) : -9218868437227405312 ≤ key p ∧ key p ≤ 9218868437227405312 := by
  have := nn_rg h
  unfold rg at this
  unfold key
  split at this <;> (split <;> omega)
theorem e_nn (a : En) : nn (eLo a) ∧ nn (eHi a) := by
  unfold eLo eHi
  split
  · exact ⟨nn_inf.1, nn_inf.1⟩
  · split
    · exact ⟨nn_inf.2, nn_inf.2⟩
    · exact c_nn _
theorem key_infs : key 9218868437227405312 = 9218868437227405312 ∧ key (-4503599627370496) = -9218868437227405312 := ⟨by decide, by decide⟩
theorem e_mono {a b : En} (h : a.le b) : key (eLo a) ≤ key (eLo b) ∧ key (eHi a) ≤ key (eHi b) := by
  obtain ⟨k1, k2⟩ := key_infs
  have n1 := key_bd (c_nn a.v).1
  have n2 := key_bd (c_nn a.v).2
  have n3 := key_bd (c_nn b.v).1
  have n4 := key_bd (c_nn b.v).2
  have m := fun q => @c_mono a.v b.v q
  unfold eLo eHi
  rcases h with h | ⟨h, h'⟩
  · by_cases p1 : 0 < a.i
    · have p2 : 0 < b.i := by omega
      rw [if_pos p1, if_pos p1, if_pos p2, if_pos p2]
      exact ⟨Int.le_refl _, Int.le_refl _⟩
    · by_cases p2 : 0 < b.i
      · rw [if_neg p1, if_neg p1, if_pos p2, if_pos p2]
        split <;> (rw [k1]; first | (rw [k2]; omega) | omega)
      · have p3 : a.i < 0 := by omega
        rw [if_neg p1, if_neg p1, if_pos p3, if_pos p3, if_neg p2, if_neg p2]
        split <;> (rw [k2]; first | omega | skip)
  · rw [h]
    split
    · exact ⟨Int.le_refl _, Int.le_refl _⟩
    · split
      · exact ⟨Int.le_refl _, Int.le_refl _⟩
      · exact m h'
theorem canon_canon (p : Int) : canon (canon p) = canon p := by
  have c1 : canon 9221120237041090561 = 9221120237041090561 := by decide
  have c2 : canon 0 = 0 := by decide
  by_cases h4 : cls p = 4
  · have : canon p = 9221120237041090561 := by unfold canon; rw [if_pos h4]
    rw [this, c1]
  · by_cases h0 : cls p = 0
    · have : canon p = 0 := by unfold canon; rw [if_neg h4, if_pos h0]
      rw [this, c2]
    · have : canon p = p := by unfold canon; rw [if_neg h4, if_neg h0]
      rw [this, this]
theorem e_canon (a : En) : canon (eLo a) = eLo a ∧ canon (eHi a) = eHi a := by
  unfold eLo eHi
  split
  · exact ⟨by decide, by decide⟩
  · split
    · exact ⟨by decide, by decide⟩
    · unfold cLo cHi
      split
      · exact ⟨by decide, by decide⟩
      · exact ⟨canon_canon _, canon_canon _⟩
theorem canon_key {p q : Int} (hp : nn p) (hq : nn q) (h : key p = key q) : canon p = canon q := by
  by_cases e : p = q
  · rw [e]
  · rcases key_zeros hp.1 hq.1 h e with ⟨rfl, rfl⟩ | ⟨rfl, rfl⟩ <;> decide
/-- A pattern whose place is that of an end. -/
theorem lo_of {p : Int} {a : En} (hp : nn p) (h : key p = key (eLo a)) : canon p = eLo a := (canon_key hp (e_nn a).1 h).trans (e_canon a).1
theorem hi_of {p : Int} {a : En} (hp : nn p) (h : key p = key (eHi a)) : canon p = eHi a := (canon_key hp (e_nn a).2 h).trans (e_canon a).2
theorem of_lo {p : Int} {a : En} (hp : nn p) (h : canon p = eLo a) : key p = key (eLo a) := by rw [← h, (key_canon hp).1]
theorem of_hi {p : Int} {a : En} (hp : nn p) (h : canon p = eHi a) : key p = key (eHi a) := by rw [← h, (key_canon hp).1]
theorem pat_of {p : Int} (hp : rng p) : p = patS (decide (p < 0)) (rg p) := by
  unfold rng at hp
  unfold patS rg
  by_cases h : p < 0
  · rw [if_pos h, decide_eq_true h]; simp
  · rw [if_neg h, decide_eq_false h]; simp
theorem rg_zero {p : Int} (hp : rng p) (h : rg p = 0) : p = 0 ∨ p = -9223372036854775808 := by
  unfold rg at h
  split at h <;> omega
theorem patV_zeroE : patV 0 = 0 ∧ patV (-9223372036854775808) = 0 := by
  refine ⟨?_, ?_⟩
  · unfold patV
    rw [show pmag 0 = 0 by decide, show pneg 0 = false by decide]
    exact Int.zero_mul _
  · unfold patV
    rw [show pmag (-9223372036854775808) = 0 by decide]
    show sg (pneg (-9223372036854775808)) 0 * _ = 0
    cases pneg (-9223372036854775808) <;> exact Int.zero_mul _
theorem c_zero : cLo 0 = 0 ∧ cHi 0 = 0 := by unfold cLo cHi; rw [if_pos rfl, if_pos rfl]; exact ⟨rfl, rfl⟩
/-- A float's own end, rounded: it is the float. -/
theorem e_of {p : Int} (hp : nn p) : eLo (eOf p) = canon p ∧ eHi (eOf p) = canon p := by
  have hr := nn_rg hp
  obtain ⟨c1, c2⟩ := cls_rg hp.1
  unfold eOf
  by_cases hi : rg p = 9218868437227405312
  · rw [if_pos hi]
    have hc : canon p = p := by
      unfold canon
      rw [if_neg hp.2, if_neg (fun k => by have := c2.1 k; omega)]
    rw [hc]
    have h2 := hp.1
    unfold rng at h2
    unfold rg at hi
    unfold eLo eHi
    by_cases h0 : p < 0
    · rw [if_pos h0] at hi
      simp only [if_pos h0]
      exact ⟨by simp; omega, by simp; omega⟩
    · rw [if_neg h0] at hi
      simp only [if_neg h0]
      exact ⟨by simp; omega, by simp; omega⟩
  · rw [if_neg hi]
    have hf : pok p = true := rg_pat0 hp hi
    unfold eLo eHi
    simp only [Int.lt_irrefl, if_false]
    by_cases h0 : rg p = 0
    · have hz := rg_zero hp.1 h0
      have hc : canon p = 0 := by
        unfold canon
        rw [if_neg hp.2, if_pos (c2.2 h0)]
      have hv : patV p = 0 := by
        rcases hz with rfl | rfl
        · exact patV_zeroE.1
        · exact patV_zeroE.2
      rw [hv, hc]
      exact c_zero
    · have hc : canon p = p := by
        unfold canon
        rw [if_neg hp.2, if_neg (fun k => h0 (c2.1 k))]
      have hv := patV_dec hp.1 hf
      have hn : ((rg p).toNat : Int) = rg p := Int.toNat_of_nonneg hr.1
      obtain ⟨a1, a2⟩ := c_at (g := decide (p < 0)) (r := (rg p).toNat) (by omega) (by omega)
      rw [← hv, hn, ← pat_of hp.1] at a1 a2
      rw [hc]
      exact ⟨a1, a2⟩
theorem key_rg {p : Int} (hp : rng p) : key p = if p < 0 then - rg p else rg p := by
  unfold key rg
  split <;> rfl
theorem iV_le {p q : Int} (hp : rng p) (hq : rng q) (h : key p ≤ key q) : iV p ≤ iV q := by
  rcases Int.lt_or_eq_of_le h with h | h
  · exact Int.le_of_lt (iV_mono hp hq h)
  · by_cases e : p = q
    · rw [e]; exact Int.le_refl _
    · rcases key_zeros hp hq h e with ⟨rfl, rfl⟩ | ⟨rfl, rfl⟩ <;> decide
theorem patV_le {p q : Int} (hp : rng p) (hq : rng q) (pp : pok p = true) (pq : pok q = true) (h : key p ≤ key q) : patV p ≤ patV q := by
  rw [patV_iV hp pp, patV_iV hq pq]
  exact Int.mul_le_mul_of_nonneg_right (iV_le hp hq h) (Int.le_of_lt (pw_pos _))
theorem of_le {p q : Int} (hp : nn p) (hq : nn q) (h : key p ≤ key q) : (eOf p).le (eOf q) := by
  have kp := key_rg hp.1
  have kq := key_rg hq.1
  have rp := nn_rg hp
  have rq := nn_rg hq
  unfold eOf
  by_cases ip : rg p = 9218868437227405312
  · by_cases iq : rg q = 9218868437227405312
    · rw [if_pos ip, if_pos iq]
      unfold En.le
      show (if p < 0 then (-1 : Int) else 1) < (if q < 0 then (-1 : Int) else 1) ∨ ((if p < 0 then (-1 : Int) else 1) = (if q < 0 then (-1 : Int) else 1) ∧ (0 : Int) ≤ 0)
      split at kp <;> split at kq <;> simp_all <;> omega
    · rw [if_pos ip, if_neg iq]
      unfold En.le
      show (if p < 0 then (-1 : Int) else 1) < 0 ∨ _
      split at kp
      · rw [if_pos (by assumption)]; exact .inl (by decide)
      · exfalso; split at kq <;> omega
  · by_cases iq : rg q = 9218868437227405312
    · rw [if_neg ip, if_pos iq]
      unfold En.le
      show 0 < (if q < 0 then (-1 : Int) else 1) ∨ _
      split at kq
      · exfalso; split at kp <;> omega
      · rw [if_neg (by assumption)]; exact .inl (by decide)
    · rw [if_neg ip, if_neg iq]
      exact .inr ⟨rfl, patV_le hp.1 hq.1 (rg_pat0 hp ip) (rg_pat0 hq iq) h⟩
theorem eOf_ok (p : Int) : (eOf p).ok := by
  unfold eOf En.ok
  split
  · show (if p < 0 then (-1 : Int) else 1) = 0 ∨ _
    split
    · exact .inr ⟨.inr rfl, rfl⟩
    · exact .inr ⟨.inl rfl, rfl⟩
  · exact .inl rfl
/-- The sum of two ends on one side. -/
def ePlus (a b : En) : En := if a.i ≠ 0 then a else if b.i ≠ 0 then b else ⟨0, a.v + b.v⟩
theorem of_fin {p : Int} (h : ¬ rg p = 9218868437227405312) : eOf p = ⟨0, patV p⟩ := if_neg h
theorem of_inf {p : Int} (h : rg p = 9218868437227405312) : eOf p = ⟨if p < 0 then -1 else 1, 0⟩ := if_pos h
theorem infs {p : Int} (h : rg p = 9218868437227405312) : (if p < 0 then (-1 : Int) else 1) ≠ 0 := by split <;> decide
theorem plus_e {p q : Int} (hp : nn p) (hq : nn q) (hno : ¬ (rg p = 9218868437227405312 ∧ rg q = 9218868437227405312 ∧ decide (p < 0) ≠ decide (q < 0))) :
    nn (suN p q) ∧ canon (beLo (suN p q) (suL p q)) = eLo (ePlus (eOf p) (eOf q)) ∧ canon (beHi (suN p q) (suL p q)) = eHi (ePlus (eOf p) (eOf q)) := by
  have rp := nn_rg hp
  have rq := nn_rg hq
  by_cases ip : rg p = 9218868437227405312
  · have hE : ePlus (eOf p) (eOf q) = eOf p := by
      rw [of_inf ip]; unfold ePlus; exact if_pos (infs ip)
    rw [hE]
    by_cases iq : rg q = 9218868437227405312
    · have hpq : p = q := by
        have hd : decide (p < 0) = decide (q < 0) := Classical.byContradiction fun c => hno ⟨ip, iq, c⟩
        rw [pat_of hp.1, pat_of hq.1, ip, iq, hd]
      subst hpq
      have hh : hiM p p = p := by unfold hiM; split <;> rfl
      obtain ⟨e1, e2, e3⟩ := su_infEnd hp hp (by rw [hh]; exact ip) hno
      rw [e2, e3, e1, hh]
      exact ⟨hp, (e_of hp).1.symm, (e_of hp).2.symm⟩
    · have hh : hiM p q = p := by unfold hiM; rw [if_neg (by omega)]
      obtain ⟨e1, e2, e3⟩ := su_infEnd hp hq (by rw [hh]; exact ip) hno
      rw [e2, e3, e1, hh]
      exact ⟨hp, (e_of hp).1.symm, (e_of hp).2.symm⟩
  · by_cases iq : rg q = 9218868437227405312
    · have hE : ePlus (eOf p) (eOf q) = eOf q := by
        rw [of_fin ip, of_inf iq]; unfold ePlus
        rw [if_neg (by simp), if_pos (infs iq)]
      rw [hE]
      have hh : hiM p q = q := by unfold hiM; rw [if_pos (by omega)]
      obtain ⟨e1, e2, e3⟩ := su_infEnd hp hq (by rw [hh]; exact iq) hno
      rw [e2, e3, e1, hh]
      exact ⟨hq, (e_of hq).1.symm, (e_of hq).2.symm⟩
    · have hE : ePlus (eOf p) (eOf q) = ⟨0, patV p + patV q⟩ := by
        rw [of_fin ip, of_fin iq]; unfold ePlus
        rw [if_neg (by simp), if_neg (by simp)]
      rw [hE]
      obtain ⟨a, b, c⟩ := sum_c hp.1 hq.1 (rg_pat0 hp ip) (rg_pat0 hq iq)
      unfold eLo eHi
      simp only [Int.lt_irrefl, if_false]
      exact ⟨a, b, c⟩
end Go.Proofs.YtcpjdgfnblkfpaaGreatDoor
