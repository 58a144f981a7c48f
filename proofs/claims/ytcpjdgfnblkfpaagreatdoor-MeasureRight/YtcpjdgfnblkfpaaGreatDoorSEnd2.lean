/-
  Products of ends, the least and the greatest of some, squares; what lies between ends stays between them. Plain mathematics.
-/
import Derived.Test.YtcpjdgfnblkfpaaGreatDoorSEnd
namespace Go.Proofs.YtcpjdgfnblkfpaaGreatDoor
open Go Go.RowKit Go.Proofs.YtcpjdgfnblkfpaaGreatDoor.M
set_option linter.unusedSimpArgs false
set_option linter.unusedVariables false

def sig (v : Int) : Int := if v < 0 then -1 else if 0 < v then 1 else 0
def eSg (a : En) : Int := if a.i ≠ 0 then a.i else sig a.v
/-- A product in the scale. -/
def mulS (x y : Int) : Int := x * y / 2 ^ 4194304
theorem mulS_comm (x y : Int) : mulS x y = mulS y x := by unfold mulS; rw [Int.mul_comm]
theorem mulS_zero (y : Int) : mulS 0 y = 0 := by unfold mulS; rw [Int.zero_mul]; exact Int.zero_ediv _
theorem div_mono {D x y : Int} (hD : 0 < D) (h : x ≤ y) : x / D ≤ y / D := Int.ediv_le_ediv hD h
theorem mulS_mono {x y c : Int} (h : x ≤ y) (hc : 0 ≤ c) : mulS x c ≤ mulS y c := div_mono (two_pos _) (Int.mul_le_mul_of_nonneg_right h hc)
theorem mulS_anti {x y c : Int} (h : x ≤ y) (hc : c ≤ 0) : mulS y c ≤ mulS x c := div_mono (two_pos _) (Int.mul_le_mul_of_nonpos_right h hc)
theorem mulS_pos {x y : Int} (h : 0 ≤ x) (k : 0 ≤ y) : 0 ≤ mulS x y := by
  have := mulS_mono h k
  rw [mulS_zero] at this
  exact this
theorem mulS_negs {x y : Int} (h : x ≤ 0) (k : y ≤ 0) : 0 ≤ mulS x y := by
  have := mulS_anti h k
  rw [mulS_zero] at this
  exact this
def eTimes (a b : En) : En := if eSg a * eSg b = 0 then ⟨0, 0⟩ else if a.i ≠ 0 ∨ b.i ≠ 0 then ⟨eSg a * eSg b, 0⟩ else ⟨0, mulS a.v b.v⟩
theorem sig_zero {v : Int} (h : sig v = 0) : v = 0 := by unfold sig at h; split at h; (· omega); split at h <;> omega
theorem sig_le {v u : Int} (h : v ≤ u) : sig v ≤ sig u := by unfold sig; repeat' split; all_goals omega
theorem sig_bd (v : Int) : -1 ≤ sig v ∧ sig v ≤ 1 ∧ (0 ≤ sig v ↔ 0 ≤ v) ∧ (sig v ≤ 0 ↔ v ≤ 0) := by unfold sig; repeat' split; all_goals omega
theorem eSg_bd {a : En} (h : a.ok) : -1 ≤ eSg a ∧ eSg a ≤ 1 := by
  unfold eSg
  have := sig_bd a.v
  rcases h with h | ⟨h, _⟩
  · rw [if_neg (by omega)]; exact ⟨this.1, this.2.1⟩
  · rw [if_pos (by omega)]; omega
theorem sg_fin {a : En} (h : a.i = 0) : eSg a = sig a.v := if_neg (fun k => k h)
theorem sg_inf {a : En} (h : a.i ≠ 0) : eSg a = a.i := if_pos h
theorem eSg_mono {a b : En} (ha : a.ok) (hb : b.ok) (h : a.le b) : eSg a ≤ eSg b := by
  have b1 := eSg_bd ha
  have b2 := eSg_bd hb
  unfold En.le at h
  by_cases ia : a.i = 0
  · by_cases ib : b.i = 0
    · rw [sg_fin ia, sg_fin ib]
      exact sig_le (by omega)
    · have : b.i = 1 := by unfold En.ok at hb; omega
      rw [sg_inf ib]; omega
  · by_cases ib : b.i = 0
    · have : a.i = -1 := by unfold En.ok at ha; omega
      rw [sg_inf ia]; omega
    · rw [sg_inf ia, sg_inf ib]; omega
theorem times_fin {a b : En} (ha : a.i = 0) (hb : b.i = 0) : eTimes a b = ⟨0, mulS a.v b.v⟩ := by
  unfold eTimes
  rw [sg_fin ha, sg_fin hb]
  by_cases h : sig a.v * sig b.v = 0
  · rw [if_pos h]
    rcases Int.mul_eq_zero.1 h with k | k
    · rw [sig_zero k, mulS_zero]
    · rw [sig_zero k, mulS_comm, mulS_zero]
  · rw [if_neg h, if_neg (by omega)]
theorem times_infr {a c : En} (hc : c.i ≠ 0) : eTimes a c = ⟨eSg a * c.i, 0⟩ := by
  unfold eTimes
  rw [sg_inf hc]
  by_cases h : eSg a * c.i = 0
  · rw [if_pos h, h]
  · rw [if_neg h, if_pos (.inr hc)]
theorem times_comm (a b : En) : eTimes a b = eTimes b a := by
  unfold eTimes
  rw [Int.mul_comm (eSg a), mulS_comm a.v]
  by_cases h : eSg b * eSg a = 0
  · rw [if_pos h, if_pos h]
  · rw [if_neg h, if_neg h]
    by_cases k : a.i ≠ 0 ∨ b.i ≠ 0
    · rw [if_pos k, if_pos k.symm]
    · rw [if_neg k, if_neg (fun q => k q.symm)]
theorem times_infl {a c : En} (ha : a.i ≠ 0) : eTimes a c = ⟨eSg c * a.i, 0⟩ := by rw [times_comm, times_infr ha]
theorem times_zero (a : En) : eTimes ⟨0, 0⟩ a = ⟨0, 0⟩ := by
  unfold eTimes
  have : eSg ⟨0, 0⟩ = 0 := rfl
  rw [this, Int.zero_mul, if_pos rfl]
theorem times_ok {a b : En} (ha : a.ok) (hb : b.ok) : (eTimes a b).ok := by
  have b1 := eSg_bd ha
  have b2 := eSg_bd hb
  by_cases ib : b.i = 0
  · by_cases ia : a.i = 0
    · rw [times_fin ia ib]; exact .inl rfl
    · rw [times_infl ia]
      unfold En.ok at *
      show eSg b * a.i = 0 ∨ _ 
      have : a.i = 1 ∨ a.i = -1 := by omega
      rcases this with e | e <;> (rw [e]; show eSg b * _ = 0 ∨ (eSg b * _ = 1 ∨ eSg b * _ = -1) ∧ (0 : Int) = 0; simp only [and_true]; omega)
  · rw [times_infr ib]
    unfold En.ok at *
    show eSg a * b.i = 0 ∨ _ 
    have : b.i = 1 ∨ b.i = -1 := by omega
    rcases this with e | e <;> (rw [e]; show eSg a * _ = 0 ∨ (eSg a * _ = 1 ∨ eSg a * _ = -1) ∧ (0 : Int) = 0; simp only [and_true]; omega)
theorem times_mono {a b c : En} (ha : a.ok) (hb : b.ok) (hc : c.ok) (h : a.le b) (hs : 0 ≤ eSg c) : (eTimes a c).le (eTimes b c) := by
  have hm := eSg_mono ha hb h
  by_cases ic : c.i = 0
  · rw [sg_fin ic] at hs
    have hv := (sig_bd c.v).2.2.1.1 hs
    by_cases ia : a.i = 0
    · by_cases ib : b.i = 0
      · rw [times_fin ia ic, times_fin ib ic]
        exact .inr ⟨rfl, mulS_mono (by unfold En.le at h; omega) hv⟩
      · have eb : b.i = 1 := by unfold En.ok En.le at *; omega
        rw [times_fin ia ic, times_infl ib, eb, sg_fin ic]
        rcases Int.lt_or_eq_of_le hs with q | q
        · exact .inl (by show 0 < sig c.v * 1; omega)
        · exact .inr ⟨by show 0 = sig c.v * 1; omega, by show mulS _ _ ≤ 0; rw [sig_zero q.symm, mulS_comm, mulS_zero]; exact Int.le_refl _⟩
    · by_cases ib : b.i = 0
      · have ea : a.i = -1 := by unfold En.ok En.le at *; omega
        rw [times_fin ib ic, times_infl ia, ea, sg_fin ic]
        rcases Int.lt_or_eq_of_le hs with q | q
        · exact .inl (by show sig c.v * -1 < 0; omega)
        · exact .inr ⟨by show sig c.v * -1 = 0; omega, by show 0 ≤ mulS _ _; rw [sig_zero q.symm, mulS_comm, mulS_zero]; exact Int.le_refl _⟩
      · rw [times_infl ia, times_infl ib]
        have : a.i ≤ b.i := by unfold En.le at h; omega
        have hq : eSg c * a.i ≤ eSg c * b.i := Int.mul_le_mul_of_nonneg_left this (by rw [sg_fin ic]; exact hs)
        rcases Int.lt_or_eq_of_le hq with q | q
        · exact .inl q
        · exact .inr ⟨q, Int.le_refl _⟩
  · rw [sg_inf ic] at hs
    rw [times_infr ic, times_infr ic]
    have hq : eSg a * c.i ≤ eSg b * c.i := Int.mul_le_mul_of_nonneg_right hm hs
    rcases Int.lt_or_eq_of_le hq with q | q
    · exact .inl q
    · exact .inr ⟨q, Int.le_refl _⟩
theorem times_anti {a b c : En} (ha : a.ok) (hb : b.ok) (hc : c.ok) (h : a.le b) (hs : eSg c ≤ 0) : (eTimes b c).le (eTimes a c) := by
  have hm := eSg_mono ha hb h
  by_cases ic : c.i = 0
  · rw [sg_fin ic] at hs
    have hv := (sig_bd c.v).2.2.2.1 hs
    by_cases ia : a.i = 0
    · by_cases ib : b.i = 0
      · rw [times_fin ia ic, times_fin ib ic]
        exact .inr ⟨rfl, mulS_anti (by unfold En.le at h; omega) hv⟩
      · have eb : b.i = 1 := by unfold En.ok En.le at *; omega
        rw [times_fin ia ic, times_infl ib, eb, sg_fin ic]
        rcases Int.lt_or_eq_of_le hs with q | q
        · exact .inl (by show sig c.v * 1 < 0; omega)
        · exact .inr ⟨by show sig c.v * 1 = 0; omega, by show 0 ≤ mulS _ _; rw [sig_zero q, mulS_comm, mulS_zero]; exact Int.le_refl _⟩
    · by_cases ib : b.i = 0
      · have ea : a.i = -1 := by unfold En.ok En.le at *; omega
        rw [times_fin ib ic, times_infl ia, ea, sg_fin ic]
        rcases Int.lt_or_eq_of_le hs with q | q
        · exact .inl (by show 0 < sig c.v * -1; omega)
        · exact .inr ⟨by show 0 = sig c.v * -1; omega, by show mulS _ _ ≤ 0; rw [sig_zero q, mulS_comm, mulS_zero]; exact Int.le_refl _⟩
      · rw [times_infl ia, times_infl ib]
        have : a.i ≤ b.i := by unfold En.le at h; omega
        have hq : eSg c * b.i ≤ eSg c * a.i := Int.mul_le_mul_of_nonpos_left (by rw [sg_fin ic]; exact hs) this
        rcases Int.lt_or_eq_of_le hq with q | q
        · exact .inl q
        · exact .inr ⟨q, Int.le_refl _⟩
  · rw [sg_inf ic] at hs
    rw [times_infr ic, times_infr ic]
    have hq : eSg b * c.i ≤ eSg a * c.i := Int.mul_le_mul_of_nonpos_right hm hs
    rcases Int.lt_or_eq_of_le hq with q | q
    · exact .inl q
    · exact .inr ⟨q, Int.le_refl _⟩
/-- The lesser and the greater of two ends. -/
def eMin (a b : En) : En := if b.i < a.i ∨ (b.i = a.i ∧ b.v < a.v) then b else a
def eMax (a b : En) : En := if a.i < b.i ∨ (a.i = b.i ∧ a.v < b.v) then b else a
theorem eMin_le (a b : En) : (eMin a b).le a ∧ (eMin a b).le b ∧ (eMin a b = a ∨ eMin a b = b) := by
  unfold eMin
  split
  · rename_i h
    exact ⟨by unfold En.le; omega, En.le_refl _, .inr rfl⟩
  · rename_i h
    exact ⟨En.le_refl _, by unfold En.le; omega, .inl rfl⟩
theorem eMax_le (a b : En) : a.le (eMax a b) ∧ b.le (eMax a b) ∧ (eMax a b = a ∨ eMax a b = b) := by
  unfold eMax
  split
  · rename_i h
    exact ⟨by unfold En.le; omega, En.le_refl _, .inr rfl⟩
  · rename_i h
    exact ⟨En.le_refl _, by unfold En.le; omega, .inl rfl⟩
theorem lo_min {x y : Int} {e f : En} (hx : nn x) (hy : nn y) (kx : key x = key (eLo e)) (ky : key y = key (eLo f)) : nn (minP x y) ∧ key (minP x y) = key (eLo (eMin e f)) := by
  obtain ⟨a, b, c, d⟩ := minP_nn hx hy
  obtain ⟨l1, l2, l3⟩ := eMin_le e f
  have m1 := (e_mono l1).1
  have m2 := (e_mono l2).1
  refine ⟨a, ?_⟩
  rcases l3 with q | q <;> (rw [q] at m1 m2 ⊢; omega)
theorem hi_max {x y : Int} {e f : En} (hx : nn x) (hy : nn y) (kx : key x = key (eHi e)) (ky : key y = key (eHi f)) : nn (maxP x y) ∧ key (maxP x y) = key (eHi (eMax e f)) := by
  obtain ⟨a, b, c, d⟩ := maxP_nn hx hy
  obtain ⟨l1, l2, l3⟩ := eMax_le e f
  have m1 := (e_mono l1).2
  have m2 := (e_mono l2).2
  refine ⟨a, ?_⟩
  rcases l3 with q | q <;> (rw [q] at m1 m2 ⊢; omega)
/-- What lies between two ends, times a third one. -/
theorem times_btw {a b x c : En} (ha : a.ok) (hb : b.ok) (hx : x.ok) (hc : c.ok) (h1 : a.le x) (h2 : x.le b) : (eMin (eTimes a c) (eTimes b c)).le (eTimes x c) ∧ (eTimes x c).le (eMax (eTimes a c) (eTimes b c)) := by
  obtain ⟨l1, l2, _⟩ := eMin_le (eTimes a c) (eTimes b c)
  obtain ⟨g1, g2, _⟩ := eMax_le (eTimes a c) (eTimes b c)
  rcases Int.le_total 0 (eSg c) with s | s
  · exact ⟨l1.le_trans (times_mono ha hx hc h1 s), (times_mono hx hb hc h2 s).le_trans g2⟩
  · exact ⟨l2.le_trans (times_anti hx hb hc h2 s), (times_anti ha hx hc h1 s).le_trans g1⟩
def eTmLo (a b c d : En) : En := eMin (eMin (eMin (eTimes a c) (eTimes a d)) (eTimes b c)) (eTimes b d)
def eTmHi (a b c d : En) : En := eMax (eMax (eMax (eTimes a c) (eTimes a d)) (eTimes b c)) (eTimes b d)
theorem eTmLo_le (a b c d : En) : (eTmLo a b c d).le (eTimes a c) ∧ (eTmLo a b c d).le (eTimes a d) ∧ (eTmLo a b c d).le (eTimes b c) ∧ (eTmLo a b c d).le (eTimes b d) := by
  unfold eTmLo
  have h1 := eMin_le (eTimes a c) (eTimes a d)
  have h2 := eMin_le (eMin (eTimes a c) (eTimes a d)) (eTimes b c)
  have h3 := eMin_le (eMin (eMin (eTimes a c) (eTimes a d)) (eTimes b c)) (eTimes b d)
  exact ⟨h3.1.le_trans (h2.1.le_trans h1.1), h3.1.le_trans (h2.1.le_trans h1.2.1), h3.1.le_trans h2.2.1, h3.2.1⟩
theorem eTmHi_le (a b c d : En) : (eTimes a c).le (eTmHi a b c d) ∧ (eTimes a d).le (eTmHi a b c d) ∧ (eTimes b c).le (eTmHi a b c d) ∧ (eTimes b d).le (eTmHi a b c d) := by
  unfold eTmHi
  have h1 := eMax_le (eTimes a c) (eTimes a d)
  have h2 := eMax_le (eMax (eTimes a c) (eTimes a d)) (eTimes b c)
  have h3 := eMax_le (eMax (eMax (eTimes a c) (eTimes a d)) (eTimes b c)) (eTimes b d)
  exact ⟨(h1.1.le_trans h2.1).le_trans h3.1, (h1.2.1.le_trans h2.1).le_trans h3.1, h2.2.1.le_trans h3.1, h3.2.1⟩
theorem min_ge {a b x : En} (h : x.le a) (k : x.le b) : x.le (eMin a b) := by rcases (eMin_le a b).2.2 with q | q <;> (rw [q]; assumption)
theorem max_le {a b x : En} (h : a.le x) (k : b.le x) : (eMax a b).le x := by rcases (eMax_le a b).2.2 with q | q <;> (rw [q]; assumption)
theorem tm_btw {a b c d x y : En} (ha : a.ok) (hb : b.ok) (hc : c.ok) (hd : d.ok) (hx : x.ok) (hy : y.ok) (h1 : a.le x) (h2 : x.le b) (h3 : c.le y) (h4 : y.le d) :
    (eTmLo a b c d).le (eTimes x y) ∧ (eTimes x y).le (eTmHi a b c d) := by
  obtain ⟨l1, l2, l3, l4⟩ := eTmLo_le a b c d
  obtain ⟨g1, g2, g3, g4⟩ := eTmHi_le a b c d
  have p := times_btw hc hd hy hx h3 h4
  rw [times_comm c, times_comm d, times_comm y] at p
  have pc := times_btw ha hb hx hc h1 h2
  have pd := times_btw ha hb hx hd h1 h2
  exact ⟨(min_ge ((min_ge l1 l3).le_trans pc.1) ((min_ge l2 l4).le_trans pd.1)).le_trans p.1, p.2.le_trans (max_le (pc.2.le_trans (max_le g1 g3)) (pd.2.le_trans (max_le g2 g4)))⟩
def eSqLo (a b : En) : En := if eSg a ≤ 0 ∧ 0 ≤ eSg b then ⟨0, 0⟩ else eMin (eTimes a a) (eTimes b b)
def eSqHi (a b : En) : En := eMax (eTimes a a) (eTimes b b)
theorem sq_pos {a : En} (h : a.ok) : (⟨0, 0⟩ : En).le (eTimes a a) := by
  rcases Int.le_total 0 (eSg a) with s | s
  · have hz : (⟨0, 0⟩ : En).le a := by
      by_cases ia : a.i = 0
      · rw [sg_fin ia] at s
        exact .inr ⟨ia.symm, (sig_bd a.v).2.2.1.1 s⟩
      · rw [sg_inf ia] at s
        exact .inl (by show 0 < a.i; omega)
    have := times_mono (.inl rfl) h h hz s
    rw [times_zero] at this
    exact this
  · have hz : a.le (⟨0, 0⟩ : En) := by
      by_cases ia : a.i = 0
      · rw [sg_fin ia] at s
        exact .inr ⟨ia, (sig_bd a.v).2.2.2.1 s⟩
      · rw [sg_inf ia] at s
        exact .inl (by show a.i < 0; omega)
    have := times_anti h (.inl rfl) h hz s
    rw [times_zero] at this
    exact this
theorem sq_btw {a b x : En} (ha : a.ok) (hb : b.ok) (hx : x.ok) (h1 : a.le x) (h2 : x.le b) : (eSqLo a b).le (eTimes x x) ∧ (eTimes x x).le (eSqHi a b) := by
  have m1 := eSg_mono ha hx h1
  have m2 := eSg_mono hx hb h2
  obtain ⟨l1, l2, _⟩ := eMin_le (eTimes a a) (eTimes b b)
  obtain ⟨g1, g2, _⟩ := eMax_le (eTimes a a) (eTimes b b)
  have hi : (eTimes x x).le (eSqHi a b) := by
    unfold eSqHi
    rcases Int.le_total 0 (eSg x) with s | s
    · have p1 := times_mono hx hb hx h2 s
      have p2 := times_mono hx hb hb h2 (by omega)
      rw [times_comm x b] at p2
      exact (p1.le_trans p2).le_trans g2
    · have p1 := times_anti ha hx hx h1 s
      have p2 := times_anti ha hx ha h1 (by omega)
      rw [times_comm x a] at p2
      exact (p1.le_trans p2).le_trans g1
  refine ⟨?_, hi⟩
  unfold eSqLo
  split
  · exact sq_pos hx
  · rename_i hs
    by_cases s : 0 < eSg a
    · have p1 := times_mono ha hx ha h1 (by omega)
      have p2 := times_mono ha hx hx h1 (by omega)
      rw [times_comm x a] at p1
      exact l1.le_trans (p1.le_trans p2)
    · have s2 : eSg b < 0 := by omega
      have p1 := times_anti hx hb hb h2 (by omega)
      have p2 := times_anti hx hb hx h2 (by omega)
      rw [times_comm x b] at p1
      exact l2.le_trans (p1.le_trans p2)
/-- A square of an interval, within its product with itself. -/
theorem sq_tm {a b : En} (ha : a.ok) (hb : b.ok) (h : a.le b) : (eTmLo a b a b).le (eSqLo a b) ∧ (eSqHi a b).le (eTmHi a b a b) := by
  obtain ⟨l1, l2, l3, l4⟩ := eTmLo_le a b a b
  obtain ⟨g1, g2, g3, g4⟩ := eTmHi_le a b a b
  refine ⟨?_, max_le g1 g4⟩
  unfold eSqLo
  split
  · rename_i s
    have hz1 : a.le (⟨0, 0⟩ : En) := by
      by_cases ia : a.i = 0
      · rw [sg_fin ia] at s
        exact .inr ⟨ia, (sig_bd a.v).2.2.2.1 s.1⟩
      · rw [sg_inf ia] at s
        exact .inl (by show a.i < 0; omega)
    have := times_mono ha (.inl rfl) hb hz1 s.2
    rw [times_zero] at this
    exact l2.le_trans this
  · exact min_ge l1 l4
theorem sg_of {p : Int} (hp : nn p) : eSg (eOf p) = if rg p = 0 then 0 else if p < 0 then -1 else 1 := by
  by_cases hi : rg p = 9218868437227405312
  · have h0 : ¬ rg p = 0 := by omega
    rw [of_inf hi, sg_inf (by exact infs hi), if_neg h0]
  · rw [of_fin hi, sg_fin rfl]
    show sig (patV p) = _
    have hv := patV_iV hp.1 (rg_pat0 hp hi)
    obtain ⟨k1, k2⟩ := iV_key hp.1
    have hk := key_rg hp.1
    have hr := nn_rg hp
    have hpw := pw_pos (-1074)
    unfold sig
    by_cases h0 : rg p = 0
    · have hz : iV p = 0 := by
        have : key p = 0 := by rw [hk, h0]; split <;> rfl
        omega
      rw [if_pos h0, hv, hz, Int.zero_mul]
      simp
    · rw [if_neg h0]
      by_cases hn : p < 0
      · have : iV p < 0 := k1.2 (by rw [hk, if_pos hn]; omega)
        have : patV p < 0 := by rw [hv]; exact Int.mul_neg_of_neg_of_pos this hpw
        rw [if_pos this, if_pos hn]
      · have : 0 < iV p := k2.2 (by rw [hk, if_neg hn]; omega)
        have : 0 < patV p := by rw [hv]; exact Int.mul_pos this hpw
        rw [if_neg (by omega), if_pos this, if_neg hn]
theorem prod_e {p q : Int} (hp : nn p) (hq : nn q) : canon (prLo p q) = eLo (eTimes (eOf p) (eOf q)) ∧ canon (prHi p q) = eHi (eTimes (eOf p) (eOf q)) := by
  have sp := sg_of hp
  have sq := sg_of hq
  have c0 : canon 0 = 0 := by decide
  have c1 : canon 9218868437227405312 = 9218868437227405312 := by decide
  have c2 : canon (-4503599627370496) = -4503599627370496 := by decide
  by_cases h0 : rg p = 0 ∨ rg q = 0
  · have hE : eTimes (eOf p) (eOf q) = ⟨0, 0⟩ := by
      unfold eTimes
      rw [sp, sq]
      rw [if_pos]
      rcases h0 with h | h
      · rw [if_pos h]; exact Int.zero_mul _
      · rw [if_pos h]; exact Int.mul_zero _
    rw [hE]
    unfold prLo prHi eLo eHi
    rw [if_pos h0, if_pos h0]
    simp only [Int.lt_irrefl, if_false]
    rw [c0]
    exact ⟨c_zero.1.symm, c_zero.2.symm⟩
  · by_cases hi : rg p = 9218868437227405312 ∨ rg q = 9218868437227405312
    · have hn1 : rg p ≠ 0 := fun k => h0 (.inl k)
      have hn2 : rg q ≠ 0 := fun k => h0 (.inr k)
      rw [if_neg hn1] at sp
      rw [if_neg hn2] at sq
      have hE : eTimes (eOf p) (eOf q) = ⟨(if p < 0 then -1 else 1) * (if q < 0 then -1 else 1), 0⟩ := by
        unfold eTimes
        rw [sp, sq]
        rw [if_neg (by split <;> split <;> decide), if_pos]
        rcases hi with h | h
        · left; rw [of_inf h]; exact infs h
        · right; rw [of_inf h]; exact infs h
      rw [hE]
      unfold prLo prHi eLo eHi
      rw [if_neg h0, if_pos hi, if_neg h0, if_pos hi]
      unfold xsg patS
      by_cases a : p < 0 <;> by_cases b : q < 0 <;> simp [a, b] <;> decide
    · have ip : ¬ rg p = 9218868437227405312 := fun k => hi (.inl k)
      have iq : ¬ rg q = 9218868437227405312 := fun k => hi (.inr k)
      obtain ⟨e1, e2⟩ := prod_c hp.1 hq.1 (rg_pat0 hp ip) (rg_pat0 hq iq)
      rw [of_fin ip, of_fin iq, times_fin rfl rfl]
      have hm : mulS (patV p) (patV q) = prV p q := prV_eq.symm
      unfold eLo eHi
      simp only [Int.lt_irrefl, if_false]
      rw [hm]
      exact ⟨e1, e2⟩
theorem pr_keys {p q : Int} (hp : nn p) (hq : nn q) : key (prLo p q) = key (eLo (eTimes (eOf p) (eOf q))) ∧ key (prHi p q) = key (eHi (eTimes (eOf p) (eOf q))) :=
  ⟨of_lo (prLo_nn hp hq).1 (prod_e hp hq).1, of_hi (prLo_nn hp hq).2 (prod_e hp hq).2⟩
theorem tm_e {a b c d : Int} (ha : nn a) (hb : nn b) (hc : nn c) (hd : nn d) : canon (tmLo a b c d) = eLo (eTmLo (eOf a) (eOf b) (eOf c) (eOf d)) ∧ canon (tmHi a b c d) = eHi (eTmHi (eOf a) (eOf b) (eOf c) (eOf d)) := by
  obtain ⟨n1, m1⟩ := prLo_nn ha hc
  obtain ⟨n2, m2⟩ := prLo_nn ha hd
  obtain ⟨n3, m3⟩ := prLo_nn hb hc
  obtain ⟨n4, m4⟩ := prLo_nn hb hd
  obtain ⟨k1, l1⟩ := pr_keys ha hc
  obtain ⟨k2, l2⟩ := pr_keys ha hd
  obtain ⟨k3, l3⟩ := pr_keys hb hc
  obtain ⟨k4, l4⟩ := pr_keys hb hd
  have A1 := lo_min n1 n2 k1 k2
  have A2 := lo_min A1.1 n3 A1.2 k3
  have A3 := lo_min A2.1 n4 A2.2 k4
  have B1 := hi_max m1 m2 l1 l2
  have B2 := hi_max B1.1 m3 B1.2 l3
  have B3 := hi_max B2.1 m4 B2.2 l4
  exact ⟨lo_of A3.1 A3.2, hi_of B3.1 B3.2⟩
/-- The ends of a square, on patterns. -/
def sqLo (a b : Int) : Int := if (key a ≤ 0 ∧ 0 ≤ key b) then 0 else minP (prLo a a) (prLo b b)
def sqHi (a b : Int) : Int := maxP (prHi a a) (prHi b b)
theorem sg_key0 {p : Int} (hp : nn p) : (eSg (eOf p) ≤ 0 ↔ key p ≤ 0) ∧ (0 ≤ eSg (eOf p) ↔ 0 ≤ key p) := by
  rw [sg_of hp, key_rg hp.1]
  have := nn_rg hp
  by_cases h0 : rg p = 0
  · rw [if_pos h0, h0]; split <;> omega
  · rw [if_neg h0]; split <;> omega
theorem sq_nn {a b : Int} (ha : nn a) (hb : nn b) : nn (sqLo a b) ∧ nn (sqHi a b) := by
  refine ⟨?_, (maxP_nn (prLo_nn ha ha).2 (prLo_nn hb hb).2).1⟩
  unfold sqLo
  split
  · exact nn0.1
  · exact (minP_nn (prLo_nn ha ha).1 (prLo_nn hb hb).1).1
theorem sq_e {a b : Int} (ha : nn a) (hb : nn b) : canon (sqLo a b) = eLo (eSqLo (eOf a) (eOf b)) ∧ canon (sqHi a b) = eHi (eSqHi (eOf a) (eOf b)) := by
  obtain ⟨k1, l1⟩ := pr_keys ha ha
  obtain ⟨k4, l4⟩ := pr_keys hb hb
  have A := lo_min (prLo_nn ha ha).1 (prLo_nn hb hb).1 k1 k4
  have B := hi_max (prLo_nn ha ha).2 (prLo_nn hb hb).2 l1 l4
  refine ⟨?_, hi_of B.1 B.2⟩
  unfold sqLo eSqLo
  have s1 := (sg_key0 ha).1
  have s2 := (sg_key0 hb).2
  by_cases h : key a ≤ 0 ∧ 0 ≤ key b
  · rw [if_pos h, if_pos ⟨s1.2 h.1, s2.2 h.2⟩]
    unfold eLo
    simp only [Int.lt_irrefl, if_false]
    exact (show canon 0 = 0 by decide).trans c_zero.1.symm
  · rw [if_neg h, if_neg (fun k => h ⟨s1.1 k.1, s2.1 k.2⟩)]
    exact lo_of A.1 A.2
/-- A float turned. -/
def eNeg (a : En) : En := ⟨-a.i, -a.v⟩
theorem sg_flip {a b : Bool} (h : a ≠ b) (X : Int) : sg a X = - sg b X := by
  cases a <;> cases b <;> simp [sg] at h ⊢
theorem patV_negP {p : Int} (hp : nn p) (hf : pok p = true) (hn : pok (neg p) = true) : patV (neg p) = - patV p := by
  obtain ⟨g1, g2⟩ := su_neg hp
  rw [patV_dec hp.1 hf, patV_dec (nn_neg hp).1.1 hn, g1]
  exact sg_flip g2 _
theorem neg_mk (x : Int) : eNeg ⟨0, x⟩ = ⟨0, -x⟩ := rfl
theorem of_neg {p : Int} (hp : nn p) : eOf (neg p) = eNeg (eOf p) := by
  obtain ⟨hn, hk⟩ := nn_neg hp
  obtain ⟨g1, g2⟩ := su_neg hp
  by_cases hi : rg p = 9218868437227405312
  · rw [of_inf hi, of_inf (by rw [g1]; exact hi)]
    unfold eNeg
    have : (neg p < 0) ↔ ¬ p < 0 := by
      by_cases a : neg p < 0 <;> by_cases b : p < 0 <;> simp [a, b] at g2 ⊢
    by_cases b : p < 0
    · rw [if_pos b, if_neg (fun k => this.1 k b)]; rfl
    · rw [if_neg b, if_pos (this.2 b)]; rfl
  · have hi' : ¬ rg (neg p) = 9218868437227405312 := by rw [g1]; exact hi
    rw [of_fin hi, of_fin hi', neg_mk, patV_negP hp (rg_pat0 hp hi) (rg_pat0 hn hi')]
end Go.Proofs.YtcpjdgfnblkfpaaGreatDoor
