/-
  Ends rounded outward lie around their numbers; intervals that hold a number. Plain mathematics.
-/
import Derived.Test.YtcpjdgfnblkfpaaGreatDoorSEnd2
import Derived.Test.YtcpjdgfnblkfpaaGreatDoorSHas
namespace Go.Proofs.YtcpjdgfnblkfpaaGreatDoor
open Go Go.RowKit Go.Proofs.YtcpjdgfnblkfpaaGreatDoor.M
set_option linter.unusedSimpArgs false
set_option linter.unusedVariables false

theorem le_sgF {x y : Int} (h : x ≤ y) : (⟨0, sg false x⟩ : En).le ⟨0, sg false y⟩ := .inr ⟨rfl, h⟩
theorem le_sgT {x y : Int} (h : y ≤ x) : (⟨0, sg true x⟩ : En).le ⟨0, sg true y⟩ := .inr ⟨rfl, Int.neg_le_neg h⟩
theorem le_up (x : Int) : (⟨0, x⟩ : En).le ⟨1, 0⟩ := .inl (by show (0 : Int) < 1; decide)
theorem le_dn (x : Int) : (⟨-1, 0⟩ : En).le ⟨0, x⟩ := .inl (by show (-1 : Int) < 0; decide)
theorem of_pat (g : Bool) {r : Nat} (h : (r : Int) < 9218868437227405312) : eOf (patS (g && decide (0 < (r : Int))) (r : Int)) = ⟨0, sg g (vS r)⟩ := by
  obtain ⟨a, b, c⟩ := patS_parts (ng := g && decide (0 < (r : Int))) (r := (r : Int)) (by omega) (by omega)
  rw [of_fin (by rw [b]; omega)]
  refine En.eq rfl ?_
  show patV _ = sg g (vS r)
  rw [patV_dec a ((pok_rg a).2 (by rw [b]; exact h)), b, c, Int.toNat_natCast]
  by_cases h0 : 0 < r
  · rw [decide_eq_true (by omega), Bool.and_true]
  · have : r = 0 := by omega
    subst this
    rw [vS_zero]
    cases g <;> rfl
theorem of_patI (g : Bool) : eOf (patS (g && decide ((0 : Int) < 9218868437227405312)) 9218868437227405312) = ⟨if g then -1 else 1, 0⟩ := by
  cases g
  · rw [of_inf (by decide)]; rfl
  · rw [of_inf (by decide)]; rfl
theorem vS_mono {r s : Nat} (h : r ≤ s) : vS r ≤ vS s := by
  rcases Nat.lt_or_eq_of_le h with g | g
  · exact Int.le_of_lt (vS_lt g)
  · rw [g]; exact Int.le_refl _
theorem b_low : bRung 1 false = 9218868437227405311 ∧ bRung 1 true = 9218868437227405312 ∧ bRung 2 false = 9218868437227405312 ∧ bRung 2 true = 9218868437227405311 := ⟨by decide, by decide, by decide, by decide⟩
theorem rTo_high {ng : Bool} {r0 : Nat} {left : Int} (way : Int) (h : ¬ (r0 : Int) < 9218868437227405312) : rTo way ng r0 left = bRung way ng := by
  unfold rTo; rw [if_neg h]
/-- The rung that the way down (up) takes for a size A with a sign: its end lies below (above) the number. -/
theorem low_end {g : Bool} {A : Int} {r0 : Nat} {left : Int} (hR : Rung A r0 left) :
    (eOf (patS (g && decide (0 < rTo 1 g r0 left)) (rTo 1 g r0 left))).le ⟨0, sg g A⟩ ∧ (⟨0, sg g A⟩ : En).le (eOf (patS (g && decide (0 < rTo 2 g r0 left)) (rTo 2 g r0 left))) := by
  obtain ⟨h1, h2, h3⟩ := And.intro hR.lo (And.intro hR.hi hR.l0)
  obtain ⟨b1, b2, b3, b4⟩ := b_low
  by_cases hr : (r0 : Int) < 9218868437227405312
  · obtain ⟨u1, u2, u3, u4, u5⟩ := rUp_dn (decide (r0 % 2 = 1)) left
    rw [rTo_low 1 hr, rTo_low 2 hr]
    by_cases hl : left = 0
    · have hA := h3.1 hl
      rw [u5 1 g hl, u5 2 g hl, hA]
      simp only [Bool.false_eq_true, if_false, Int.add_zero]
      rw [of_pat g hr]
      exact ⟨En.le_refl _, En.le_refl _⟩
    · have hup : ∀ s : Bool, (eOf (patS (s && decide (0 < (r0 : Int) + 1)) ((r0 : Int) + 1))) = if (r0 : Int) + 1 < 9218868437227405312 then ⟨0, sg s (vS (r0 + 1))⟩ else ⟨if s then -1 else 1, 0⟩ := fun s => by
        by_cases q : (r0 : Int) + 1 < 9218868437227405312
        · rw [if_pos q]
          have := of_pat s (r := r0 + 1) (by omega)
          rw [Int.natCast_add] at this
          exact this
        · rw [if_neg q]
          have e : (r0 : Int) + 1 = 9218868437227405312 := by omega
          rw [e]
          exact of_patI s
      cases g
      · rw [u1, u4 hl]
        simp only [Bool.false_eq_true, if_false, if_true, Int.add_zero]
        rw [of_pat false hr, hup false]
        refine ⟨le_sgF h1, ?_⟩
        split
        · exact le_sgF (Int.le_of_lt h2)
        · exact le_up _
      · rw [u2 hl, u3]
        simp only [Bool.false_eq_true, if_false, if_true, Int.add_zero]
        rw [of_pat true hr, hup true]
        refine ⟨?_, le_sgT h1⟩
        split
        · exact le_sgT (Int.le_of_lt h2)
        · exact le_dn _
  · rw [rTo_high 1 hr, rTo_high 2 hr]
    have hm := of_pat g (r := 9218868437227405311) (by decide)
    have hv : vS 9218868437227405311 ≤ A := Int.le_trans (vS_mono (by omega)) h1
    have hm' : eOf (patS (g && decide ((0 : Int) < 9218868437227405311)) 9218868437227405311) = ⟨0, sg g (vS 9218868437227405311)⟩ := hm
    clear hm
    generalize vS 9218868437227405311 = X at hm' hv
    cases g
    · rw [b1, b3, hm', of_patI false]
      exact ⟨le_sgF hv, le_up _⟩
    · rw [b2, b4, hm', of_patI true]
      exact ⟨le_dn _, le_sgT hv⟩
theorem of_zero : eOf 0 = ⟨0, 0⟩ := by rw [of_fin (by decide), patV_zeroE.1]
theorem c_btw (V : Int) : (eOf (cLo V)).le ⟨0, V⟩ ∧ (⟨0, V⟩ : En).le (eOf (cHi V)) := by
  by_cases h0 : V = 0
  · subst h0
    rw [c_zero.1, c_zero.2, of_zero]
    exact ⟨En.le_refl _, En.le_refl _⟩
  · obtain ⟨g, A, r0, left, e, hA, hR, c1, c2⟩ := c_rung h0
    rw [c1, c2, e]
    exact low_end hR
theorem le_of {p q : Int} (hp : nn p) (hq : nn q) (h : (eOf p).le (eOf q)) : key p ≤ key q := by
  have := (e_mono h).1
  rw [(e_of hp).1, (e_of hq).1, (key_canon hp).1, (key_canon hq).1] at this
  exact this
theorem c_le (V : Int) : key (cLo V) ≤ key (cHi V) := le_of (c_nn V).1 (c_nn V).2 ((c_btw V).1.le_trans (c_btw V).2)
theorem e_le (a : En) : key (eLo a) ≤ key (eHi a) := by
  unfold eLo eHi
  split
  · exact Int.le_refl _
  · split
    · exact Int.le_refl _
    · exact c_le _
theorem c_fin (V : Int) : key (cLo V) < 9218868437227405312 ∧ -9218868437227405312 < key (cHi V) := by
  obtain ⟨h1, h2⟩ := c_btw V
  have n1 := (c_nn V).1
  have n2 := (c_nn V).2
  have i1 := of_le nn_inf.1 n1
  have i2 := of_le n2 nn_inf.2
  rw [key_infs.1] at i1
  rw [key_infs.2] at i2
  rw [of_inf (show rg 9218868437227405312 = 9218868437227405312 by decide)] at i1
  rw [of_inf (show rg (-4503599627370496) = 9218868437227405312 by decide)] at i2
  constructor
  · refine Int.lt_of_not_ge fun q => ?_
    have := (i1 q).le_trans h1
    unfold En.le at this
    simp at this
  · refine Int.lt_of_not_ge fun q => ?_
    have := h2.le_trans (i2 q)
    unfold En.le at this
    simp at this
theorem e_vld {e f : En} (h : e.le f) (h1 : e.i ≤ 0) (h2 : 0 ≤ f.i) : vld (eLo e) (eHi f) = true := by
  have n1 := (e_nn e).1
  have n2 := (e_nn f).2
  refine vld_iff.2 ⟨n1.2, n2.2, Int.le_trans (e_mono h).1 (e_le f), ?_, ?_⟩
  · unfold eLo
    rw [if_neg (by omega)]
    split
    · decide
    · exact (c_fin _).1
  · unfold eHi
    split
    · decide
    · rw [if_neg (by omega)]
      exact (c_fin _).2
/-- An interval that holds a number. -/
structure Holds (e f : En) (V : Int) : Prop where
  lo : e.le ⟨0, V⟩
  hi : (⟨0, V⟩ : En).le f
theorem Holds.vld {e f : En} {V : Int} (h : Holds e f V) : vld (eLo e) (eHi f) = true := by
  refine e_vld (h.lo.le_trans h.hi) ?_ ?_
  · have := h.lo; unfold En.le at this; simp at this; omega
  · have := h.hi; unfold En.le at this; simp at this; omega
theorem Holds.keys {e f : En} {V : Int} (h : Holds e f V) : key (eLo e) ≤ key (cLo V) ∧ key (cHi V) ≤ key (eHi f) := by
  have h1 := (e_mono h.lo).1
  have h2 := (e_mono h.hi).2
  unfold eLo at h1 ⊢
  unfold eHi at h2 ⊢
  exact ⟨h1, h2⟩
theorem Holds.inI {e f : En} {V : Int} (h : Holds e f V) : inI (eLo e) (eHi f) (cLo V) (cHi V) = true := by
  obtain ⟨h1, h2⟩ := h.keys
  unfold Go.Proofs.YtcpjdgfnblkfpaaGreatDoor.inI
  exact decide_eq_true ⟨h1, h2⟩
theorem plus_fin {a c : En} (ha : a.i = 0) (hc : c.i = 0) : ePlus a c = ⟨0, a.v + c.v⟩ := by
  unfold ePlus; rw [if_neg (fun k => k ha), if_neg (fun k => k hc)]
theorem plus_l {a c : En} (ha : a.i ≠ 0) : ePlus a c = a := if_pos ha
theorem plus_r {a c : En} (ha : a.i = 0) (hc : c.i ≠ 0) : ePlus a c = c := by
  unfold ePlus; rw [if_neg (fun k => k ha), if_pos hc]
theorem Holds.plus {a b c d : En} {x y : Int} (h : Holds a b x) (k : Holds c d y) : Holds (ePlus a c) (ePlus b d) (x + y) := by
  have h1 := h.lo
  have h2 := h.hi
  have k1 := k.lo
  have k2 := k.hi
  unfold En.le at h1 h2 k1 k2
  simp only at h1 h2 k1 k2
  constructor
  · by_cases ia : a.i = 0
    · by_cases ic : c.i = 0
      · rw [plus_fin ia ic]; exact .inr ⟨rfl, by show a.v + c.v ≤ x + y; omega⟩
      · rw [plus_r ia ic]; exact .inl (by show c.i < 0; omega)
    · rw [plus_l ia]; exact .inl (by show a.i < 0; omega)
  · by_cases ib : b.i = 0
    · by_cases id : d.i = 0
      · rw [plus_fin ib id]; exact .inr ⟨rfl, by show x + y ≤ b.v + d.v; omega⟩
      · rw [plus_r ib id]; exact .inl (by show 0 < d.i; omega)
    · rw [plus_l ib]; exact .inl (by show 0 < b.i; omega)
theorem Holds.neg {a b : En} {x : Int} (h : Holds a b x) : Holds (eNeg b) (eNeg a) (-x) := by
  have h1 := h.lo
  have h2 := h.hi
  unfold En.le at h1 h2
  simp only at h1 h2
  constructor
  · unfold eNeg En.le; simp only; omega
  · unfold eNeg En.le; simp only; omega
theorem Holds.times {a b c d : En} {x y : Int} (ha : a.ok) (hb : b.ok) (hc : c.ok) (hd : d.ok) (h : Holds a b x) (k : Holds c d y) : Holds (eTmLo a b c d) (eTmHi a b c d) (mulS x y) := by
  have := tm_btw ha hb hc hd (.inl rfl) (.inl rfl) h.lo h.hi k.lo k.hi
  rw [times_fin rfl rfl] at this
  exact ⟨this.1, this.2⟩
theorem Holds.square {a b : En} {x : Int} (ha : a.ok) (hb : b.ok) (h : Holds a b x) : Holds (eSqLo a b) (eSqHi a b) (mulS x x) := by
  have := sq_btw ha hb (.inl rfl) h.lo h.hi
  rw [times_fin rfl rfl] at this
  exact ⟨this.1, this.2⟩
theorem Holds.of {lo hi b : Int} (hl : nn lo) (hh : nn hi) (hb : nn b) (pb : pok b = true) (h : key lo ≤ key b) (k : key b ≤ key hi) : Holds (eOf lo) (eOf hi) (patV b) := by
  have hf : ¬ rg b = 9218868437227405312 := by have := (pok_rg hb.1).1 pb; omega
  have h1 := of_le hl hb h
  have h2 := of_le hb hh k
  rw [of_fin hf] at h1 h2
  exact ⟨h1, h2⟩
theorem Holds.vldP {lo hi : Int} {V : Int} (hl : nn lo) (hh : nn hi) (h : Holds (eOf lo) (eOf hi) V) : M.vld lo hi = true := by
  have hv := h.vld
  rw [(e_of hl).1, (e_of hh).2] at hv
  obtain ⟨v1, v2, v3, v4, v5⟩ := vld_iff.1 hv
  rw [(key_canon hl).1] at v3 v4
  rw [(key_canon hh).1] at v3 v5
  exact vld_iff.2 ⟨hl.2, hh.2, v3, v4, v5⟩
theorem Holds.keysP {lo hi : Int} {V : Int} (hl : nn lo) (hh : nn hi) (h : Holds (eOf lo) (eOf hi) V) : key lo ≤ key (cLo V) ∧ key (cHi V) ≤ key hi := by
  have := h.keys
  rw [(e_of hl).1, (e_of hh).2, (key_canon hl).1, (key_canon hh).1] at this
  exact this
/-- A single number's interval. -/
theorem min_self (a : En) : eMin a a = a := by unfold eMin; split <;> rfl
theorem max_self (a : En) : eMax a a = a := by unfold eMax; split <;> rfl
theorem tm_self (a c : En) : eTmLo a a c c = eTimes a c ∧ eTmHi a a c c = eTimes a c := by
  unfold eTmLo eTmHi
  rw [min_self, min_self, min_self, max_self, max_self, max_self]
  exact ⟨rfl, rfl⟩
theorem sq_self {a : En} (h : a.ok) : eSqLo a a = eTimes a a ∧ eSqHi a a = eTimes a a := by
  unfold eSqLo eSqHi
  rw [min_self, max_self]
  refine ⟨?_, rfl⟩
  split
  · rename_i s
    have h0 : eSg a = 0 := by omega
    unfold eTimes
    rw [h0, Int.zero_mul, if_pos rfl]
  · rfl
theorem of_canon {p : Int} (h : nn p) : eOf (canon p) = eOf p := by
  by_cases h0 : cls p = 0
  · have hz := (cls_rg h.1).2.1 h0
    have hc : canon p = 0 := by unfold canon; rw [if_neg h.2, if_pos h0]
    rw [hc, of_zero, of_fin (by omega)]
    rcases rg_zero h.1 hz with rfl | rfl
    · rw [patV_zeroE.1]
    · rw [patV_zeroE.2]
  · have hc : canon p = p := by unfold canon; rw [if_neg h.2, if_neg h0]
    rw [hc]
theorem of_c {b : Int} (hb : rng b) (pb : pok b = true) : eOf (cLo (patV b)) = ⟨0, patV b⟩ ∧ eOf (cHi (patV b)) = ⟨0, patV b⟩ := by
  have nb : nn b := ⟨hb, pok_clsF hb pb⟩
  have hf : ¬ rg b = 9218868437227405312 := by have := (pok_rg hb).1 pb; omega
  obtain ⟨e1, e2⟩ := e_of nb
  rw [of_fin hf] at e1 e2
  have e1' : cLo (patV b) = canon b := e1
  have e2' : cHi (patV b) = canon b := e2
  rw [e1', e2', of_canon nb, of_fin hf]
  exact ⟨rfl, rfl⟩
theorem c_sign (V : Int) : (0 < key (cLo V) → 0 < V) ∧ (key (cHi V) < 0 → V < 0) ∧ (key (cLo V) ≤ 0 → 0 ≤ key (cHi V) → key (cLo V) = 0 → key (cHi V) = 0 → V = 0) := by
  have k0 : key 0 = 0 := by decide
  obtain ⟨h1, h2⟩ := c_btw V
  have n1 := (c_nn V).1
  have n2 := (c_nn V).2
  refine ⟨fun h => ?_, fun h => ?_, fun _ _ h k => ?_⟩
  · refine Int.lt_of_not_ge fun q => ?_
    have := (c_mono q).1
    rw [c_zero.1, k0] at this
    omega
  · refine Int.lt_of_not_ge fun q => ?_
    have := (c_mono q).2
    rw [c_zero.2, k0] at this
    omega
  · have a := (of_le nn0.1 n1 (by rw [k0, h]; exact Int.le_refl _)).le_trans h1
    have b := h2.le_trans (of_le n2 nn0.1 (by rw [k0, k]; exact Int.le_refl _))
    rw [of_zero] at a b
    unfold En.le at a b
    simp only at a b
    omega
end Go.Proofs.YtcpjdgfnblkfpaaGreatDoor
