/-
  Parts of the proof, one behind another.
-/
import Derived.Test.YthpachmmjjlomaaGreatDoorPart28
import Derived.Test.YthpachmmjjlomaaGreatDoorPart25
import Derived.Test.YthpachmmjjlomaaGreatDoorPart8
import Derived.Deep.RegionHeld3
import Derived.Test.YthpachmmjjlomaaGreatDoorPart7
import Derived.Test.YthpachmmjjlomaaGreatDoorPart1
namespace Go.Proofs.YthpachmmjjlomaaGreatDoor
open Go Go.RowKit Go.Proofs.YthpachmmjjlomaaGreatDoor.M
set_option linter.unusedSimpArgs false
set_option linter.unusedVariables false
theorem En.anti {a b : En} (h : a.le b) (k : b.le a) : a = b := by
  obtain ⟨ai, av⟩ := a
  obtain ⟨bi, bv⟩ := b
  unfold En.le at h k
  simp only at h k
  have e1 : ai = bi := by omega
  have e2 : av = bv := by omega
  rw [e1, e2]
theorem eTimes_comm (a b : En) : eTimes a b = eTimes b a := by
  unfold eTimes
  rw [Int.mul_comm (eSg a), mulS_comm a.v]
  congr 2
  exact propext (or_comm)
theorem eTmLo_is (a b c d : En) : eTmLo a b c d = eTimes a c ∨ eTmLo a b c d = eTimes a d ∨ eTmLo a b c d = eTimes b c ∨ eTmLo a b c d = eTimes b d := by
  unfold eTmLo
  rcases (eMin_le (eMin (eMin (eTimes a c) (eTimes a d)) (eTimes b c)) (eTimes b d)).2.2 with h | h
  . rw [h]
    rcases (eMin_le (eMin (eTimes a c) (eTimes a d)) (eTimes b c)).2.2 with h | h
    . rw [h]
      rcases (eMin_le (eTimes a c) (eTimes a d)).2.2 with h | h
      . exact .inl h
      . exact .inr (.inl h)
    . exact .inr (.inr (.inl h))
  . exact .inr (.inr (.inr h))
theorem eTmHi_is (a b c d : En) : eTmHi a b c d = eTimes a c ∨ eTmHi a b c d = eTimes a d ∨ eTmHi a b c d = eTimes b c ∨ eTmHi a b c d = eTimes b d := by
  unfold eTmHi
  rcases (eMax_le (eMax (eMax (eTimes a c) (eTimes a d)) (eTimes b c)) (eTimes b d)).2.2 with h | h
  . rw [h]
    rcases (eMax_le (eMax (eTimes a c) (eTimes a d)) (eTimes b c)).2.2 with h | h
    . rw [h]
      rcases (eMax_le (eTimes a c) (eTimes a d)).2.2 with h | h
      . exact .inl h
      . exact .inr (.inl h)
    . exact .inr (.inr (.inl h))
  . exact .inr (.inr (.inr h))
theorem tmLo_half (a b c d : En) : (eTmLo a b c d).le (eTmLo c d a b) := by
  obtain ⟨h1, h2, h3, h4⟩ := eTmLo_le a b c d
  rcases eTmLo_is c d a b with h | h | h | h <;> rw [h, eTimes_comm]
  . exact h1
  . exact h3
  . exact h2
  . exact h4
theorem tmHi_half (a b c d : En) : (eTmHi c d a b).le (eTmHi a b c d) := by
  obtain ⟨h1, h2, h3, h4⟩ := eTmHi_le a b c d
  rcases eTmHi_is c d a b with h | h | h | h <;> rw [h, eTimes_comm]
  . exact h1
  . exact h3
  . exact h2
  . exact h4
theorem tm_comm (a b c d : Int) : tLo a b c d = tLo c d a b ∧ tHi a b c d = tHi c d a b := by
  unfold tLo tHi
  rw [En.anti (tmLo_half (eOf a) (eOf b) (eOf c) (eOf d)) (tmLo_half (eOf c) (eOf d) (eOf a) (eOf b)), En.anti (tmHi_half (eOf c) (eOf d) (eOf a) (eOf b)) (tmHi_half (eOf a) (eOf b) (eOf c) (eOf d))]
  exact ⟨rfl, rfl⟩
theorem dotX_comm (ax ay bx by' cx cy : Int) : dotX cx cy bx by' ax ay = dotX ax ay bx by' cx cy := by
  unfold dotX
  rw [Int.mul_comm (iV cx - iV bx), Int.mul_comm (iV cy - iV by')]
theorem d_comm (ax ay bx by' cx cy : Int) : dLo cx cy bx by' ax ay = dLo ax ay bx by' cx cy ∧ dHi cx cy bx by' ax ay = dHi ax ay bx by' cx cy := by
  unfold dLo dHi qLo qHi
  rw [(tm_comm (gLo cx bx) _ _ _).1, (tm_comm (gLo cx bx) _ _ _).2, (tm_comm (gLo cy by') _ _ _).1, (tm_comm (gLo cy by') _ _ _).2]
  exact ⟨rfl, rfl⟩
theorem xsg_comm (p q : Int) : xsg p q = xsg q p := by
  unfold xsg
  cases decide (p < 0) <;> cases decide (q < 0) <;> rfl
theorem fprod_comm {p q : Int} (hp : rng p) (hq : rng q) (pp : pok p = true) (pq : pok q = true) : fprod p q = fprod q p := by
  have e := prod_scale (iV p) (iV q)
  rw [<- patV_iV hp pp, <- patV_iV hq pq] at e
  have e' : (iV p * iV q * pw (-2148)) * 2 ^ 4194304 = patV q * patV p := by rw [e, Int.mul_comm]
  rcases fprod_near hp hq pp pq e with ⟨c, h⟩ | ⟨c, h⟩
  . rcases fprod_near hq hp pq pp e' with ⟨c', h'⟩ | ⟨c', h'⟩
    . rw [h, h', xsg_comm]
    . exact absurd c c'
  . rcases fprod_near hq hp pq pp e' with ⟨c', h'⟩ | ⟨c', h'⟩
    . exact absurd c' c
    . rw [h, h']
theorem aP_comm {a b c : Int} (ha : Mz a) (hb : Mz b) (hc : Mz c) : aP c b a = aP a b c := by
  have f1 := (ha.diff hb).1
  have f2 := (hc.diff hb).1
  exact fprod_comm f2.r f1.r f2.p f1.p
theorem allT3_comm (ax ay bx by' cx cy : Int) : allT3 cx cy bx by' ax ay = allT3 ax ay bx by' cx cy := by
  unfold allT3
  cases pttame ax ay <;> cases pttame bx by' <;> cases pttame cx cy <;> rfl
def stF (T : Bool) (m d : Int) (k : Bool) : Int := if T then (if key m < rg d then 1 else 4) else (if k then 5 else 6)
theorem stF_no (m d m' d' : Int) (k : Bool) : stF false m d k = stF false m' d' k := rfl
theorem stF_yes {m d m' d' : Int} (k k' : Bool) (h1 : m = m') (h2 : rg d = rg d') : stF true m d k = stF true m' d' k' := by
  subst h1
  unfold stF
  rw [h2]
  rfl
theorem anSt_eq (ax ay bx by' cx cy : Int) : anSt ax ay bx by' cx cy = stF (allT3 ax ay bx by' cx cy) (fprod c49 (anS ax ay bx by' cx cy)) (anD ax ay bx by' cx cy) (sgK (dLo ax ay bx by' cx cy) (dHi ax ay bx by' cx cy)) := by
  unfold anSt stF
  generalize fprod c49 (anS ax ay bx by' cx cy) = m
  generalize anD ax ay bx by' cx cy = d
  rfl
theorem faSt_eq (ax ay bx by' cx cy dx dy : Int) : faSt ax ay bx by' cx cy dx dy = stF (allT4 ax ay bx by' cx cy dx dy) (fprod c49 (faS ax ay bx by' cx cy dx dy)) (faD ax ay bx by' cx cy dx dy) (sgK (fLo ax ay bx by' cx cy dx dy) (fHi ax ay bx by' cx cy dx dy)) := by
  unfold faSt stF
  generalize fprod c49 (faS ax ay bx by' cx cy dx dy) = m
  generalize faD ax ay bx by' cx cy dx dy = d
  rfl
theorem anSt_comm {ax ay bx by' cx cy : Int} (rax : rng ax) (ray : rng ay) (rbx : rng bx) (rby : rng by') (rcx : rng cx) (rcy : rng cy) : anSt cx cy bx by' ax ay = anSt ax ay bx by' cx cy := by
  rw [anSt_eq, anSt_eq, allT3_comm, (d_comm ax ay bx by' cx cy).1, (d_comm ax ay bx by' cx cy).2]
  cases h : allT3 ax ay bx by' cx cy
  . exact stF_no _ _ _ _ _
  . obtain ⟨hax, hay, hbx, hby, hcx, hcy⟩ := tame3 rax ray rbx rby rcx rcy h
    have e1 := aP_comm hax hbx hcx
    have e2 := aP_comm hay hby hcy
    exact stF_yes _ _ (by unfold anS; rw [e1, e2]) (by unfold anD; rw [e1, e2])
theorem n0 : nn 0 := ⟨by unfold rng; decide, by decide⟩
theorem n1 : nn 1 := ⟨by unfold rng; decide, by decide⟩
theorem nm : nn (-9223372036854775807) := ⟨by unfold rng; decide, by decide⟩
theorem e0 : eOf 0 = ⟨0, 0⟩ := by rw [of_fin (by decide), pv_z]
  where pv_z : patV 0 = 0 := (patV_zeroE).1
theorem v1 : eOf 1 = ⟨0, patV 1⟩ := of_fin (by decide)
theorem vm : eOf (-9223372036854775807) = ⟨0, patV (-9223372036854775807)⟩ := of_fin (by decide)
theorem pv_m : patV (-9223372036854775807) = -patV 1 := by
  have := patV_negP n1 (by decide) (by decide)
  rw [show neg 1 = -9223372036854775807 by decide] at this
  exact this
theorem le_v {V U : Int} (h : (⟨0, V⟩ : En).le ⟨0, U⟩) : V <= U := by
  unfold En.le at h
  simp only at h
  omega
theorem v_le {V U : Int} (h : V <= U) : (⟨0, V⟩ : En).le ⟨0, U⟩ := .inr ⟨rfl, h⟩
theorem cLo_pos (V : Int) : 0 < key (cLo V) ↔ patV 1 <= V := by
  have k1 : key 1 = 1 := by decide
  constructor
  . intro h
    have := En.le_trans (of_le n1 (c_nn V).1 (by rw [k1]; omega)) (c_btw V).1
    rw [v1] at this
    exact le_v this
  . intro h
    have := (e_mono (v_le h)).1
    rw [<- v1, (e_of n1).1, show canon 1 = 1 by decide, k1] at this
    have e : eLo ⟨0, V⟩ = cLo V := (e_fin V).1
    rw [e] at this
    omega
theorem cLo_neg (V : Int) : key (cLo V) < 0 ↔ V < 0 := by
  have k0 : key 0 = 0 := by decide
  constructor
  . intro h
    by_cases c : V < 0
    . exact c
    . replace c := Int.not_lt.1 c
      have := (e_mono (v_le c)).1
      rw [<- e0, (e_of n0).1, show canon 0 = 0 by decide, k0] at this
      have e : eLo ⟨0, V⟩ = cLo V := (e_fin V).1
      rw [e] at this
      omega
  . intro h
    by_cases c : (key (cLo V)) < 0
    . exact c
    . replace c := Int.not_lt.1 c
      have := En.le_trans (of_le n0 (c_nn V).1 (by rw [k0]; exact c)) (c_btw V).1
      rw [e0] at this
      have := le_v this
      omega
theorem cHi_neg (V : Int) : key (cHi V) < 0 ↔ V <= -patV 1 := by
  have km : key (-9223372036854775807) = -1 := by decide
  constructor
  . intro h
    have := En.le_trans (c_btw V).2 (of_le (c_nn V).2 nm (by rw [km]; omega))
    rw [vm, pv_m] at this
    exact le_v this
  . intro h
    have := (e_mono (v_le h)).2
    rw [<- pv_m, <- vm, (e_of nm).2, show canon (-9223372036854775807) = -9223372036854775807 by decide, km] at this
    have e : eHi ⟨0, V⟩ = cHi V := (e_fin V).2
    rw [e] at this
    omega
theorem cHi_pos (V : Int) : 0 < key (cHi V) ↔ 0 < V := by
  have k0 : key 0 = 0 := by decide
  constructor
  . intro h
    by_cases c : 0 < V
    . exact c
    . replace c := Int.not_lt.1 c
      have := (e_mono (v_le c)).2
      rw [<- e0, (e_of n0).2, show canon 0 = 0 by decide, k0] at this
      have e : eHi ⟨0, V⟩ = cHi V := (e_fin V).2
      rw [e] at this
      omega
  . intro h
    by_cases c : 0 < (key (cHi V))
    . exact c
    . replace c := Int.not_lt.1 c
      have := En.le_trans (c_btw V).2 (of_le (c_nn V).2 n0 (by rw [k0]; exact c))
      rw [e0] at this
      have := le_v this
      omega
theorem mir_sign (e : En) : (0 < key (eLo (eNeg e)) ↔ key (eHi e) < 0) ∧ (key (eLo (eNeg e)) < 0 ↔ 0 < key (eHi e)) ∧ (key (eHi (eNeg e)) < 0 ↔ 0 < key (eLo e)) ∧ (0 < key (eHi (eNeg e)) ↔ key (eLo e) < 0) := by
  obtain ⟨i, v⟩ := e
  have kp : key 9218868437227405312 = 9218868437227405312 := by decide
  have kn : key (-4503599627370496) = -9218868437227405312 := by decide
  unfold eNeg eLo eHi
  simp only
  rcases Int.lt_trichotomy i 0 with h | h | h
  . rw [if_pos (by omega), if_neg (by omega), if_pos h, if_pos (by omega), if_neg (by omega), if_pos h, kp, kn]
    omega
  . subst h
    rw [if_neg (by decide), if_neg (by decide), if_neg (by decide), if_neg (by decide), if_neg (by decide), if_neg (by decide), if_neg (by decide), if_neg (by decide)]
    rw [cLo_pos, cLo_neg, cHi_neg, cHi_pos, cHi_neg, cHi_pos, cLo_pos, cLo_neg]
    omega
  . rw [if_neg (by omega), if_pos (by omega), if_pos h, if_neg (by omega), if_pos (by omega), if_pos h, kp, kn]
    omega
theorem sgK_mir {e f : En} (v1 : vld (eLo e) (eHi f) = true) (v2 : vld (eLo (eNeg f)) (eHi (eNeg e)) = true) : sgK (eLo (eNeg f)) (eHi (eNeg e)) = sgK (eLo e) (eHi f) := by
  obtain ⟨a1, a2, _, _⟩ := mir_sign f
  obtain ⟨_, _, b3, b4⟩ := mir_sign e
  unfold sgK
  rw [v1, v2, Bool.true_and, Bool.true_and, decide_eq_decide.2 a1, decide_eq_decide.2 b3]
  have z1 : key (eLo (eNeg f)) = 0 ↔ key (eHi f) = 0 := by omega
  have z2 : key (eHi (eNeg e)) = 0 ↔ key (eLo e) = 0 := by omega
  rw [decide_eq_decide.2 z1, decide_eq_decide.2 z2]
  cases decide (key (eHi f) < 0) <;> cases decide (0 < key (eLo e)) <;> cases decide (key (eHi f) = 0) <;> cases decide (key (eLo e) = 0) <;> rfl
theorem rg_near {S : Int} (h : S ≠ 0) : rg (nearP (-S)) = rg (nearP S) := by
  obtain ⟨A, r0, left, e, hR, hn⟩ := nearP_rung h
  have hA : 0 < A := by
    have a0 : 0 <= A := Int.le_trans (vS_nonneg r0) hR.lo
    rcases Int.lt_or_eq_of_le a0 with c | c
    . exact c
    . rw [<- c] at e
      exact absurd (by rw [e]; cases decide (S < 0) <;> rfl) h
  have eN : -S = sg (!decide (S < 0)) A := by
    rw [sg_flip (a := !decide (S < 0)) (b := decide (S < 0)) (by cases decide (S < 0) <;> decide) A]
    exact congrArg (fun z => -z) e
  rw [eN, nearP_sg hA hR, hn]
  have t : ∀ g g' : Bool, rTo 0 g r0 left = rTo 0 g' r0 left := fun g g' => by unfold rTo rUp; rfl
  have bd := rTo_range 0 (decide (S < 0)) r0 left
  rw [t (!decide (S < 0)) (decide (S < 0)), (patS_parts bd.1 bd.2).2.1, (patS_parts bd.1 bd.2).2.1]
theorem rg_diff {p q : Int} (hp : rng p) (hq : rng q) (pp : pok p = true) (pq : pok q = true) : rg (fsum q (neg p)) = rg (fsum p (neg q)) := by
  obtain ⟨n1, n2, n3⟩ := neg_facts hq pq
  obtain ⟨m1, m2, m3⟩ := neg_facts hp pp
  have e1 : patV (neg q) = -patV q := by rw [patV_iV n1 n2, patV_iV hq pq, n3, Int.neg_mul]
  have e2 : patV (neg p) = -patV p := by rw [patV_iV m1 m2, patV_iV hp pp, m3, Int.neg_mul]
  rw [fsum_eqn hp n1 pp n2, fsum_eqn hq m1 pq m2, e1, e2]
  by_cases h : patV p + -patV q = 0
  . rw [if_pos h, if_pos (by omega), (patS_parts (by decide) (by decide)).2.1, (patS_parts (by decide) (by decide)).2.1]
  . rw [if_neg h, if_neg (by omega), show patV q + -patV p = -(patV p + -patV q) by omega]
    exact rg_near h
theorem allT4_comm (ax ay bx by' cx cy dx dy : Int) : allT4 cx cy dx dy ax ay bx by' = allT4 ax ay bx by' cx cy dx dy := by
  unfold allT4
  cases pttame ax ay <;> cases pttame bx by' <;> cases pttame cx cy <;> cases pttame dx dy <;> rfl
theorem plus_lo {a b : En} (ha : a.ok) (hb : b.ok) (h1 : a.i <= 0) (h2 : b.i <= 0) : ePlus a b = ePlus b a := by
  obtain ⟨i, v⟩ := a
  obtain ⟨j, u⟩ := b
  unfold En.ok at ha hb
  simp only at ha hb h1 h2
  unfold ePlus
  simp only
  by_cases c : i = 0 <;> by_cases d : j = 0
  . subst c; subst d; simp [Int.add_comm]
  . subst c; simp [d]
  . subst d; simp [c]
  . have e1 : i = j := by omega
    have e2 : v = u := by omega
    subst e1; subst e2; rfl
theorem plus_hi {a b : En} (ha : a.ok) (hb : b.ok) (h1 : 0 <= a.i) (h2 : 0 <= b.i) : ePlus a b = ePlus b a := by
  obtain ⟨i, v⟩ := a
  obtain ⟨j, u⟩ := b
  unfold En.ok at ha hb
  simp only at ha hb h1 h2
  unfold ePlus
  simp only
  by_cases c : i = 0 <;> by_cases d : j = 0
  . subst c; subst d; simp [Int.add_comm]
  . subst c; simp [d]
  . subst d; simp [c]
  . have e1 : i = j := by omega
    have e2 : v = u := by omega
    subst e1; subst e2; rfl
theorem neg_neg' (a : En) : eNeg (eNeg a) = a := by
  obtain ⟨i, v⟩ := a
  unfold eNeg
  simp
theorem neg_plus (a b : En) : eNeg (ePlus a b) = ePlus (eNeg a) (eNeg b) := by
  obtain ⟨i, v⟩ := a
  obtain ⟨j, u⟩ := b
  unfold ePlus eNeg
  simp only
  by_cases c : i = 0 <;> by_cases d : j = 0
  . subst c; subst d; simp; omega
  . subst c; simp [d]
  . subst d; simp [c]
  . simp [c, d]
theorem neg_ok {a : En} (h : a.ok) : (eNeg a).ok := by
  obtain ⟨i, v⟩ := a
  unfold En.ok eNeg at *
  simp only at *
  omega
theorem of_sg {p : Int} (hp : rng p) : (rg p = 9218868437227405312 -> p < 0) -> (eOf p).i <= 0 := fun h => by
  unfold eOf
  by_cases c : rg p = 9218868437227405312
  . rw [if_pos c, if_pos (h c)]
    show (-1 : Int) <= 0
    decide
  . rw [if_neg c]
    exact Int.le_refl _
theorem of_sg' {p : Int} (hp : rng p) : (rg p = 9218868437227405312 -> ¬ p < 0) -> 0 <= (eOf p).i := fun h => by
  unfold eOf
  by_cases c : rg p = 9218868437227405312
  . rw [if_pos c, if_neg (h c)]
    show (0 : Int) <= 1
    decide
  . rw [if_neg c]
    exact Int.le_refl _
theorem okk_sg {c d V : Int} (h : Okk c d V) : (eOf c).i <= 0 ∧ 0 <= (eOf d).i := by
  obtain ⟨_, _, a, b, _⟩ := vld_lo h.lo.1 h.hi.1 h.ok
  exact ⟨of_sg h.lo.1 a, of_sg' h.hi.1 b⟩
theorem faSt_comm {ax ay bx by' cx cy dx dy : Int} (rax : rng ax) (ray : rng ay) (rbx : rng bx) (rby : rng by') (rcx : rng cx) (rcy : rng cy) (rdx : rng dx) (rdy : rng dy) (pax : pok ax = true) (pay : pok ay = true) (pbx : pok bx = true) (pby : pok by' = true) (pcx : pok cx = true) (pcy : pok cy = true) (pdx : pok dx = true) (pdy : pok dy = true) :
    faSt cx cy dx dy ax ay bx by' = faSt ax ay bx by' cx cy dx dy := by
  have hk : sgK (fLo cx cy dx dy ax ay bx by') (fHi cx cy dx dy ax ay bx by') = sgK (fLo ax ay bx by' cx cy dx dy) (fHi ax ay bx by' cx cy dx dy) := by
    have o1 := f_okk rax ray rbx rby rcx rcy rdx rdy pax pay pbx pby pcx pcy pdx pdy
    have o2 := f_okk rcx rcy rdx rdy rax ray rbx rby pcx pcy pdx pdy pax pay pbx pby
    obtain ⟨s1, s2⟩ := okk_sg (d_okk rax ray rbx rby rax ray pax pay pbx pby pax pay)
    obtain ⟨s3, s4⟩ := okk_sg (d_okk rcx rcy rdx rdy rcx rcy pcx pcy pdx pdy pcx pcy)
    have v1 := o1.ok
    have v2 := o2.ok
    unfold fLo fHi at *
    have k1 := eOf_ok (dLo ax ay bx by' ax ay)
    have k2 := eOf_ok (dHi ax ay bx by' ax ay)
    have k3 := eOf_ok (dLo cx cy dx dy cx cy)
    have k4 := eOf_ok (dHi cx cy dx dy cx cy)
    generalize eOf (dLo ax ay bx by' ax ay) = L1 at *
    generalize eOf (dHi ax ay bx by' ax ay) = H1 at *
    generalize eOf (dLo cx cy dx dy cx cy) = L2 at *
    generalize eOf (dHi cx cy dx dy cx cy) = H2 at *
    have q1 : ePlus L2 (eNeg H1) = eNeg (ePlus H1 (eNeg L2)) := by
      rw [neg_plus, neg_neg']
      exact plus_lo k3 (neg_ok k2) s3 (by show -H1.i <= 0; omega)
    have q2 : ePlus H2 (eNeg L1) = eNeg (ePlus L1 (eNeg H2)) := by
      rw [neg_plus, neg_neg']
      exact plus_hi k4 (neg_ok k1) s4 (by show 0 <= -L1.i; omega)
    rw [q1, q2] at v2 ⊢
    exact sgK_mir v1 v2
  rw [faSt_eq, faSt_eq, allT4_comm, hk]
  cases h : allT4 ax ay bx by' cx cy dx dy
  . exact stF_no _ _ _ _ _
  . obtain ⟨hax, hay, hbx, hby, hcx, hcy, hdx, hdy⟩ := tame4 rax ray rbx rby rcx rcy rdx rdy h
    have f1 := sqN_fx hax hay hbx hby
    have f2 := sqN_fx hcx hcy hdx hdy
    exact stF_yes _ _ (by unfold faS; rw [fsum_comm f2.r f1.r f2.p f1.p]) (by unfold faD; exact rg_diff f1.r f2.r f1.p f2.p)
theorem farX_neg (ax ay bx by' cx cy dx dy : Int) : ord (farX cx cy dx dy ax ay bx by') 0 = -ord (farX ax ay bx by' cx cy dx dy) 0 := by
  unfold farX
  have e : dotX cx cy dx dy cx cy - dotX ax ay bx by' ax ay = -(dotX ax ay bx by' ax ay - dotX cx cy dx dy cx cy) := by omega
  rw [e]
  generalize dotX ax ay bx by' ax ay - dotX cx cy dx dy cx cy = x
  unfold ord
  rcases Int.lt_trichotomy x 0 with g | g | g
  . have g1 : ¬ -x < 0 := by omega
    have g2 : 0 < -x := by omega
    first | (simp [g, g1, g2]; done) | (simp [g, g1, g2]; omega)
  . subst g; rfl
  . have g1 : ¬ x < 0 := by omega
    have g2 : -x < 0 := by omega
    first | (simp [g, g1, g2]; done) | (simp [g, g1, g2]; omega)
theorem sq_back (ax ay bx by' : Int) : dotX bx by' ax ay bx by' = dotX ax ay bx by' ax ay := by
  unfold dotX
  have e : ∀ x y : Int, (y - x) * (y - x) = (x - y) * (x - y) := fun x y => by
    rw [show y - x = -(x - y) by omega, Int.neg_mul_neg]
  rw [e (iV ax) (iV bx), e (iV ay) (iV by')]
theorem farX_self (ax ay bx by' : Int) : farX ax ay bx by' bx by' ax ay = 0 := by
  unfold farX
  rw [sq_back]
  omega
theorem dotX_sq (ax ay bx by' : Int) : 0 <= dotX ax ay bx by' ax ay := by
  unfold dotX
  have h : ∀ x : Int, 0 <= x * x := fun x => by
    rcases Int.le_total 0 x with c | c
    . exact Int.mul_nonneg c c
    . exact Int.mul_nonneg_of_nonpos_of_nonpos c c
  have := h (iV ax - iV bx)
  have := h (iV ay - iV by')
  omega
set_option maxRecDepth 100000 in
set_option maxHeartbeats 2000000 in
theorem mDot_yes {ax ay bx by' cx cy : Int} (rax : rng ax) (ray : rng ay) (rbx : rng bx) (rby : rng by') (rcx : rng cx) (rcy : rng cy) (pax : pok ax = true) (pay : pok ay = true) (pbx : pok bx = true) (pby : pok by' = true) (pcx : pok cx = true) (pcy : pok cy = true) (w : World) (H : Hold4 w) :
    Calls Tryz.prog 8 #[.agg #[.int .i64 ax, .int .i64 ay], .agg #[.int .i64 bx, .int .i64 by'], .agg #[.int .i64 cx, .int .i64 cy]] w fun r w' => ∃ v V, r = .returned (.tuple #[v, .int .i64 0]) ∧ DAns w w' V v ∧ Dot2 (patV ax - patV bx) (patV ay - patV by') (patV cx - patV bx) (patV cy - patV by') V ∧ Bd 8100 V := by
  have CG : Hid (∀ W g, W.heap[g]? = some (.cells #[.int .i64 ax, .int .i64 ay, .int .i64 bx, .int .i64 by', .int .i64 cx, .int .i64 cy] 23) -> Calls Tryz.prog 35 #[.slice (some ⟨g, 0, none⟩) 3 3] W fun x w' => x = .returned (.bool true) ∧ Below W.heap.size W w') := fun W g h => by
    have := mgood_any _ _ _ _ _ W (pts3 W h) (rng3 rax rbx rcx) (rng3 ray rby rcy)
    rw [allB3] at this
    have e : (ptok ax ay && ptok bx by' && ptok cx cy) = true := by unfold ptok; rw [pax, pay, pbx, pby, pcx, pcy]; rfl
    rw [e] at this
    exact this
  have CD : Hid (∀ W, Hold4 W -> Calls Tryz.prog 34 #[.agg #[.func (.func 47) #[] #[], .func (.func 48) #[] #[], .func (.func 49) #[] #[], .func (.func 50) #[] #[]], .agg #[.int .i64 ax, .int .i64 ay], .agg #[.int .i64 bx, .int .i64 by'], .agg #[.int .i64 cx, .int .i64 cy]] W fun r w' => ∃ v V, r = .returned v ∧ DAns W w' V v ∧ Dot2 (patV ax - patV bx) (patV ay - patV by') (patV cx - patV bx) (patV cy - patV by') V ∧ Bd 8100 V) := fun W h => mdotN_any pax pay pbx pby pcx pcy W h
  clear rax ray rbx rby rcx rcy pax pay pbx pby pcx pcy
  have a_k : (w.alloc (.cells #[.int .i64 ax, .int .i64 ay] 23)).heap[w.heap.size]? = some (.cells #[.int .i64 ax, .int .i64 ay] 23) := heap_new (.cells #[.int .i64 ax, .int .i64 ay] 23) (by rfl)
  have hb0 := bel_alloc w (.cells #[.int .i64 ax, .int .i64 ay] 23)
  replace a_k := heap_past (.cells #[.int .i64 bx, .int .i64 by'] 23) a_k
  have b_k : ((w.alloc (.cells #[.int .i64 ax, .int .i64 ay] 23)).alloc (.cells #[.int .i64 bx, .int .i64 by'] 23)).heap[w.heap.size + 1]? = some (.cells #[.int .i64 bx, .int .i64 by'] 23) := heap_new (.cells #[.int .i64 bx, .int .i64 by'] 23) (by simp only [size_alloc])
  replace hb0 := bel_trans hb0 (bel_alloc (w.alloc (.cells #[.int .i64 ax, .int .i64 ay] 23)) (.cells #[.int .i64 bx, .int .i64 by'] 23))
  replace a_k := heap_past (.cells #[.int .i64 cx, .int .i64 cy] 23) a_k
  replace b_k := heap_past (.cells #[.int .i64 cx, .int .i64 cy] 23) b_k
  have c_k : (((w.alloc (.cells #[.int .i64 ax, .int .i64 ay] 23)).alloc (.cells #[.int .i64 bx, .int .i64 by'] 23)).alloc (.cells #[.int .i64 cx, .int .i64 cy] 23)).heap[w.heap.size + 1 + 1]? = some (.cells #[.int .i64 cx, .int .i64 cy] 23) := heap_new (.cells #[.int .i64 cx, .int .i64 cy] 23) (by simp only [size_alloc])
  replace hb0 := bel_trans hb0 (bel_alloc ((w.alloc (.cells #[.int .i64 ax, .int .i64 ay] 23)).alloc (.cells #[.int .i64 bx, .int .i64 by'] 23)) (.cells #[.int .i64 cx, .int .i64 cy] 23))
  replace a_k := heap_past (.cells #[.bool false, .slice none 0 0, .int .i64 0] 35) a_k
  replace b_k := heap_past (.cells #[.bool false, .slice none 0 0, .int .i64 0] 35) b_k
  replace c_k := heap_past (.cells #[.bool false, .slice none 0 0, .int .i64 0] 35) c_k
  have r_k : ((((w.alloc (.cells #[.int .i64 ax, .int .i64 ay] 23)).alloc (.cells #[.int .i64 bx, .int .i64 by'] 23)).alloc (.cells #[.int .i64 cx, .int .i64 cy] 23)).alloc (.cells #[.bool false, .slice none 0 0, .int .i64 0] 35)).heap[w.heap.size + 1 + 1 + 1]? = some (.cells #[.bool false, .slice none 0 0, .int .i64 0] 35) := heap_new (.cells #[.bool false, .slice none 0 0, .int .i64 0] 35) (by simp only [size_alloc])
  replace hb0 := bel_trans hb0 (bel_alloc (((w.alloc (.cells #[.int .i64 ax, .int .i64 ay] 23)).alloc (.cells #[.int .i64 bx, .int .i64 by'] 23)).alloc (.cells #[.int .i64 cx, .int .i64 cy] 23)) (.cells #[.bool false, .slice none 0 0, .int .i64 0] 35))
  have hsz0 : ((((w.alloc (.cells #[.int .i64 ax, .int .i64 ay] 23)).alloc (.cells #[.int .i64 bx, .int .i64 by'] 23)).alloc (.cells #[.int .i64 cx, .int .i64 cy] 23)).alloc (.cells #[.bool false, .slice none 0 0, .int .i64 0] 35)).heap.size = w.heap.size + 1 + 1 + 1 + 1 := by simp only [size_alloc]
  have hsz : Hid (((((w.alloc (.cells #[.int .i64 ax, .int .i64 ay] 23)).alloc (.cells #[.int .i64 bx, .int .i64 by'] 23)).alloc (.cells #[.int .i64 cx, .int .i64 cy] 23)).alloc (.cells #[.bool false, .slice none 0 0, .int .i64 0] 35)).heap.size = w.heap.size + 1 + 1 + 1 + 1) := hsz0
  clear hsz0
  have f_a0 := blkC a_k 0 rfl
  have f_a1 := blkC a_k 1 rfl
  have f_b0 := blkC b_k 0 rfl
  have f_b1 := blkC b_k 1 rfl
  have f_c0 := blkC c_k 0 rfl
  have f_c1 := blkC c_k 1 rfl
  go_enter Tryz.func8, Tryz.ntmps8
  go_wp2_with fail
  clear f_a0 f_a1 f_b0 f_b1 f_c0 f_c1
  generalize ((((w.alloc (.cells #[.int .i64 ax, .int .i64 ay] 23)).alloc (.cells #[.int .i64 bx, .int .i64 by'] 23)).alloc (.cells #[.int .i64 cx, .int .i64 cy] 23)).alloc (.cells #[.bool false, .slice none 0 0, .int .i64 0] 35)) = x0 at hb0 a_k b_k c_k r_k hsz ⊢
  refine (CG.out _ _ (heap_new _ hsz.out.symm)).mono ?_
  rintro _ y1 ⟨rfl, hw1⟩
  replace a_k := blk_on hw1 (heap_past (.cells #[.int .i64 ax, .int .i64 ay, .int .i64 bx, .int .i64 by', .int .i64 cx, .int .i64 cy] 23) a_k)
  replace b_k := blk_on hw1 (heap_past (.cells #[.int .i64 ax, .int .i64 ay, .int .i64 bx, .int .i64 by', .int .i64 cx, .int .i64 cy] 23) b_k)
  replace c_k := blk_on hw1 (heap_past (.cells #[.int .i64 ax, .int .i64 ay, .int .i64 bx, .int .i64 by', .int .i64 cx, .int .i64 cy] 23) c_k)
  replace r_k := blk_on hw1 (heap_past (.cells #[.int .i64 ax, .int .i64 ay, .int .i64 bx, .int .i64 by', .int .i64 cx, .int .i64 cy] 23) r_k)
  replace hb0 := bel_trans (bel_trans hb0 (bel_alloc x0 (.cells #[.int .i64 ax, .int .i64 ay, .int .i64 bx, .int .i64 by', .int .i64 cx, .int .i64 cy] 23))) hw1
  have H := H.keeps hb0
  go_wp2_with fail
  have KK1 : ∀ W, Below y1.heap.size y1 W -> W.cell? ⟨w.heap.size, 0, none⟩ = some (.int .i64 ax) ∧ W.cell? ⟨w.heap.size, 1, none⟩ = some (.int .i64 ay) ∧ W.cell? ⟨w.heap.size + 1, 0, none⟩ = some (.int .i64 bx) ∧ W.cell? ⟨w.heap.size + 1, 1, none⟩ = some (.int .i64 by') ∧ W.cell? ⟨w.heap.size + 2, 0, none⟩ = some (.int .i64 cx) ∧ W.cell? ⟨w.heap.size + 2, 1, none⟩ = some (.int .i64 cy) := fun W hb => ⟨q_cell (blkC a_k 0 rfl) hb, q_cell (blkC a_k 1 rfl) hb, q_cell (blkC b_k 0 rfl) hb, q_cell (blkC b_k 1 rfl) hb, q_cell (blkC c_k 0 rfl) hb, q_cell (blkC c_k 1 rfl) hb⟩
  have ne_a : w.heap.size ≠ w.heap.size + 1 + 1 + 1 := by omega
  have ne_b : w.heap.size + 1 ≠ w.heap.size + 1 + 1 + 1 := by omega
  have ne_c : w.heap.size + 2 ≠ w.heap.size + 1 + 1 + 1 := by omega
  have hC1_0 := (bel_refl y1).drew
  have hs1_0 := (bel_refl y1).drew
  have hT1_0 : Below w.heap.size w y1.drew := hb0.drew
  have H_1_0 := H.keeps (bel_refl y1).drew
  have hrs := (Array.getElem?_eq_some_iff.1 r_k).1
  go_region_held3 (fun W => W.cell? ⟨w.heap.size, 0, none⟩ = some (.int .i64 ax) ∧ W.cell? ⟨w.heap.size, 1, none⟩ = some (.int .i64 ay) ∧ W.cell? ⟨w.heap.size + 1, 0, none⟩ = some (.int .i64 bx) ∧ W.cell? ⟨w.heap.size + 1, 1, none⟩ = some (.int .i64 by') ∧ W.cell? ⟨w.heap.size + 2, 0, none⟩ = some (.int .i64 cx) ∧ W.cell? ⟨w.heap.size + 2, 1, none⟩ = some (.int .i64 cy))
    (with_reducible first | assumption | exact KK1 _ hC1_0 | exact KK1 _ hC1_1 | exact KK1 _ hC1_2 | exact ⟨cellS (KK1 _ hC1_2).1 ne_a _ _ _, cellS (KK1 _ hC1_2).2.1 ne_a _ _ _, cellS (KK1 _ hC1_2).2.2.1 ne_b _ _ _, cellS (KK1 _ hC1_2).2.2.2.1 ne_b _ _ _, cellS (KK1 _ hC1_2).2.2.2.2.1 ne_c _ _ _, cellS (KK1 _ hC1_2).2.2.2.2.2 ne_c _ _ _⟩ | fail)
    (first
      | (go_at_call 34; have _t := hs1_1; refine (CD.out _ (H_1_1.keeps (by with_reducible first | exact bel_refl _ | exact bel_alloc _ _ | exact bel_dr _ _))).mono ?_; rintro _ y1_2 ⟨v, V, rfl, na1, hV, hB⟩; obtain ⟨n_g, n_o, n_n, n_c, n_e, rfl⟩ := dans_shape na1; have hq1_2 := na1.below; have hs1_2 : Below y1_1.heap.size y1_1 y1_2 := (by with_reducible first | exact hq1_2 | exact bel_trans (bel_alloc _ _) hq1_2 | exact bel_trans (bel_dr _ _) hq1_2); have hT1_2 := bel_trans hT1_1 hs1_2; have hC1_2 := bel_trans hC1_1 hs1_2; have H_1_2 := H_1_1.keeps hs1_2; have hr := blk_on hs1_2 (blk_on hs1_1 (blk_on hs1_0 r_k)); have k0 := (fun _ => blkC hr 0 rfl) hs1_2; have z0 := (fun _ => blkF hr 0) hs1_2; have k1 := (fun _ => blkC hr 1 rfl) hs1_2; have z1 := (fun _ => blkF hr 1) hs1_2; have k2 := (fun _ => blkC hr 2 rfl) hs1_2; have z2 := (fun _ => blkF hr 2) hs1_2)
      | (go_at_call 23; refine (mexactNumbers _).mono ?_; rintro _ y1_1 ⟨rfl, hq1_1⟩; have hs1_1 : Below y1.drew.heap.size y1.drew y1_1 := (by with_reducible first | exact hq1_1 | exact bel_trans (bel_alloc _ _) hq1_1 | exact bel_trans (bel_dr _ _) hq1_1); have hT1_1 := bel_trans hT1_0 hs1_1; have hC1_1 := bel_trans hC1_0 hs1_1; have H_1_1 := H_1_0.keeps hs1_1))
  go_wp2
  refine bodyPost_ret (v := .tuple #[.agg #[.bool n_g, .slice n_o n_n n_c, .int .i64 n_e], .int .i64 0]) (by simp [results, Tryz.results8, go_sem, k0, k1, k2]) rfl ⟨_, V, rfl, ?_, hV, hB⟩
  exact dans_res3 (g := w.heap.size + 3) na1 (bel_trans hb0 (by first | exact hs1_1 | exact bel_trans hs1_0 hs1_1)) (by omega) (Nat.lt_of_lt_of_le hrs (bel_trans hs1_0 hs1_1).size) _ _ _
set_option maxRecDepth 100000 in
set_option maxHeartbeats 4000000 in
theorem osame_D {w : World} {x y : Value} {A B : Int} (hx : DNum w x A) (hy : DNum w y B) :
    Calls Tryz.prog 10 #[x, y] w fun r w' => r = .returned (.bool (decide (A = B))) ∧ Below w.heap.size w w' := by
  obtain ⟨g, s, m, e, rfl, dx, ao, n, ca, a, rfl, hR, hN, rfl⟩ := hx
  obtain ⟨g', s', m', e', rfl, dy, bo, n', cb, b, rfl, hR', hN', rfl⟩ := hy
  have hu : A = B -> g = g' ∧ val a n = val b n' ∧ e = e' := fun q => by subst q; exact dx.unique dy
  have hm1 := hR.max
  have hl1 := hR.le
  have hm2 := hR'.max
  have hl2 := hR'.le
  have hb2 := bel_alloc2 w (.cells #[.bool g, .slice ao n ca, .int .i64 e] 35) (.cells #[.bool g', .slice bo n' cb, .int .i64 e'] 35)
  by_cases hg : g = g' ∧ e = e' ∧ n = n'
  . obtain ⟨rfl, rfl, rfl⟩ := hg
    have q0 := heap_a2 w (.cells #[.bool g, .slice ao n ca, .int .i64 e] 35) (.cells #[.bool g, .slice bo n cb, .int .i64 e] 35)
    have q1 := heap_b2 w (.cells #[.bool g, .slice ao n ca, .int .i64 e] 35) (.cells #[.bool g, .slice bo n cb, .int .i64 e] 35)
    have HR := hR.keeps hb2
    have HR' := hR'.keeps hb2
    have hAB : (∀ i, i < n -> a i = b i) -> A = B := fun q => by rw [dx.val, dy.val, val_congr q]
    go_enter Tryz.func10, Tryz.ntmps10
    go_wp2_with fail
    have k1 := blkC q0 1 rfl
    have j1 := blkC q1 1 rfl
    clear q0 q1 hu hR hR'
    generalize (w.alloc (.cells #[.bool g, .slice ao n ca, .int .i64 e] 35)).alloc (.cells #[.bool g, .slice bo n cb, .int .i64 e] 35) = wx at hb2 k1 j1 HR HR' ⊢
    have HNa : Hid (Nrm a n) := hN
    have HNb : Hid (Nrm b n) := hN'
    have HAB : Hid ((∀ i, i < n -> a i = b i) -> A = B) := hAB
    have HBA : Hid (A = B -> ∀ i, i < n -> a i = b i) := fun q => val_inj hN.1 hN'.1 (by subst q; exact (dx.unique dy).2.1)
    clear hN hN' hAB dx dy
    go_loopw [5] (fun i wr => ∃ k : Nat, k <= n ∧ i = .int .i64 k ∧ Hid (∀ i, i < k -> a i = b i) ∧ Below wx.heap.size wx wr) (fun i _ => n - (intOf i).toNat)
    case atStart => exact ⟨0, Nat.zero_le _, rfl, fun i hi => by omega, bel_refl _⟩
    case round =>
      obtain ⟨k, hk, rfl, HS, hbw⟩ := hrel
      have k1' := cell_keeps k1 hbw
      have j1' := cell_keeps j1 hbw
      by_cases hlt : k < n
      . obtain ⟨ba, fa, rfl, hba, hca⟩ := HR.spot (by omega)
        obtain ⟨bb, fb, rfl, hbb, hcb⟩ := HR'.spot (by omega)
        have c1 := (hbw.cell (p := ⟨ba, fa + k, none⟩) hba).trans (hca k (by omega))
        have c2 := (hbw.cell (p := ⟨bb, fb + k, none⟩) hbb).trans (hcb k (by omega))
        clear hca hcb
        by_cases h1 : a k = b k
        . have h2 : (a k == b k) = true := by simpa using h1
          rw [h1] at c1
          go_wp2_with fail
          go_quiet (fail)
          go_wp2
          go_roundw
          case rel => exact ⟨k + 1, by omega, by go_num, fun i hi => by by_cases e : i = k; (· rw [e]; exact h1); (· exact HS.out i (by omega)), bDrewN hbw _⟩
          case measure => simp [intOf]; try omega
        . have h2 : (a k == b k) = false := by simpa using h1
          have hne : A ≠ B := fun q => h1 (HBA.out q k hlt)
          have hdd : Hid (false = decide (A = B)) := (decide_eq_false hne).symm
          clear hne
          go_wp2_with fail
          go_quiet (fail)
          go_wp2
          go_ret
          exact ⟨ret_bool hdd.out, bel_trans hb2 (bDrewN hbw _)⟩
      . obtain rfl : k = n := by omega
        have hdd : Hid (true = decide (A = B)) := (decide_eq_true (HAB.out HS.out)).symm
        go_wp2
        go_ret
        exact ⟨ret_bool hdd.out, bel_trans hb2 hbw⟩
  . have hne : A ≠ B := fun q => hg ⟨(hu q).1, (hu q).2.2, nrm_len hN hN' (hu q).2.1⟩
    rw [decide_eq_false hne]
    by_cases c1 : g = g'
    . subst c1
      by_cases c2 : e = e'
      . subst c2
        have c3 : n ≠ n' := fun q => hg ⟨rfl, rfl, q⟩
        have c4 : ((n : Int) == (n' : Int)) = false := by simp; omega
        clear hu
        go_enter Tryz.func10, Tryz.ntmps10
        go_wp2
        all_goals go_ret
        all_goals exact ⟨rfl, hb2⟩
      . have c4 : (e == e') = false := by simpa using c2
        clear hu
        go_enter Tryz.func10, Tryz.ntmps10
        go_wp2
        all_goals go_ret
        all_goals exact ⟨rfl, hb2⟩
    . have c4 : (g == g') = false := by simpa using c1
      clear hu
      go_enter Tryz.func10, Tryz.ntmps10
      go_wp2
      all_goals go_ret
      all_goals exact ⟨rfl, hb2⟩
set_option maxRecDepth 100000 in
set_option maxHeartbeats 1000000 in
theorem mSquare_yes {ax ay bx by' : Int} (rax : rng ax) (ray : rng ay) (rbx : rng bx) (rby : rng by') (pax : pok ax = true) (pay : pok ay = true) (pbx : pok bx = true) (pby : pok by' = true) (w : World) (H : Hold4 w) :
    Calls Tryz.prog 9 #[.agg #[.int .i64 ax, .int .i64 ay], .agg #[.int .i64 bx, .int .i64 by']] w fun r w' => ∃ v V, r = .returned (.tuple #[v, .int .i64 0]) ∧ DAns w w' V v ∧ Dot2 (patV ax - patV bx) (patV ay - patV by') (patV ax - patV bx) (patV ay - patV by') V ∧ Bd 8100 V := by
  have CD : Hid (∀ W, Hold4 W -> Calls Tryz.prog 8 #[.agg #[.int .i64 ax, .int .i64 ay], .agg #[.int .i64 bx, .int .i64 by'], .agg #[.int .i64 ax, .int .i64 ay]] W fun r w' => ∃ v V, r = .returned (.tuple #[v, .int .i64 0]) ∧ DAns W w' V v ∧ Dot2 (patV ax - patV bx) (patV ay - patV by') (patV ax - patV bx) (patV ay - patV by') V ∧ Bd 8100 V) := fun W h => mDot_yes rax ray rbx rby rax ray pax pay pbx pby pax pay W h
  clear rax ray rbx rby pax pay pbx pby
  have a_k : (w.alloc (.cells #[.int .i64 ax, .int .i64 ay] 23)).heap[w.heap.size]? = some (.cells #[.int .i64 ax, .int .i64 ay] 23) := heap_new (.cells #[.int .i64 ax, .int .i64 ay] 23) (by rfl)
  have hb0 := bel_alloc w (.cells #[.int .i64 ax, .int .i64 ay] 23)
  replace a_k := heap_past (.cells #[.int .i64 bx, .int .i64 by'] 23) a_k
  have b_k : ((w.alloc (.cells #[.int .i64 ax, .int .i64 ay] 23)).alloc (.cells #[.int .i64 bx, .int .i64 by'] 23)).heap[w.heap.size + 1]? = some (.cells #[.int .i64 bx, .int .i64 by'] 23) := heap_new (.cells #[.int .i64 bx, .int .i64 by'] 23) (by simp only [size_alloc])
  replace hb0 := bel_trans hb0 (bel_alloc (w.alloc (.cells #[.int .i64 ax, .int .i64 ay] 23)) (.cells #[.int .i64 bx, .int .i64 by'] 23))
  replace a_k := heap_past (.cells #[.bool false, .slice none 0 0, .int .i64 0] 35) a_k
  replace b_k := heap_past (.cells #[.bool false, .slice none 0 0, .int .i64 0] 35) b_k
  have r_k : (((w.alloc (.cells #[.int .i64 ax, .int .i64 ay] 23)).alloc (.cells #[.int .i64 bx, .int .i64 by'] 23)).alloc (.cells #[.bool false, .slice none 0 0, .int .i64 0] 35)).heap[w.heap.size + 1 + 1]? = some (.cells #[.bool false, .slice none 0 0, .int .i64 0] 35) := heap_new (.cells #[.bool false, .slice none 0 0, .int .i64 0] 35) (by simp only [size_alloc])
  replace hb0 := bel_trans hb0 (bel_alloc ((w.alloc (.cells #[.int .i64 ax, .int .i64 ay] 23)).alloc (.cells #[.int .i64 bx, .int .i64 by'] 23)) (.cells #[.bool false, .slice none 0 0, .int .i64 0] 35))
  have f_a0 := blkC a_k 0 rfl
  have f_a1 := blkC a_k 1 rfl
  have f_b0 := blkC b_k 0 rfl
  have f_b1 := blkC b_k 1 rfl
  go_enter Tryz.func9, Tryz.ntmps9
  go_wp2_with fail
  clear f_a0 f_a1 f_b0 f_b1
  generalize (((w.alloc (.cells #[.int .i64 ax, .int .i64 ay] 23)).alloc (.cells #[.int .i64 bx, .int .i64 by'] 23)).alloc (.cells #[.bool false, .slice none 0 0, .int .i64 0] 35)) = x0 at hb0 a_k b_k r_k ⊢
  have H := H.keeps hb0
  have hs0 := (Array.getElem?_eq_some_iff.1 r_k).1
  refine (CD.out _ H).mono ?_
  rintro _ y2 ⟨v, V, rfl, h2, hD, hB⟩
  obtain ⟨n_g, n_o, n_n, n_c, n_e, rfl⟩ := dans_shape h2
  have hw2 := h2.below
  replace r_k := blk_on hw2 r_k
  have k0 := blkC r_k 0 rfl
  have z0 := blkF r_k 0
  have k1 := blkC r_k 1 rfl
  have z1 := blkF r_k 1
  have k2 := blkC r_k 2 rfl
  have z2 := blkF r_k 2
  go_wp2
  refine bodyPost_ret (v := .tuple #[.agg #[.bool n_g, .slice n_o n_n n_c, .int .i64 n_e], .int .i64 0]) (by simp [results, Tryz.results9, go_sem, k0, k1, k2]) rfl ⟨_, V, rfl, ?_, hD, hB⟩
  exact dans_res3 (g := w.heap.size + 2) h2 hb0 (by omega) hs0 _ _ _
theorem mnum (x : Int) (w : World) :
    Calls Tryz.prog 12 #[.int .i64 x] w fun e w' => e = .returned (.int .i64 x) ∧ w' = w := by
  go_enter Tryz.func12, Tryz.ntmps12
  go_wp2
  go_ret
  exact ⟨b_ret_int (by first | rfl | omega), rfl⟩
theorem pv_0 : patV 0 = 0 := by
  unfold patV
  rw [show pmag 0 = 0 by decide, show pneg 0 = false by decide]
  show (0 : Int) * _ = 0
  rw [Int.zero_mul]
theorem pv_3 : patV 4613937818241073152 = 3 * pw 0 := by
  unfold patV
  rw [show pneg 4613937818241073152 = false by decide, show pmag 4613937818241073152 = 6755399441055744 by decide, show pexp 4613937818241073152 = -51 by decide, pw_step (e := -51) (k := 0) (l := 51) (by omega) (by omega)]
  generalize pw (-51) = p
  show 6755399441055744 * p = 3 * (p * 2 ^ 51)
  rw [show (2 : Int) ^ 51 = 2251799813685248 by decide]
  omega
theorem pv_4 : patV 4616189618054758400 = 4 * pw 0 := by
  unfold patV
  rw [show pneg 4616189618054758400 = false by decide, show pmag 4616189618054758400 = 4503599627370496 by decide, show pexp 4616189618054758400 = -50 by decide, pw_step (e := -50) (k := 0) (l := 50) (by omega) (by omega)]
  generalize pw (-50) = p
  show 4503599627370496 * p = 4 * (p * 2 ^ 50)
  rw [show (2 : Int) ^ 50 = 1125899906842624 by decide]
  omega
theorem sq_of {C Y S k : Int} (h : C * S = (0 - k * Y) * (0 - k * Y)) (e : Y = S) : C * S = (k * k * Y) * S := by
  subst e
  rw [h]
  grind
theorem pw_0M : pw 0 = 2 ^ 4194304 := by unfold pw; congr 1
theorem sq_3_4 {V : Int} (h : Dot2 (patV 0 - patV 4613937818241073152) (patV 0 - patV 4616189618054758400) (patV 0 - patV 4613937818241073152) (patV 0 - patV 4616189618054758400) V) : V = sg false 25 * pw 0 := by
  obtain ⟨C, D, h1, h2, rfl⟩ := h
  rw [pv_0, pv_3] at h1
  rw [pv_0, pv_4] at h2
  rw [scale_inj (sq_of h1 pw_0M), scale_inj (sq_of h2 pw_0M)]
  generalize pw 0 = p
  show 3 * 3 * p + 4 * 4 * p = 25 * p
  omega
set_option maxRecDepth 100000 in
set_option maxHeartbeats 1000000 in
theorem alive13 (w : World) (H : Hold4 w) : Calls Tryz.prog 4 #[] w fun e w' => e = .returned (.bool true) ∧ Below w.heap.size w w' := by
  have CS : Hid (∀ W, Hold4 W -> Calls Tryz.prog 9 #[.agg #[.int .i64 0, .int .i64 0], .agg #[.int .i64 4613937818241073152, .int .i64 4616189618054758400]] W fun r w' => ∃ v V, r = .returned (.tuple #[v, .int .i64 0]) ∧ DAns W w' V v ∧ Dot2 (patV 0 - patV 4613937818241073152) (patV 0 - patV 4616189618054758400) (patV 0 - patV 4613937818241073152) (patV 0 - patV 4616189618054758400) V ∧ Bd 8100 V) := fun W h => mSquare_yes (by unfold rng; decide) (by unfold rng; decide) (by unfold rng; decide) (by unfold rng; decide) (by decide) (by decide) (by decide) (by decide) W h
  go_enter Tryz.func4, Tryz.ntmps4
  go_wp2_with fail
  refine (CS.out _ H).mono ?_
  rintro _ y1 ⟨v, V, rfl, h1, hD, hB⟩
  replace hD : Hid (V = sg false 25 * pw 0) := sq_3_4 hD
  obtain ⟨x_g, x_o, x_n, x_c, x_e, rfl⟩ := dans_shape h1
  have hw1 := h1.below
  have x_D := h1.num
  clear h1 hB CS
  have x_k := heap_a1 y1 (.cells #[.bool x_g, .slice x_o x_n x_c, .int .i64 x_e] 35)
  have x_D := x_D.keeps (bel_alloc y1 (.cells #[.bool x_g, .slice x_o x_n x_c, .int .i64 x_e] 35))
  have hb1 := bel_trans hw1 (bel_alloc y1 (.cells #[.bool x_g, .slice x_o x_n x_c, .int .i64 x_e] 35))
  go_wp2_with (go_at_call 12; refine (mnum _ _).mono ?_; rintro _ wz ⟨rfl, hwz⟩; replace hwz := hwz.symm; subst hwz)
  have hl := dnum_lit (w := (y1.alloc (.cells #[.bool x_g, .slice x_o x_n x_c, .int .i64 x_e] 35)).alloc (.cells #[.int .i64 25] 3)) (g := y1.heap.size + 1) false (m := 25) (e := 0) (by decide) (by decide) (by decide) (by decide) (heap_new _ (by simp only [size_alloc]))
  have x_E := x_D.keeps (bel_alloc (y1.alloc (.cells #[.bool x_g, .slice x_o x_n x_c, .int .i64 x_e] 35)) (.cells #[.int .i64 25] 3))
  refine (osame_D x_E hl).mono ?_
  rintro _ y2 ⟨rfl, hw2⟩
  have he : decide (V = sg false 25 * pw 0) = true := decide_eq_true hD.out
  rw [he]
  have hb2 := bel_trans (bel_trans hb1 (bel_alloc _ _)) hw2
  clear he hD hl x_E
  go_wp2
  go_ret
  exact ⟨rfl, hb2⟩
end Go.Proofs.YthpachmmjjlomaaGreatDoor
namespace Go.Proofs.YthpachmmjjlomaaGreatDoor
open Go Go.ChangeShapes Go.WideShapes Go.ChangeAt Go.RowKit Go.Proofs.YthpachmmjjlomaaGreatDoor.M
set_option linter.unusedSimpArgs false
set_option linter.unusedVariables false
theorem q_cellsPoint : Tryz.prog.cellsOf 23 = 2 := by kernel_rfl
theorem q_cellsInt : Tryz.prog.cellsOf 3 = 1 := by kernel_rfl
set_option maxRecDepth 100000 in
theorem point_cells {H : Type} {enc : TypeId × Value -> H} {W : World} {n : Nat} {cs : List Value} {x : DataW H × List MemPlace}
    (h : DataW.trod enc Tryz.prog W 0 (fun _ => true) true n 23 cs = some x) :
    ∃ a b : Int, cs = [.int .i64 a, .int .i64 b] ∧ rng a ∧ rng b := by
  obtain ⟨xs, m, _, rfl, hl, hlen, hf⟩ := DataW.trod_struct Tryz.underlying23 h
  rw [q_cellsPoint] at hl
  match cs, hl with
  | [v0, v1], _ =>
    match xs, hlen with
    | [y0, y1], _ =>
      have f0 : DataW.trod enc Tryz.prog W 0 (fun _ => true) true m 3 (([v0, v1].drop 0).take (Tryz.prog.cellsOf 3)) = some y0 := hf 0 _ rfl
      have f1 : DataW.trod enc Tryz.prog W 0 (fun _ => true) true m 3 (([v0, v1].drop 1).take (Tryz.prog.cellsOf 3)) = some y1 := hf 1 _ rfl
      rw [q_cellsInt] at f0 f1
      simp only [List.drop_zero, List.drop_succ_cons, List.take_succ_cons, List.take_zero] at f0 f1
      obtain ⟨k0, e0, _, w0⟩ := DataW.trod_int Tryz.underlying3 f0
      obtain ⟨k1, e1, _, w1⟩ := DataW.trod_int Tryz.underlying3 f1
      simp at e0 e1
      subst e0 e1
      exact ⟨k0, k1, rfl, rng_of w0, rng_of w1⟩
set_option maxRecDepth 100000 in
theorem point_of {H : Type} {enc : TypeId × Value -> H} {W : World} {base : Nat} {v : Value} {d : DataW H} {p : List MemPlace} (hv : Value.okWide Tryz.prog W .any base 23 v)
    (h : DataW.Trod enc Tryz.prog W 0 (fun _ => true) true 23 v d p) : ∃ a b : Int, v = .agg #[.int .i64 a, .int .i64 b] ∧ rng a ∧ rng b := by
  obtain ⟨cs, rfl, hc⟩ := okWide_struct Tryz.underlying23 hv
  obtain ⟨fuel, hf⟩ := h
  obtain ⟨a, b, hr, h1, h2⟩ := point_cells hf
  refine ⟨a, b, ?_, h1, h2⟩
  congr 1
  have : cs.toList = [.int .i64 a, .int .i64 b] := by simpa [Value.cells] using hr
  exact Array.toList_inj.1 this
end Go.Proofs.YthpachmmjjlomaaGreatDoor
