/-
  Parts of the proof, one behind another.
-/
import Derived.Test.YtoehjolmniddlaaDoorPart4
import Derived.Test.YtoehjolmniddlaaDoorPart7
import Derived.Test.YtoehjolmniddlaaDoorPart5
import Derived.Test.YtoehjolmniddlaaDoorPart6
import Derived.Deep.LoopGhost
import Derived.Deep.RegionWith
import Derived.Laws.Externs
import Derived.Laws.Cover2
import Derived.Test.YtoehjolmniddlaaDoorPart3
import Derived.Test.YtoehjolmniddlaaDoorPart1
/-
  Package round: way.beyond, value.binary64, by their contracts.
-/
namespace Go.Proofs.YtoehjolmniddlaaDoor
open Go Go.RowKit Go.Proofs.YtoehjolmniddlaaDoor.M
set_option linter.unusedSimpArgs false
set_option linter.unusedVariables false

/-- The rung of what is too great. -/
def bRung (way : Int) (ng : Bool) : Int := if rUp way ng true 3 then 9218868437227405312 else 9218868437227405311
/-- A pattern of a sign and a rung. -/
def patS (ng : Bool) (r : Int) : Int := if ng then r - 9223372036854775808 else r
theorem or_inf : bits BinOp.or IntKind.i64 9218868437227405312 (-9223372036854775808) = -4503599627370496 := by decide +kernel
theorem or_most : bits BinOp.or IntKind.i64 9218868437227405311 (-9223372036854775808) = -4503599627370497 := by decide +kernel
theorem Env.keeps {w w' : World} (h : Env w) (hb : Below w.heap.size w w') : Env w' :=
  ⟨⟨cell_keeps h.lays.a0 hb, cell_keeps h.lays.a1 hb, cell_keeps h.lays.a2 hb, trivial, trivial, trivial⟩, fun j hj => cell_keeps (h.tab j hj) hb⟩
set_option maxRecDepth 100000 in
set_option maxHeartbeats 1000000 in
theorem beyond_any (way : Int) (hw : 0 ≤ way ∧ way ≤ 3) (ng : Bool) (w : World) :
    Calls Tryd.prog 58 #[wayV way, .bool ng, .int .i64 9218868437227405312, .int .i64 (-9223372036854775808)] w fun e w' => e = .returned (.int .i64 (patS ng (bRung way ng))) ∧ Below w.heap.size w w' := by
  have hF := wraise_any way hw
  have hE := wraise_enter way
  unfold wayV bRung
  generalize wayF way = F at hF hE ⊢
  have q0 := heap_alloc_new w (.cells #[.func (.func F) #[] #[]] 82)
  have k0 := blkC q0 0 rfl
  have o1 := or_inf
  have o2 := or_most
  obtain ⟨R, hR⟩ : ∃ R, rUp way ng true 3 = R := ⟨_, rfl⟩
  have hFF := hF ng true 3
  rw [hR] at hFF ⊢
  clear hR hF
  cases ng <;> cases R
  all_goals
    unfold patS
    go_enter Tryd.func58, Tryd.ntmps58
    go_wp2_with (first | (refine (hFF _).mono ?_; rintro _ _ ⟨rfl, rfl⟩))
    all_goals go_ret
    all_goals exact ⟨by simp, bel_alloc _ _⟩
/-- What a value is rounded to. -/
def r64 (way : Int) (ng sd : Bool) (mag : Nat) (exp : Int) (cut : Bool) : Int × Bool :=
  let E := rE 53 (-1074) mag exp
  let u := rU mag (E - exp)
  let left := rL mag cut (E - exp)
  let U := u + (if rUp way ng (decide (u % 2 = 1)) left then 1 else 0)
  let neg := ng && (decide (0 < U) || sd)
  if jk 52 2047 (-1074) U E then (jp neg U E, decide (left ≠ 0)) else (patS neg (bRung way neg), true)
set_option maxRecDepth 100000 in
set_option maxHeartbeats 1000000 in
theorem binary64_any (way : Int) (hw : 0 ≤ way ∧ way ≤ 3) (ng sd : Bool) (mag : Nat) (exp : Int) (cut : Bool) (w : World) (Ev : Env w) (hm : mag < 18446744073709551616) (he : -4500000 ≤ exp ∧ exp ≤ 4500000) :
    Calls Tryd.prog 31 #[valV ng mag exp cut sd, wayV way] w fun e w' => e = .returned (.tuple #[.int .i64 (r64 way ng sd mag exp cut).1, .bool (r64 way ng sd mag exp cut).2]) ∧ Below w.heap.size w w' := by
  have e64 : (2 : Nat) ^ 64 = 18446744073709551616 := by decide
  have e53 : (2 : Nat) ^ (53 : Int).toNat = 9007199254740992 := by decide
  have hE : -5000000 ≤ rE 53 (-1074) mag exp ∧ rE 53 (-1074) mag exp ≤ 5000000 := by
    have hbl : Lib.bitLen mag ≤ 64 := by
      by_cases h0 : mag = 0
      · rw [h0]; decide
      · exact (M.bitLen_spec mag (by omega) h0).2.2.2
    unfold rE
    omega
  have hu : rU mag (rE 53 (-1074) mag exp - exp) ≤ 9007199254740991 := by
    by_cases h0 : mag = 0
    · rw [h0]; unfold rU; split <;> simp
    · have := (rU_bits (size := 53) (low := -1074) (exp := exp) (by decide) (by omega) h0).1
      rw [e53] at this
      omega
  have hUn := fun W => units_any way hw ng mag exp (rE 53 (-1074) mag exp) cut sd W hm hE (by omega) (by omega)
  have HR : r64 way ng sd mag exp cut = (let E := rE 53 (-1074) mag exp
    let u := rU mag (E - exp)
    let left := rL mag cut (E - exp)
    let U := u + (if rUp way ng (decide (u % 2 = 1)) left then 1 else 0)
    let neg := ng && (decide (0 < U) || sd)
    if jk 52 2047 (-1074) U E then (jp neg U E, decide (left ≠ 0)) else (patS neg (bRung way neg), true)) := rfl
  simp only at HR
  have hEE : rE 53 (-1074) mag exp = rE 53 (-1074) mag exp := rfl
  obtain ⟨E, hEq⟩ : ∃ E, rE 53 (-1074) mag exp = E := ⟨_, rfl⟩
  rw [hEq] at hE hu hUn HR
  obtain ⟨left, hleft⟩ : ∃ l, rL mag cut (E - exp) = l := ⟨_, rfl⟩
  rw [hleft] at hUn HR
  obtain ⟨U, hU⟩ : ∃ U, rU mag (E - exp) + (if rUp way ng (decide (rU mag (E - exp) % 2 = 1)) left then 1 else 0) = U := ⟨_, rfl⟩
  rw [hU] at hUn HR
  have hU2 : U ≤ 9007199254740992 := by rw [← hU]; split <;> omega
  obtain ⟨neg, hneg⟩ : ∃ n, (ng && (decide (0 < U) || sd)) = n := ⟨_, rfl⟩
  have hFl := fun W => float_F (wayF way) ng mag exp 53 (-1074) cut sd U E (decide (left ≠ 0)) W hm he (by omega) (by omega) hEq (by omega) hUn
  rw [hneg] at hFl HR
  have hJ := fun W (EW : Env W) => bitsJoin neg (U : Int) E W EW (by unfold rng; omega) (by unfold rng; omega)
  have hB := fun W => beyond_any way hw neg W
  obtain ⟨other, hoth⟩ : ∃ o, decide (left ≠ 0) = o := ⟨_, rfl⟩
  rw [hoth] at hFl HR
  obtain ⟨fin, hfin⟩ : ∃ f, jk 52 2047 (-1074) (U : Int) E = f := ⟨_, rfl⟩
  obtain ⟨pt, hpt⟩ : ∃ p, jp neg (U : Int) E = p := ⟨_, rfl⟩
  rw [hpt] at hJ HR
  rw [hfin] at hJ HR
  obtain ⟨by1, hby⟩ : ∃ b, patS neg (bRung way neg) = b := ⟨_, rfl⟩
  rw [hby] at hB HR
  rw [HR]
  have hUi : ((U : Nat) : Int) = ((U : Nat) : Int) := rfl
  have hb2 := bel_alloc2 w (.cells #[.bool ng, .int .u64 mag, .int .i64 exp, .bool cut, .bool sd] 55) (.cells #[.func (.func (wayF way)) #[] #[]] 82)
  have q1 := heap_b2 w (.cells #[.bool ng, .int .u64 mag, .int .i64 exp, .bool cut, .bool sd] 55) (.cells #[.func (.func (wayF way)) #[] #[]] 82)
  have k1 := blkC q1 0 rfl
  have HEV : Hid (Env w) := Ev
  clear Ev HR hUn hEq hleft hU hneg hoth hfin hpt hby hU2 hu hE hEE hUi e64 e53
  unfold wayV valV at *
  generalize wayF way = F at *
  go_enter Tryd.func31, Tryd.ntmps31
  go_wp2_with fail
  refine (hFl _).mono ?_
  rintro _ w1 ⟨rfl, hb1⟩
  have hbw := bel_trans hb2 hb1
  have p1 := (hb1.block _ (Array.getElem?_eq_some_iff.1 q1).1).trans q1
  have k2 := blkC p1 0 rfl
  clear hFl hb2 hb1 q1 k1
  go_wp2_with fail
  refine (hJ _ (HEV.out.keeps hbw)).mono ?_
  rintro _ w2 ⟨rfl, hg⟩
  have hb2 := hg.be
  have hbw2 := bel_trans hbw hb2
  have p2 := (hb2.block _ (Array.getElem?_eq_some_iff.1 p1).1).trans p1
  have k3 := blkC p2 0 rfl
  clear hJ hg p1 p2 k2 hb2 hbw
  cases fin
  · go_wp2_with fail
    refine (hB _).mono ?_
    rintro _ w3 ⟨rfl, hb3⟩
    go_wp2
    all_goals go_ret2
    all_goals exact ⟨by simp, bel_trans hbw2 hb3⟩
  · go_wp2
    all_goals go_ret2
    all_goals exact ⟨by simp, hbw2⟩
end Go.Proofs.YtoehjolmniddlaaDoor

/-
  Package nat: root, Root, by contracts: for every number.
-/
namespace Go.Proofs.YtoehjolmniddlaaDoor
open Go Go.RowKit Go.Proofs.YtoehjolmniddlaaDoor.M
set_option linter.unusedSimpArgs false
set_option linter.unusedVariables false

/-- The square root, cut: the greatest s with s s <= A. -/
def IsRoot (A s : Int) : Prop := 0 ≤ s ∧ s * s ≤ A ∧ A < (s + 1) * (s + 1)
theorem root_above {A s : Int} (hA : 0 ≤ A) (hs : 0 < s) (h : A < s * s) : ∀ r, r * r ≤ A → r < s := fun r hr => by
  rcases Int.lt_or_le r s with q | q
  · exact q
  · have := Int.mul_le_mul q q (by omega) (by omega)
    omega
/-- s is not below the root. -/
def Abv (A s : Int) : Prop := ∀ r, 0 ≤ r → r * r ≤ A → r ≤ s
theorem abv_start {A : Int} (hA : 0 ≤ A) {k : Nat} (h : A < 2 ^ (2 * k)) : Abv A (2 ^ k) := fun r h0 hr => by
  rcases Int.lt_or_le (2 ^ k) r with q | q
  · have h1 := Int.mul_le_mul (Int.le_of_lt q) (Int.le_of_lt q) (Int.le_of_lt (two_pos k)) h0
    rw [← Int.pow_add, ← Nat.two_mul] at h1
    omega
  · exact q
theorem abv_next {A s : Int} (hs : 0 < s) (h : Abv A s) : Abv A ((s + A / s) / 2) := fun r h0 hr => newton_above hs hr
theorem abv_done {A s : Int} (hs : 0 < s) (h : Abv A s) (hst : s ≤ (s + A / s) / 2) : IsRoot A s := by
  refine ⟨by omega, newton_stop hs hst, ?_⟩
  rcases Int.lt_or_le A ((s + 1) * (s + 1)) with q | q
  · exact q
  · have := h (s + 1) (by omega) q
    omega
theorem Num.parts {w : World} {v : Value} {V : Int} (h : Num w v V) {k : Nat} (hV : V < P k) : ∃ ao n cap d, v = .slice ao n cap ∧ Row w ao n cap d ∧ Nrm d n ∧ val d n = V ∧ n ≤ k := by
  obtain ⟨ao, n, cap, rfl⟩ := h.shape
  have hl := h.len hV
  obtain ⟨ao', n', cap', d, e, hR, h2, h3⟩ := h
  simp only [Value.slice.injEq] at e
  obtain ⟨rfl, rfl, rfl⟩ := e
  exact ⟨ao, n, cap, d, rfl, hR, h2, h3, hl⟩
theorem lower_num {w : World} {x : Value} {A : Int} (hx : Num w x A) (hA : A < P 6000) (k : Nat) (hk : (k : Int) < 9223372036854775808) :
    Calls Tryd.prog 67 #[x, .int .i64 k] w fun e w' => ∃ v, e = .returned v ∧ Ans w w' (A / 2 ^ k) v := by
  obtain ⟨ao, n, ca, d, rfl, hR, h2, rfl, hl⟩ := hx.parts hA
  exact lower_any _ _ _ _ _ _ hR h2.1 (by omega) hk
theorem lower_half {w : World} {x : Value} {A : Int} (hx : Num w x A) (hA : A < P 6000) :
    Calls Tryd.prog 67 #[x, .int .i64 1] w fun e w' => ∃ v, e = .returned v ∧ Ans w w' (A / 2) v := lower_num hx hA 1 (by decide)
theorem compare_num {w : World} {x y : Value} {A B : Int} (hx : Num w x A) (hy : Num w y B) :
    Calls Tryd.prog 90 #[x, y] w fun e w' => e = .returned (.int .i64 (ord A B)) ∧ Below w.heap.size w w' := by
  obtain ⟨ao, n, ca, d, rfl, hR, h2, rfl⟩ := hx
  obtain ⟨bo, m, cb, e, rfl, kR, k2, rfl⟩ := hy
  exact compare_any _ _ _ _ _ _ _ _ _ hR kR h2 k2
theorem raise_num {w : World} {x : Value} {A : Int} (hx : Num w x A) (hA : A < P 5000) (k : Nat) (hk : k ≤ 1000000) :
    Calls Tryd.prog 91 #[x, .int .i64 k] w fun e w' => ∃ v, e = .returned v ∧ Ans w w' (A * 2 ^ k) v := by
  obtain ⟨ao, n, ca, d, rfl, hR, h2, rfl, hl⟩ := hx.parts hA
  exact raise_any _ _ _ _ _ _ hR h2.1 (by omega) hk
theorem bitLength_num {w : World} {x : Value} {A : Int} (hx : Num w x A) (hA : A < P 5000) :
    Calls Tryd.prog 66 #[x] w fun e w' => e = .returned (.int .i64 (blen A)) ∧ w' = w := by
  obtain ⟨ao, n, ca, d, rfl, hR, h2, rfl, hl⟩ := hx.parts hA
  exact bitLength_any _ _ _ _ _ hR h2 (by omega)

/-- A root that is answered. -/
def RootA (w w' : World) (A : Int) (v : Value) : Prop := ∃ s, Ans w w' s v ∧ IsRoot A s
theorem root_bnd {A s : Int} (hA : A < P 2000) (hA0 : 0 ≤ A) (hs : 0 < s) (h3 : s < P 3000) : A / s < P 5000 ∧ s < P 5000 ∧ s + A / s < P 6000 := by
  have h1 : A / s ≤ A := Int.ediv_le_self _ hA0
  have p1 := P_le (show 2000 ≤ 3000 by decide)
  have p2 := P_le (show 3000 ≤ 5000 by decide)
  have p3 : P 3000 + P 3000 ≤ P 6000 := by
    have h := P_le (show 3001 ≤ 6000 by decide)
    have e : P 3001 = P 3000 * 1073741824 := P_succ 3000
    have := P_pos 3000
    generalize P 3000 = X at *
    generalize P 6000 = Y at *
    generalize P 3001 = Z at *
    omega
  generalize P 3000 = X at *
  generalize P 6000 = Y at *
  generalize P 5000 = Z at *
  generalize P 2000 = T at *
  refine ⟨?_, ?_, ?_⟩ <;> omega
/-- Where a root's rounds stand: s is in new memory, and not below the root. -/
def RootR (w0 : World) (A : Int) (v : Value) (s : Int) (wr : World) : Prop := Ans w0 wr s v ∧ 0 < s ∧ Abv A s ∧ s < P 3000
end Go.Proofs.YtoehjolmniddlaaDoor

/-
  Package round: scaled, valueOf, by their contracts.
-/
namespace Go.Proofs.YtoehjolmniddlaaDoor
open Go Go.RowKit Go.Proofs.YtoehjolmniddlaaDoor.M
set_option linter.unusedSimpArgs false
set_option linter.unusedVariables false

theorem low_mod {V l : Int} (h : LowA V l) (h0 : 0 < V) (k : Nat) : decide (l < (k : Int)) = decide (V % 2 ^ k ≠ 0) := by
  obtain ⟨j, rfl, q, hq⟩ := lowA_pos h h0
  by_cases hjk : j < k
  · rw [decide_eq_true (by omega)]
    refine (decide_eq_true ?_).symm
    intro hz
    obtain ⟨d, hd⟩ : ∃ d, k = j + 1 + d := ⟨k - j - 1, by omega⟩
    have h1 : (2 : Int) ^ k ∣ V := Int.dvd_of_emod_eq_zero hz
    obtain ⟨c, hc⟩ := h1
    rw [hq, hd, Int.pow_add, Int.pow_succ] at hc
    have hp := two_pos j
    have e : (2 : Int) ^ j * (2 * q + 1) = 2 ^ j * (2 * (2 ^ d * c)) := by
      rw [Int.mul_comm, hc]
      simp only [Int.mul_assoc]
    have := Int.eq_of_mul_eq_mul_left (by omega) e
    omega
  · rw [decide_eq_false (by omega)]
    refine (decide_eq_false ?_).symm
    intro hz
    apply hz
    obtain ⟨d, hd⟩ : ∃ d, j = k + d := ⟨j - k, by omega⟩
    rw [hq, hd, Int.pow_add, Int.mul_comm, Int.mul_assoc]
    exact Int.mul_emod_right _ _
set_option maxRecDepth 100000 in
set_option maxHeartbeats 1000000 in
theorem scaled_low (ao : Option Addr) (n ca : Nat) (a : Nat → Int) (k : Nat) (w : World) (ha : Row w ao n ca a) (na : Nrm a n) (hn : n ≤ 5000) (hk0 : 0 < k) (hk : k ≤ 1000000) (h0 : 0 < val a n) (hT : Tab w) :
    Calls Tryd.prog 85 #[.slice ao n ca, .int .i64 (-(k : Int))] w fun e w' => ∃ v, e = .returned (.tuple #[v, .bool (decide (val a n % 2 ^ k ≠ 0))]) ∧ Ans w w' (val a n / 2 ^ k) v := by
  have CL : Hid (∀ W, Below w.heap.size w W → _) := fun W hb => lower_any ao n ca k a W (ha.keeps hb) na.1 (by omega) (by omega)
  have CW : Hid (∀ W, Below w.heap.size w W → _) := fun W hb => lowest_any ao n ca a W (ha.keeps hb) na.1 (by omega) (hT.keeps hb)
  have HM : Hid (∀ l, LowA (val a n) l → decide (l < (k : Int)) = decide (val a n % 2 ^ k ≠ 0)) := fun l h => low_mod h h0 k
  generalize decide (val a n % 2 ^ k ≠ 0) = R at HM ⊢
  generalize val a n / 2 ^ k = Q at CL ⊢
  have w1 : IntKind.i64.wrap (k : Int) = (k : Int) := by rw [wrap_i64_eq]; omega
  go_enter Tryd.func85, Tryd.ntmps85
  go_wp2_with fail
  refine (CL.out _ (bel_refl _)).mono ?_
  rintro _ w2 ⟨v, rfl, hA⟩
  have hb2 := hA.below
  have HA : Hid (Ans w w2 Q v) := hA
  obtain ⟨so, sn, sc, rfl⟩ := hA.num.shape
  clear hA CL
  go_wp2_with fail
  refine (CW.out _ hb2).mono ?_
  rintro _ w3 ⟨l, rfl, hl, rfl⟩
  have hr := HM.out l hl
  go_wp2
  all_goals refine bodyPost_ret (v := .tuple #[.slice so sn sc, .bool R]) (by simp [results, Tryd.results85, go_sem]) rfl ⟨_, rfl, HA.out⟩
set_option maxRecDepth 100000 in
set_option maxHeartbeats 1000000 in
theorem scaled_zero (ao : Option Addr) (n ca : Nat) (a : Nat → Int) (w : World) (ha : Row w ao n ca a) (na : Nrm a n) (hn : n ≤ 5000) :
    Calls Tryd.prog 85 #[.slice ao n ca, .int .i64 0] w fun e w' => ∃ v, e = .returned (.tuple #[v, .bool false]) ∧ Ans w w' (val a n) v := by
  have CR : Hid (Calls Tryd.prog 91 #[.slice ao n ca, .int .i64 0] w fun e w' => ∃ v, e = .returned v ∧ Ans w w' (val a n) v) := by
    have h := raise_any ao n ca 0 a w ha na.1 (by omega) (by omega)
    rw [Int.pow_zero, Int.mul_one] at h
    exact h
  go_enter Tryd.func85, Tryd.ntmps85
  go_wp2_with fail
  refine CR.out.mono ?_
  rintro _ w2 ⟨v, rfl, hA⟩
  have HA : Hid (Ans w w2 (val a n) v) := hA
  obtain ⟨so, sn, sc, rfl⟩ := hA.num.shape
  clear hA CR
  go_wp2
  all_goals refine bodyPost_ret (v := .tuple #[.slice so sn sc, .bool false]) (by simp [results, Tryd.results85, go_sem]) rfl ⟨_, rfl, HA.out⟩
theorem keep3R {W w' : World} {b g o0 o1 o2 : Nat} {x y z : Value} (h : W.cell? ⟨b, o0, none⟩ = some x ∧ W.cell? ⟨b, o1, none⟩ = some y ∧ W.cell? ⟨b, o2, none⟩ = some z) (hw : Wr g W w') (hg : b ≠ g) :
    w'.cell? ⟨b, o0, none⟩ = some x ∧ w'.cell? ⟨b, o1, none⟩ = some y ∧ w'.cell? ⟨b, o2, none⟩ = some z :=
  ⟨(hw.cell (World.block_lt_of_cell? W _ h.1) hg).trans h.1, (hw.cell (World.block_lt_of_cell? W _ h.2.1) hg).trans h.2.1, (hw.cell (World.block_lt_of_cell? W _ h.2.2) hg).trans h.2.2⟩
theorem wr5 (W : World) (g : Nat) (a b c d e : Value) : Wr g W (((((W.setCell ⟨g, 0, none⟩ a).setCell ⟨g, 1, none⟩ b).setCell ⟨g, 2, none⟩ c).setCell ⟨g, 3, none⟩ d).setCell ⟨g, 4, none⟩ e) := (((((Wr.refl g W).setCell 0 a).setCell 1 b).setCell 2 c).setCell 3 d).setCell 4 e
/-- What is cut off a whole number of more than 62 bits. -/
def vK (M : Int) : Nat := blen M - 62
theorem vK_small {M : Int} (h : 0 ≤ M) : 0 ≤ M / 2 ^ vK M ∧ M / 2 ^ vK M < 4611686018427387904 := by
  have hp := two_pos (vK M)
  refine ⟨Int.ediv_nonneg h (by omega), ?_⟩
  have h1 := blen_lt M
  have h2 : (2 : Int) ^ blen M ≤ 2 ^ (62 + vK M) := two_le (by unfold vK; omega)
  have e : (2 : Int) ^ (62 + vK M) = 4611686018427387904 * 2 ^ vK M := by rw [Int.pow_add]; rfl
  exact Int.ediv_lt_of_lt_mul hp (by omega)
theorem blen_nrm {a : Nat → Int} {n : Nat} (na : Nrm a n) : blen (val a n) ≤ 30 * n := by
  cases n with
  | zero => show blen 0 ≤ _; rw [blen_zero]; omega
  | succ m =>
    rw [blen_val na]
    have h : blen (a m) ≤ 30 := blen_le (by show a m < 1073741824; exact (na.1 m (by omega)).2)
    omega
set_option maxRecDepth 100000 in
set_option maxHeartbeats 2000000 in
theorem valueOf_any (ng : Bool) (ao : Option Addr) (n ca : Nat) (a : Nat → Int) (e : Int) (w : World) (ha : Row w ao n ca a) (na : Nrm a n) (hn : n ≤ 5000) (he : -1100000 ≤ e ∧ e ≤ 1100000) (hT : Tab w) :
    Calls Tryd.prog 59 #[.agg #[.bool ng, .slice ao n ca, .int .i64 e]] w fun r w' => r = .returned (valV ng (val a n / 2 ^ vK (val a n)).toNat (e + vK (val a n)) (decide (val a n % 2 ^ vK (val a n) ≠ 0)) false) ∧ Below w.heap.size w w' := by
  have hv0 := val_nonneg na.1
  have hbl : blen (val a n) ≤ 150000 := by have := blen_nrm na; omega
  have CB : Hid (∀ W, Below w.heap.size w W → _) := fun W hb => bitLength_any ao n ca a W (ha.keeps hb) na (by omega)
  obtain ⟨k, hk⟩ : ∃ k, vK (val a n) = k := ⟨_, rfl⟩
  have hsm := vK_small hv0
  rw [hk] at hsm ⊢
  have CS : Hid (∀ W, Below w.heap.size w W → Calls Tryd.prog 85 #[.slice ao n ca, .int .i64 (-(k : Int))] W fun e w' => ∃ v, e = .returned (.tuple #[v, .bool (decide (val a n % 2 ^ k ≠ 0))]) ∧ Ans W w' (val a n / 2 ^ k) v) := fun W hb => by
    by_cases h0 : k = 0
    · subst h0
      have h := scaled_zero ao n ca a W (ha.keeps hb) na hn
      simpa using h
    · have hp : 0 < val a n := by
        rcases Int.lt_or_eq_of_le hv0 with h | h
        · exact h
        · exfalso; rw [← h] at hk; apply h0; rw [← hk]; decide
      exact scaled_low ao n ca a k W (ha.keeps hb) na hn (by omega) (by unfold vK at hk; omega) hp (hT.keeps hb)
  have hbk : min (62 - (blen (val a n) : Int)) 0 = -(k : Int) := by unfold vK at hk; omega
  obtain ⟨B, hB⟩ : ∃ B : Int, (blen (val a n) : Int) = B := ⟨_, rfl⟩
  have hB0 : 0 ≤ B ∧ B ≤ 150000 := by omega
  rw [hB] at CB hbk
  have hk2 : k ≤ 150000 := by unfold vK at hk; omega
  generalize decide (val a n % 2 ^ k ≠ 0) = R at CS ⊢
  obtain ⟨Q, hQ⟩ : ∃ Q : Nat, val a n / 2 ^ k = (Q : Int) := Int.eq_ofNat_of_zero_le hsm.1
  rw [hQ] at CS hsm ⊢
  rw [Int.toNat_natCast]
  have CM : Hid (∀ (W' : World) so sn sc, Num W' (.slice so sn sc) (Q : Int) → Calls Tryd.prog 86 #[.slice so sn sc] W' fun e w' => e = .returned (.int .i64 (Q : Int)) ∧ w' = W') := fun W' so sn sc hA => by
    obtain ⟨ao', n', ca', d', hs, hR, hN, hV, hl⟩ := hA.parts (k := 3) (by rw [show P 3 = 1237940039285380274899124224 by decide]; omega)
    simp only [Value.slice.injEq] at hs
    obtain ⟨rfl, rfl, rfl⟩ := hs
    rw [← hV]
    exact small_any _ _ _ _ _ hR hN.1 hl (by omega)
  have w1 : IntKind.i64.wrap (62 - B) = 62 - B := by rw [wrap_i64_eq]; omega
  have w2 : IntKind.i64.wrap (e + k) = e + k := by rw [wrap_i64_eq]; omega
  have w3 : IntKind.u64.wrap (Q : Int) = (Q : Int) := by rw [IntKind.wrap_u64]; omega
  have hmin : ∀ (ts : Array TypeId) (t : TypeId) (x y : Int) (w : World), (Builtin.min_ ts t #[.int .i64 x, .int .i64 y]).run Tryd.prog w = .ok (.int .i64 (min x y)) w := fun ts t x y w => by rw [run_min_int2]; congr 2; omega
  have q0 := heap_a2 w (.cells #[.bool ng, .slice ao n ca, .int .i64 e] 26) (.cells #[.bool false, .int .u64 0, .int .i64 0, .bool false, .bool false] 55)
  have q1 := heap_b2 w (.cells #[.bool ng, .slice ao n ca, .int .i64 e] 26) (.cells #[.bool false, .int .u64 0, .int .i64 0, .bool false, .bool false] 55)
  have hb1 := bel_alloc2 w (.cells #[.bool ng, .slice ao n ca, .int .i64 e] 26) (.cells #[.bool false, .int .u64 0, .int .i64 0, .bool false, .bool false] 55)
  clear hQ hk hB hbl hv0 hsm hT
  unfold valV
  go_enter Tryd.func59, Tryd.ntmps59
  go_wp2_with fail
  generalize (w.alloc (.cells #[.bool ng, .slice ao n ca, .int .i64 e] 26)).alloc (.cells #[.bool false, .int .u64 0, .int .i64 0, .bool false, .bool false] 55) = wx at q0 q1 hb1 ⊢
  refine (CB.out _ hb1).mono ?_
  rintro _ _ ⟨rfl, rfl⟩
  have k1 := blkC q0 1 rfl
  go_wp2_with fail
  refine (CS.out _ hb1).mono ?_
  rintro _ w4 ⟨v, rfl, hA⟩
  have hb4 := hA.below
  obtain ⟨so, sn, sc, rfl⟩ := hA.num.shape
  have CM1 : Hid (Calls Tryd.prog 86 #[.slice so sn sc] w4.drew fun e w' => e = .returned (.int .i64 (Q : Int)) ∧ w' = w4.drew) := CM.out w4.drew so sn sc (hA.num.keeps (bel_refl w4).drew)
  have hbw := bel_trans hb1 hb4
  have p0 := (hb4.block _ (Array.getElem?_eq_some_iff.1 q0).1).trans q0
  have p1 := (hb4.block _ (Array.getElem?_eq_some_iff.1 q1).1).trans q1
  clear CB CS k1 hA CM
  have c0 := blkC p0 0 rfl
  have c2 := blkC p0 2 rfl
  have x0 := blkC p1 0 rfl
  have x1 := blkC p1 1 rfl
  have x2 := blkC p1 2 rfl
  have x3 := blkC p1 3 rfl
  have x4 := blkC p1 4 rfl
  have z0 := blkF p1 0
  have z1 := blkF p1 1
  have z2 := blkF p1 2
  have z3 := blkF p1 3
  have z4 := blkF p1 4
  go_wp2_with fail
  have c1 := blkC p0 1 rfl
  go_region_with (go_at_call 86; refine CM1.out.mono ?_; rintro _ _ ⟨rfl, rfl⟩)
  all_goals go_wp2
  all_goals refine bodyPost_ret (v := .agg #[.bool ng, .int .u64 Q, .int .i64 (e + k), .bool R, .bool false]) (by simp [results, Tryd.results59, go_sem, x0, x1, x2, x3, x4]) rfl ⟨rfl, ?_⟩
  all_goals exact ((wr5 w4 (w.heap.size + 1) _ _ _ _ _).below hbw hbw.size (Nat.le_succ _)).drew
end Go.Proofs.YtoehjolmniddlaaDoor

/-
  Package round: itself, rounded, To, by their contracts.
-/
namespace Go.Proofs.YtoehjolmniddlaaDoor
open Go Go.RowKit Go.Proofs.YtoehjolmniddlaaDoor.M
set_option linter.unusedSimpArgs false
set_option linter.unusedVariables false

set_option maxRecDepth 100000 in
set_option maxHeartbeats 1000000 in
/-- One number, as it is. -/
theorem itself_any (p : Nat) (off cap len : Nat) (ng : Bool) (ao : Option Addr) (n ca : Nat) (a : Nat → Int) (e : Int) (w : World) (c0 : w.cell? ⟨p, off, none⟩ = some (.bool ng)) (c1 : w.cell? ⟨p, off + 1, none⟩ = some (.slice ao n ca)) (c2 : w.cell? ⟨p, off + 2, none⟩ = some (.int .i64 e)) (hl : 0 < len) (ha : Row w ao n ca a) (na : Nrm a n) (hn : n ≤ 5000) (he : -1100000 ≤ e ∧ e ≤ 1100000) (hT : Tab w) :
    Calls Tryd.prog 32 #[.slice (some ⟨p, off, none⟩) len cap] w fun r w' => r = .returned (.tuple #[valV ng (val a n / 2 ^ vK (val a n)).toNat (e + vK (val a n)) (decide (val a n % 2 ^ vK (val a n) ≠ 0)) false, .int .i64 0]) ∧ Below w.heap.size w w' := by
  have CV : Hid (∀ W, Below w.heap.size w W → _) := fun W hb => valueOf_any ng ao n ca a e W (ha.keeps hb) na hn he (hT.keeps hb)
  unfold valV at *
  generalize (val a n / 2 ^ vK (val a n)).toNat = Q at CV ⊢
  generalize e + vK (val a n) = E at CV ⊢
  generalize decide (val a n % 2 ^ vK (val a n) ≠ 0) = R at CV ⊢
  have q0 := heap_alloc_new w (.cells #[.bool false, .int .u64 0, .int .i64 0, .bool false, .bool false] 55)
  have hb1 := bel_alloc w (.cells #[.bool false, .int .u64 0, .int .i64 0, .bool false, .bool false] 55)
  have d0 := cell_keeps c0 hb1
  have d1 := cell_keeps c1 hb1
  have d2 := cell_keeps c2 hb1
  go_enter Tryd.func32, Tryd.ntmps32
  go_wp2_with fail
  refine (CV.out _ hb1).mono ?_
  rintro _ w2 ⟨rfl, hb2⟩
  have p1 := (hb2.block _ (Array.getElem?_eq_some_iff.1 q0).1).trans q0
  have hbw := bel_trans hb1 hb2
  clear d0 d1 d2 c0 c1 c2 CV
  have x0 := blkC p1 0 rfl
  have x1 := blkC p1 1 rfl
  have x2 := blkC p1 2 rfl
  have x3 := blkC p1 3 rfl
  have x4 := blkC p1 4 rfl
  have z0 := blkF p1 0
  have z1 := blkF p1 1
  have z2 := blkF p1 2
  have z3 := blkF p1 3
  have z4 := blkF p1 4
  go_wp2
  all_goals refine bodyPost_ret (v := .tuple #[.agg #[.bool ng, .int .u64 Q, .int .i64 E, .bool R, .bool false], .int .i64 0]) (by simp [results, Tryd.results32, go_sem, x0, x1, x2, x3, x4]) rfl ⟨rfl, ?_⟩
  all_goals exact (wr5 w2 w.heap.size _ _ _ _ _).below hbw hbw.size (Nat.le_refl _)
set_option maxRecDepth 100000 in
set_option maxHeartbeats 1000000 in
theorem rounded_ok (way : Int) (hw : 0 ≤ way ∧ way ≤ 3) (F G : Nat) (lo : Option Addr) (ln lc : Nat) (r : Nat → NumR) (w : World) (hl : Nums w lo ln lc r) (ok : ∀ i, i < ln → okR (r i) = true) (ng : Bool) (mag : Nat) (exp : Int) (cut sd : Bool) (b : Int) (o : Bool)
    (hEF : ∀ (cap : Array Value) (w : World), (callFunc F cap).run Tryd.prog w = .ok (.enter F cap) w) (hEG : ∀ (cap : Array Value) (w : World), (callFunc G cap).run Tryd.prog w = .ok (.enter G cap) w)
    (hG : ∀ W, Below w.heap.size w W → Calls Tryd.prog G #[.slice lo ln lc] W fun e w' => e = .returned (.tuple #[valV ng mag exp cut sd, .int .i64 0]) ∧ Below W.heap.size W w')
    (hF : ∀ W, Below w.heap.size w W → Calls Tryd.prog F #[valV ng mag exp cut sd, wayV way] W fun e w' => e = .returned (.tuple #[.int .i64 b, .bool o]) ∧ Below W.heap.size W w') :
    Calls Tryd.prog 30 #[.int .i64 way, .func (.func F) #[] #[], .func (.func G) #[] #[], .slice lo ln lc] w fun e w' => e = .returned (.tuple #[.int .i64 b, .bool o, .int .i64 0]) ∧ Below w.heap.size w w' := by
  have hst : ∀ (p : Addr) (F : Nat) (m : Mode) (w : World), (store p (.func (.func F) #[] #[]) m).run Tryd.prog w = stored Tryd.prog w p (.func (.func F) #[] #[]) m := fun p F m w => run_store _ w p _ m rfl
  have hle := hl.le
  have hma := hl.max
  unfold valV wayV at *
  have CW := wayOf_any way w
  rw [if_pos hw, decide_eq_true hw] at CW
  unfold wayV at CW
  generalize wayF way = K at *
  go_enter Tryd.func30, Tryd.ntmps30
  go_wp2_with fail
  refine CW.mono ?_
  rintro _ w1 ⟨rfl, hb1⟩
  have q1 := heap_alloc_new w1 (.cells #[.nilFunc] 82)
  have y0 := blkC q1 0 rfl
  have y1 := blkF q1 0
  go_wp2_with fail
  have q2 := heap_alloc_new w1 (.cells #[.func (.func K) #[] #[]] 82)
  have hb2 := bel_trans hb1 (bel_alloc w1 (.cells #[.func (.func K) #[] #[]] 82))
  generalize w1.alloc (.cells #[.func (.func K) #[] #[]] 82) = w2 at q2 hb2 ⊢
  clear q1 y0 y1 CW
  go_loopw [28] (fun iv wr => ∃ k : Nat, iv = .int .i64 k ∧ k ≤ ln ∧ Hid (wr.heap[w1.heap.size]? = some (.cells #[.func (.func K) #[] #[]] 82 (0, 0))) ∧ Below w.heap.size w wr) (fun iv _ => ln - (intOf iv).toNat)
  case atStart => exact ⟨0, rfl, Nat.zero_le _, q2, hb2⟩
  case round =>
    clear q2 hb2
    obtain ⟨k, rfl, hk, HQ, hbw⟩ := hrel
    by_cases hlt : k < ln
    · obtain ⟨ba, oa, rfl, hba, hca⟩ := hl.spot (by omega)
      obtain ⟨c0, c1, c2, hR⟩ := (hca k hlt).keeps hbw hba
      have hok := ok k hlt
      have CV := fun W (hb : Below wr.heap.size wr W) => dvalid_any (r k).ng (r k).ao (r k).n (r k).cap (r k).d (r k).e W (hR.keeps hb)
      unfold okR at hok
      rw [hok] at CV
      clear hok hR hca
      generalize r k = x at c0 c1 c2 CV
      obtain ⟨x_g, x_o, x_n, x_c, x_d, x_e⟩ := x
      simp only at c0 c1 c2 CV
      have hb3 := bel_alloc wr (.cells #[.bool x_g, .slice x_o x_n x_c, .int .i64 x_e] 26)
      have HQ3 : Hid ((wr.alloc (.cells #[.bool x_g, .slice x_o x_n x_c, .int .i64 x_e] 26)).heap[w1.heap.size]? = some (.cells #[.func (.func K) #[] #[]] 82 (0, 0))) := (hb3.block _ (Array.getElem?_eq_some_iff.1 HQ.out).1).trans HQ.out
      go_wp2_with fail
      refine (CV _ hb3).mono ?_
      rintro _ w4 ⟨rfl, hb4⟩
      have HQ4 : Hid (w4.heap[w1.heap.size]? = some (.cells #[.func (.func K) #[] #[]] 82 (0, 0))) := (hb4.block _ (Array.getElem?_eq_some_iff.1 HQ3.out).1).trans HQ3.out
      have hbw4 := hbw.trans ((bel_trans hb3 hb4).mono hbw.size)
      clear CV HQ3 hb3 hb4 c0 c1 c2
      go_wp2
      go_roundw
      case rel => exact ⟨k + 1, by go_num, by omega, HQ4.out, hbw4⟩
      case measure => simp [intOf]; omega
    · obtain rfl : k = ln := by omega
      go_wp2_with fail
      refine (hG _ hbw).mono ?_
      rintro _ w4 ⟨rfl, hb4⟩
      have p4 := (hb4.block _ (Array.getElem?_eq_some_iff.1 HQ.out).1).trans HQ.out
      have hbw4 := hbw.trans (hb4.mono hbw.size)
      have hb5 := bel_alloc w4 (.cells #[.bool ng, .int .u64 mag, .int .i64 exp, .bool cut, .bool sd] 55)
      have kw := cell_keeps (blkC p4 0 rfl) hb5
      have hbw5 := hbw4.trans (hb5.mono hbw4.size)
      clear hG hb4
      go_wp2_with fail
      refine (hF _ hbw5).mono ?_
      rintro _ w6 ⟨rfl, hb6⟩
      go_wp2
      all_goals refine bodyPost_ret (v := .tuple #[.int .i64 b, .bool o, .int .i64 0]) (by simp [results, Tryd.results30, go_sem]) rfl ⟨rfl, hbw5.trans (hb6.mono hbw5.size)⟩
set_option maxRecDepth 100000 in
set_option maxHeartbeats 1000000 in
theorem to_ok (way : Int) (hw : 0 ≤ way ∧ way ≤ 3) (x : NumR) (w : World) (hx : Row w x.ao x.n x.cap x.d) (ok : okR x = true) (Ev : Env w) (hT : Tab w) :
    Calls Tryd.prog 10 #[x.v, .int .i64 way] w fun e w' => e = .returned (.tuple #[.int .i64 (r64 way x.ng false (val x.d x.n / 2 ^ vK (val x.d x.n)).toNat (x.e + vK (val x.d x.n)) (decide (val x.d x.n % 2 ^ vK (val x.d x.n) ≠ 0))).1, .bool (r64 way x.ng false (val x.d x.n / 2 ^ vK (val x.d x.n)).toNat (x.e + vK (val x.d x.n)) (decide (val x.d x.n % 2 ^ vK (val x.d x.n) ≠ 0))).2, .int .i64 0]) ∧ Below w.heap.size w w' := by
  have hS := okR_sane ok
  obtain ⟨na, hn, he0, he1⟩ := hS
  have hv0 := val_nonneg na.1
  have hbl : vK (val x.d x.n) ≤ 150000 := by have := blen_nrm na; unfold vK; omega
  have hsm := vK_small hv0
  have hEF : ∀ (cap : Array Value) (w : World), (callFunc 31 cap).run Tryd.prog w = .ok (.enter 31 cap) w := by
    intro cap w
    simp [go_sem]
  have hEG : ∀ (cap : Array Value) (w : World), (callFunc 32 cap).run Tryd.prog w = .ok (.enter 32 cap) w := by
    intro cap w
    simp [go_sem]
  have hmf : ∀ (fn : Fn) (first cap : Array Value) (w : World), (Instr.makeFunc fn first cap).run Tryd.prog w = .ok (.func fn first cap) w := fun _ _ _ _ => rfl
  have CR := fun W (hb : Below w.heap.size w W) (g : Nat) (hg : W.heap[g]? = some (.cells #[.bool x.ng, .slice x.ao x.n x.cap, .int .i64 x.e] 26 (0, 0))) => rounded_ok way hw 31 32 (some ⟨g, 0, none⟩) 1 1 (fun _ => x) W
    ⟨Nat.le_refl _, by decide, fun _ => ⟨g, 0, rfl, (Array.getElem?_eq_some_iff.1 hg).1, fun i hi => by
      obtain rfl : i = 0 := by omega
      exact ⟨blkC hg 0 rfl, blkC hg 1 rfl, blkC hg 2 rfl, hx.keeps hb⟩⟩⟩ (fun _ _ => ok) x.ng (val x.d x.n / 2 ^ vK (val x.d x.n)).toNat (x.e + vK (val x.d x.n)) (decide (val x.d x.n % 2 ^ vK (val x.d x.n) ≠ 0)) false _ _ hEF hEG
    (fun W2 hb2 => itself_any g 0 1 1 x.ng x.ao x.n x.cap x.d x.e W2 (cell_keeps (blkC hg 0 rfl) hb2) (cell_keeps (blkC hg 1 rfl) hb2) (cell_keeps (blkC hg 2 rfl) hb2) (by decide) ((hx.keeps hb).keeps hb2) na hn ⟨he0, he1⟩ ((hT.keeps hb).keeps hb2))
    (fun W2 hb2 => binary64_any way hw x.ng false _ _ _ W2 ((Ev.keeps hb).keeps hb2) (by omega) (by omega))
  generalize r64 way x.ng false (val x.d x.n / 2 ^ vK (val x.d x.n)).toNat (x.e + vK (val x.d x.n)) (decide (val x.d x.n % 2 ^ vK (val x.d x.n) ≠ 0)) = R at CR ⊢
  have HCR : Hid _ := CR
  unfold NumR.v
  clear ok hsm hbl hv0 he0 he1 hn na hx
  obtain ⟨x_g, x_o, x_n, x_c, x_d, x_e⟩ := x
  simp only at *
  clear HCR
  have hb2 := bel_alloc2 w (.cells #[.bool x_g, .slice x_o x_n x_c, .int .i64 x_e] 26) (.cells #[.bool x_g, .slice x_o x_n x_c, .int .i64 x_e] 26)
  have q1 := heap_b2 w (.cells #[.bool x_g, .slice x_o x_n x_c, .int .i64 x_e] 26) (.cells #[.bool x_g, .slice x_o x_n x_c, .int .i64 x_e] 26)
  go_enter Tryd.func10, Tryd.ntmps10
  go_wp2_with fail
  refine (CR _ hb2 _ q1).mono ?_
  rintro _ w2 ⟨rfl, hb3⟩
  go_wp2
  all_goals refine bodyPost_ret (v := .tuple #[.int .i64 R.1, .bool R.2, .int .i64 0]) (by simp [results, Tryd.results10, go_sem]) rfl ⟨rfl, bel_trans hb2 hb3⟩
end Go.Proofs.YtoehjolmniddlaaDoor

/-
  Package round: quotient, Quot, by their contracts.
-/
namespace Go.Proofs.YtoehjolmniddlaaDoor
open Go Go.RowKit Go.Proofs.YtoehjolmniddlaaDoor.M
set_option linter.unusedSimpArgs false
set_option linter.unusedVariables false

set_option maxRecDepth 100000 in
set_option maxHeartbeats 1000000 in
theorem scaled_high (ao : Option Addr) (n ca : Nat) (a : Nat → Int) (k : Nat) (w : World) (ha : Row w ao n ca a) (na : Nrm a n) (hn : n ≤ 5000) (hk : k ≤ 1000000) :
    Calls Tryd.prog 85 #[.slice ao n ca, .int .i64 (k : Int)] w fun e w' => ∃ v, e = .returned (.tuple #[v, .bool false]) ∧ Ans w w' (val a n * 2 ^ k) v := by
  have CR : Hid (Calls Tryd.prog 91 #[.slice ao n ca, .int .i64 (k : Int)] w fun e w' => ∃ v, e = .returned v ∧ Ans w w' (val a n * 2 ^ k) v) := raise_any ao n ca k a w ha na.1 (by omega) hk
  generalize val a n * 2 ^ k = Q at CR ⊢
  go_enter Tryd.func85, Tryd.ntmps85
  go_wp2_with fail
  refine CR.out.mono ?_
  rintro _ w2 ⟨v, rfl, hA⟩
  have HA : Hid (Ans w w2 Q v) := hA
  obtain ⟨so, sn, sc, rfl⟩ := hA.num.shape
  clear hA CR
  go_wp2
  all_goals refine bodyPost_ret (v := .tuple #[.slice so sn sc, .bool false]) (by simp [results, Tryd.results85, go_sem]) rfl ⟨_, rfl, HA.out⟩
/-- A number times 2^k, as far as it is whole. -/
def scV (A k : Int) : Int := if 0 ≤ k then A * 2 ^ k.toNat else A / 2 ^ (-k).toNat
def scC (A k : Int) : Bool := if 0 ≤ k then false else decide (A % 2 ^ (-k).toNat ≠ 0)
theorem scaled_any (ao : Option Addr) (n ca : Nat) (a : Nat → Int) (k : Int) (w : World) (ha : Row w ao n ca a) (na : Nrm a n) (hn : n ≤ 5000) (hk : -1000000 ≤ k ∧ k ≤ 1000000) (h0 : k < 0 → 0 < val a n) (hT : Tab w) :
    Calls Tryd.prog 85 #[.slice ao n ca, .int .i64 k] w fun e w' => ∃ v, e = .returned (.tuple #[v, .bool (scC (val a n) k)]) ∧ Ans w w' (scV (val a n) k) v := by
  unfold scV scC
  by_cases h : 0 ≤ k
  · rw [if_pos h, if_pos h]
    have := scaled_high ao n ca a k.toNat w ha na hn (by omega)
    rwa [Int.toNat_of_nonneg h] at this
  · rw [if_neg h, if_neg h]
    have := scaled_low ao n ca a (-k).toNat w ha na hn (by omega) (by omega) (h0 (by omega)) hT
    rwa [Int.toNat_of_nonneg (by omega), Int.neg_neg] at this
theorem num_len0 {w : World} {so : Option Addr} {sn sc : Nat} {M : Int} (h : Num w (.slice so sn sc) M) : decide (M ≠ 0) = decide ((0 : Int) < (sn : Int)) := by
  obtain ⟨ao, n, ca, d, hs, hR, hN, hV⟩ := h
  simp only [Value.slice.injEq] at hs
  obtain ⟨rfl, rfl, rfl⟩ := hs
  by_cases h0 : sn = 0
  · subst h0
    rw [← hV]
    rfl
  · have := val_pos hN (by omega)
    rw [decide_eq_true (by omega), decide_eq_true (by omega)]
/-- The bits that a quotient's dividend is brought to. -/
def qK (A B : Int) : Int := 62 + (blen B : Int) - (blen A : Int)
theorem qK_small {A B : Int} (hA : 0 ≤ A) (hB : 0 < B) : 0 ≤ scV A (qK A B) ∧ scV A (qK A B) < B * 9223372036854775808 ∧ 0 ≤ scV A (qK A B) / B ∧ scV A (qK A B) / B < 9223372036854775808 := by
  have b1 := blen_lt A
  have b2 := blen_pos hB
  have hs : 0 ≤ scV A (qK A B) ∧ scV A (qK A B) < 2 ^ (62 + blen B) := by
    unfold scV qK
    by_cases h : 0 ≤ 62 + (blen B : Int) - (blen A : Int)
    · rw [if_pos h]
      have hp := two_pos (62 + (blen B : Int) - (blen A : Int)).toNat
      refine ⟨Int.mul_nonneg hA (by omega), ?_⟩
      have e : (2 : Int) ^ (62 + blen B) = 2 ^ blen A * 2 ^ (62 + (blen B : Int) - (blen A : Int)).toNat := by rw [← Int.pow_add]; congr 1; omega
      rw [e]
      exact Int.mul_lt_mul_of_pos_right b1 hp
    · rw [if_neg h]
      have hp := two_pos (-(62 + (blen B : Int) - (blen A : Int))).toNat
      refine ⟨Int.ediv_nonneg hA (by omega), ?_⟩
      apply Int.ediv_lt_of_lt_mul hp
      rw [← Int.pow_add]
      rw [show 62 + blen B + (-(62 + (blen B : Int) - (blen A : Int))).toNat = blen A by omega]
      exact b1
  have e2 : (2 : Int) ^ (62 + blen B) = 2 ^ (blen B - 1) * 9223372036854775808 := by
    rw [show (9223372036854775808 : Int) = 2 ^ 63 by decide, ← Int.pow_add]; congr 1; omega
  have h3 : (2 : Int) ^ (blen B - 1) * 9223372036854775808 ≤ B * 9223372036854775808 := Int.mul_le_mul_of_nonneg_right b2.2 (by decide)
  refine ⟨hs.1, by omega, Int.ediv_nonneg hs.1 (by omega), ?_⟩
  apply Int.ediv_lt_of_lt_mul hB
  rw [Int.mul_comm]
  omega
theorem cells4_set {a b g o : Nat} {v : Value} {x0 x1 x2 x3 : Value} {W : World} (ha : a ≠ g) (hb : b ≠ g) (h : W.cell? ⟨a, 0, none⟩ = some x0 ∧ W.cell? ⟨a, 2, none⟩ = some x1 ∧ W.cell? ⟨b, 0, none⟩ = some x2 ∧ W.cell? ⟨b, 2, none⟩ = some x3) :
    (W.setCell ⟨g, o, none⟩ v).cell? ⟨a, 0, none⟩ = some x0 ∧ (W.setCell ⟨g, o, none⟩ v).cell? ⟨a, 2, none⟩ = some x1 ∧ (W.setCell ⟨g, o, none⟩ v).cell? ⟨b, 0, none⟩ = some x2 ∧ (W.setCell ⟨g, o, none⟩ v).cell? ⟨b, 2, none⟩ = some x3 := by
  have hw : Wr g W (W.setCell ⟨g, o, none⟩ v) := (Wr.refl g W).setCell o v
  obtain ⟨a0, a1, a2, a3⟩ := h
  exact ⟨(hw.cell (World.block_lt_of_cell? W _ a0) ha).trans a0, (hw.cell (World.block_lt_of_cell? W _ a1) ha).trans a1, (hw.cell (World.block_lt_of_cell? W _ a2) hb).trans a2, (hw.cell (World.block_lt_of_cell? W _ a3) hb).trans a3⟩
theorem cells4_drew {a b : Nat} {x0 x1 x2 x3 : Value} {W : World} (h : W.cell? ⟨a, 0, none⟩ = some x0 ∧ W.cell? ⟨a, 2, none⟩ = some x1 ∧ W.cell? ⟨b, 0, none⟩ = some x2 ∧ W.cell? ⟨b, 2, none⟩ = some x3) :
    W.drew.cell? ⟨a, 0, none⟩ = some x0 ∧ W.drew.cell? ⟨a, 2, none⟩ = some x1 ∧ W.drew.cell? ⟨b, 0, none⟩ = some x2 ∧ W.drew.cell? ⟨b, 2, none⟩ = some x3 := h
theorem cells6_alloc {p B : Nat} {x0 x1 x2 x3 x4 x5 : Value} {W : World} (o : Obj) (h : p < B ∧ B ≤ W.heap.size ∧ W.cell? ⟨p, 0, none⟩ = some x0 ∧ W.cell? ⟨p, 1, none⟩ = some x1 ∧ W.cell? ⟨p, 2, none⟩ = some x2 ∧ W.cell? ⟨p, 3, none⟩ = some x3 ∧ W.cell? ⟨p, 4, none⟩ = some x4 ∧ W.cell? ⟨p, 5, none⟩ = some x5) :
    p < B ∧ B ≤ (W.alloc o).heap.size ∧ (W.alloc o).cell? ⟨p, 0, none⟩ = some x0 ∧ (W.alloc o).cell? ⟨p, 1, none⟩ = some x1 ∧ (W.alloc o).cell? ⟨p, 2, none⟩ = some x2 ∧ (W.alloc o).cell? ⟨p, 3, none⟩ = some x3 ∧ (W.alloc o).cell? ⟨p, 4, none⟩ = some x4 ∧ (W.alloc o).cell? ⟨p, 5, none⟩ = some x5 := by
  have hb := bel_alloc W o
  obtain ⟨h1, h2, a0, a1, a2, a3, a4, a5⟩ := h
  exact ⟨h1, Nat.le_trans h2 hb.size, cell_keeps a0 hb, cell_keeps a1 hb, cell_keeps a2 hb, cell_keeps a3 hb, cell_keeps a4 hb, cell_keeps a5 hb⟩
theorem cells6_set {p B g o : Nat} {v : Value} {x0 x1 x2 x3 x4 x5 : Value} {W : World} (hg : B ≤ g) (h : p < B ∧ B ≤ W.heap.size ∧ W.cell? ⟨p, 0, none⟩ = some x0 ∧ W.cell? ⟨p, 1, none⟩ = some x1 ∧ W.cell? ⟨p, 2, none⟩ = some x2 ∧ W.cell? ⟨p, 3, none⟩ = some x3 ∧ W.cell? ⟨p, 4, none⟩ = some x4 ∧ W.cell? ⟨p, 5, none⟩ = some x5) :
    p < B ∧ B ≤ (W.setCell ⟨g, o, none⟩ v).heap.size ∧ (W.setCell ⟨g, o, none⟩ v).cell? ⟨p, 0, none⟩ = some x0 ∧ (W.setCell ⟨g, o, none⟩ v).cell? ⟨p, 1, none⟩ = some x1 ∧ (W.setCell ⟨g, o, none⟩ v).cell? ⟨p, 2, none⟩ = some x2 ∧ (W.setCell ⟨g, o, none⟩ v).cell? ⟨p, 3, none⟩ = some x3 ∧ (W.setCell ⟨g, o, none⟩ v).cell? ⟨p, 4, none⟩ = some x4 ∧ (W.setCell ⟨g, o, none⟩ v).cell? ⟨p, 5, none⟩ = some x5 := by
  have hw : Wr g W (W.setCell ⟨g, o, none⟩ v) := (Wr.refl g W).setCell o v
  obtain ⟨h1, h2, a0, a1, a2, a3, a4, a5⟩ := h
  have hp : p < W.heap.size := by omega
  have hne : p ≠ g := by omega
  exact ⟨h1, Nat.le_trans h2 hw.size, (hw.cell hp hne).trans a0, (hw.cell hp hne).trans a1, (hw.cell hp hne).trans a2, (hw.cell hp hne).trans a3, (hw.cell hp hne).trans a4, (hw.cell hp hne).trans a5⟩
end Go.Proofs.YtoehjolmniddlaaDoor

/-
  Package round: quotient, by its contract. (Written by tools/r_quot2.py.)
-/
namespace Go.Proofs.YtoehjolmniddlaaDoor
open Go Go.RowKit Go.Proofs.YtoehjolmniddlaaDoor.M
set_option linter.unusedSimpArgs false
set_option linter.unusedVariables false

end Go.Proofs.YtoehjolmniddlaaDoor

/-
  Package round: Quot, by its contract.
-/
namespace Go.Proofs.YtoehjolmniddlaaDoor
open Go Go.RowKit Go.Proofs.YtoehjolmniddlaaDoor.M
set_option linter.unusedSimpArgs false
set_option linter.unusedVariables false

/-- What Quot answers at numbers that are valid, the second not 0. -/
def qR64 (way : Int) (a b : NumR) : Int × Bool := r64 way (a.ng != b.ng) false (scV (val a.d a.n) (qK (val a.d a.n) (val b.d b.n)) / val b.d b.n).toNat (a.e - b.e - qK (val a.d a.n) (val b.d b.n)) (scC (val a.d a.n) (qK (val a.d a.n) (val b.d b.n)) || decide (scV (val a.d a.n) (qK (val a.d a.n) (val b.d b.n)) % val b.d b.n ≠ 0))
end Go.Proofs.YtoehjolmniddlaaDoor

/-
  Package round: sums to the nearest, by their contracts.
-/
namespace Go.Proofs.YtoehjolmniddlaaDoor
open Go Go.RowKit Go.Proofs.YtoehjolmniddlaaDoor.M
set_option linter.unusedSimpArgs false
set_option linter.unusedVariables false

end Go.Proofs.YtoehjolmniddlaaDoor

/-
  Floats made of patterns; 'alive' of plumblaw1: it answers true, in every world that holds the two layouts.
-/
namespace Go.Proofs.YtoehjolmniddlaaDoor
open Go Go.RowKit Go.Proofs.YtoehjolmniddlaaDoor.M
set_option linter.unusedSimpArgs false
set_option linter.unusedVariables false

theorem run_from64 (n : Int) (w : World) : (callFunc 61 #[.int .u64 n]).run Tryd.prog w = .ok (.value (.float .f64 n.toNat)) w := by
  rw [run_callFunc_extern Tryd.func61 (by kernel_rfl) (by kernel_rfl) (by kernel_rfl) (e := Extern.MathFloatBits.float64frombits) (by kernel_rfl)]
  rfl
theorem ret_float {k : FloatKind} {a b : Nat} (h : a = b) : Ending.returned (.float k a) = .returned (.float k b) := by rw [h]
theorem bitsFloat (b : Int) (w : World) :
    Calls Tryd.prog 35 #[.int .i64 b] w fun e w' => e = .returned (.float .f64 (wd b)) ∧ w' = w := by
  have hd := run_from64
  go_enter Tryd.func35, Tryd.ntmps35
  go_wp2
  go_ret
  exact ⟨ret_float (by rw [IntKind.wrap_u64]; rfl), rfl⟩
end Go.Proofs.YtoehjolmniddlaaDoor

/-
  The document's own answers for chapter 1 (package plumbref1), but for Join: each call by a contract over the same plain functions as package bits'.
-/
namespace Go.Proofs.YtoehjolmniddlaaDoor
open Go Go.RowKit Go.Proofs.YtoehjolmniddlaaDoor.M
set_option linter.unusedSimpArgs false
set_option linter.unusedVariables false

theorem hideIt {p : Prop} (h : p) : Hid p := h

end Go.Proofs.YtoehjolmniddlaaDoor

/-
  The document's own answers for chapter 1, on: the calls of 32 bits, the neighbours, the signs, the order.
-/
namespace Go.Proofs.YtoehjolmniddlaaDoor
open Go Go.RowKit Go.Proofs.YtoehjolmniddlaaDoor.M
set_option linter.unusedSimpArgs false
set_option linter.unusedVariables false

end Go.Proofs.YtoehjolmniddlaaDoor

/-
  Float32, Of and Of32 of package bits, Told and Told32 of the document's own answer, by contracts.
-/
namespace Go.Proofs.YtoehjolmniddlaaDoor
open Go Go.RowKit Go.Proofs.YtoehjolmniddlaaDoor.M
set_option linter.unusedSimpArgs false
set_option linter.unusedVariables false

def told (b : Int) : Int := if cls b = 4 then 9221120237041090561 else b
def told32 (b : Int) : Int := if cls32 b = 4 then 2143289345 else b
def wd32 (b : Int) : Nat := if in32 b then b.toNat else 2143289345
theorem sSign : Ieee.single.signWeight = 2147483648 := by decide
theorem sInf : Ieee.single.infRung = 2139095040 := by decide
theorem sOk : Ieee.single.binade ≤ Ieee.single.infRung := by decide
theorem cls32_4 {b : Int} (h : in32 b = true) : cls32 b = 4 ↔ 2139095040 < b.toNat % 2147483648 := by
  have hb := of_decide_eq_true h
  unfold cls32; rw [if_neg (by omega)]
  unfold fld32 frc32; repeat' split
  all_goals omega
theorem no64 {b : Int} (hb : rng b) : (FloatKind.f64.format.order (wd b) (wd b) != some .eq) = decide (cls b = 4) := by
  have := same_order hb hb
  unfold bne
  rw [this]; unfold same
  by_cases h : cls b = 4 <;> simp [h]
theorem no32 (b : Int) : (FloatKind.f32.format.order (wd32 b) (wd32 b) != some .eq) = decide (cls32 b = 4) := by
  by_cases hi : in32 b = true
  · have e : wd32 b = b.toNat := by unfold wd32; rw [if_pos hi]
    rw [e]
    by_cases h : cls32 b = 4
    · have hn := order_nan Ieee.single sOk b.toNat b.toNat (.inl (by rw [sSign, sInf]; exact (cls32_4 hi).1 h))
      have hn' : FloatKind.f32.format.order b.toNat b.toNat = none := hn
      rw [hn']; simp [h]
    · have hle : b.toNat % Ieee.single.signWeight ≤ Ieee.single.infRung := by
        rw [sSign, sInf]; exact Nat.le_of_not_lt fun k => h ((cls32_4 hi).2 k)
      have ho := order_all Ieee.single sOk b.toNat b.toNat hle hle
      rw [compare_eq rfl] at ho
      have ho' : FloatKind.f32.format.order b.toNat b.toNat = some .eq := ho
      rw [ho']; simp [h]
  · have hn : b < 0 ∨ 4294967296 ≤ b := by simp [in32] at hi; omega
    have e : wd32 b = 2143289345 := by unfold wd32; rw [if_neg hi]
    have h4 : cls32 b = 4 := by unfold cls32; rw [if_pos hn]
    have ho : FloatKind.f32.format.order 2143289345 2143289345 = none := by decide +kernel
    rw [e, ho]; simp [h4]
theorem run_bits64 (n : Nat) (w : World) : (callFunc 62 #[.float .f64 n]).run Tryd.prog w = .ok (.value (.int .u64 n)) w := by
  rw [run_callFunc_extern Tryd.func62 (by kernel_rfl) (by kernel_rfl) (by kernel_rfl) (e := Extern.MathFloatBits.float64bits) (by kernel_rfl)]
  rfl
theorem bitsOf (b : Int) (w : World) (hb : rng b) :
    Calls Tryd.prog 60 #[.float .f64 (wd b)] w fun e w' => e = .returned (.int .i64 (told b)) ∧ w' = w := by
  have hd := run_bits64
  have hn := no64 hb
  have hw : Hid (wrap64 (wd b : Int) = b) := by unfold Hid wrap64 wd; unfold rng at hb; omega
  by_cases h : cls b = 4
  · have hn' : (FloatKind.f64.format.order (wd b) (wd b) != some .eq) = true := by rw [hn]; simp [h]
    clear hn
    go_enter Tryd.func60, Tryd.ntmps60
    go_wp2
    go_ret
    exact ⟨b_ret_int (by simp [told, h]), rfl⟩
  · have hn' : (FloatKind.f64.format.order (wd b) (wd b) != some .eq) = false := by rw [hn]; simp [h]
    clear hn
    go_enter Tryd.func60, Tryd.ntmps60
    go_wp2
    go_ret
    exact ⟨b_ret_int (by rw [hw.out]; simp [told, h]), rfl⟩
end Go.Proofs.YtoehjolmniddlaaDoor

/-
  Package round: sums of constants, by their contracts.
-/
namespace Go.Proofs.YtoehjolmniddlaaDoor
open Go Go.RowKit Go.Proofs.YtoehjolmniddlaaDoor.M
set_option linter.unusedSimpArgs false
set_option linter.unusedVariables false

theorem wd_one : wd 4607182418800017408 = 4607182418800017408 := by decide
theorem wd_two : wd 4611686018427387904 = 4611686018427387904 := by decide
theorem told_two : told 4611686018427387904 = 4611686018427387904 := by decide
theorem wd_one32 : wd32 1065353216 = 1065353216 := by decide
theorem wd_two32 : wd32 1073741824 = 1073741824 := by decide
theorem told_two32 : told32 1073741824 = 1073741824 := by decide
end Go.Proofs.YtoehjolmniddlaaDoor

/-
  plumblaw4.alive, by its contract.
-/
namespace Go.Proofs.YtoehjolmniddlaaDoor
open Go Go.RowKit Go.Proofs.YtoehjolmniddlaaDoor.M
set_option linter.unusedSimpArgs false
set_option linter.unusedVariables false

/-- A small odd number in a list of one. -/
def litR (g : Nat) (x : Int) : NumR := ⟨false, some ⟨g, 0, none⟩, 1, 1, fun _ => x, 0⟩
theorem litR_ok (g : Nat) {x : Int} (h0 : 0 < x) (h1 : x < 1073741824) (ho : x % 2 = 1) : okR (litR g x) = true :=
  decide_eq_true (.inr ⟨Nat.one_pos, ⟨show 1 ≤ 2000 by decide, fun i hi => ⟨show (0 : Int) ≤ x by omega, h1⟩, .inr (show x ≠ 0 by omega)⟩, ho, show (-1048576 : Int) ≤ 0 by decide, show (0 : Int) ≤ 1048576 by decide⟩)
theorem third (g k : Nat) : qR64 0 (litR g 1) (litR k 3) = (4599676419421066581, true) := by
  have e : qR64 0 (litR g 1) (litR k 3) = qR64 0 (litR 0 1) (litR 0 3) := rfl
  rw [e]
  decide +kernel
end Go.Proofs.YtoehjolmniddlaaDoor

/-
  Package dyadic: Sub, by its contract.
-/
namespace Go.Proofs.YtoehjolmniddlaaDoor
open Go Go.RowKit Go.Proofs.YtoehjolmniddlaaDoor.M
set_option linter.unusedSimpArgs false
set_option linter.unusedVariables false

/-- The number with the other sign (0 too). -/
def NumR.neg (r : NumR) : NumR := ⟨!r.ng, r.ao, r.n, r.cap, r.d, r.e⟩
theorem NumR.neg_V (r : NumR) : r.neg.V = -r.V := by
  show sg (!r.ng) _ * _ = _
  rw [sg_not, Int.neg_mul]; rfl
theorem NumR.neg_sane {r : NumR} (h : Sane r) : Sane r.neg := h
end Go.Proofs.YtoehjolmniddlaaDoor
