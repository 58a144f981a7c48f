/-
  Parts of the proof, one behind another.
-/
import Derived.Test.YtjlmpgbadgkgmaaGreatDoorPart15
import Derived.Test.YtjlmpgbadgkgmaaGreatDoorPart16
import Derived.Test.YtjlmpgbadgkgmaaGreatDoorPart17
import Derived.Test.YtjlmpgbadgkgmaaGreatDoorPart18
import Derived.Test.YtjlmpgbadgkgmaaGreatDoorPart19
import Derived.Test.YtjlmpgbadgkgmaaGreatDoorPart20
import Derived.Test.YtjlmpgbadgkgmaaGreatDoorPart21
import Derived.Test.YtjlmpgbadgkgmaaGreatDoorPart22
import Derived.Test.YtjlmpgbadgkgmaaGreatDoorPart6
import Derived.Test.YtjlmpgbadgkgmaaGreatDoorPart7
import Derived.Test.YtjlmpgbadgkgmaaGreatDoorPart14
import Derived.Test.YtjlmpgbadgkgmaaGreatDoorPart3
/-
  The document's rounding (plumbref4.Cut, binary64), by its contract: in all ways, of numbers of any size.
-/
namespace Go.Proofs.YtjlmpgbadgkgmaaGreatDoor
open Go Go.RowKit Go.Proofs.YtjlmpgbadgkgmaaGreatDoor.M
set_option linter.unusedSimpArgs false
set_option linter.unusedVariables false

theorem cutW_any (way : Int) (hw : 0 ≤ way ∧ way ≤ 3) (ng : Bool) (ao : Option Addr) (n cap : Nat) (d : Nat → Int) (exp : Int) (more : Bool) (w : World) (h : Row w ao n cap d) (nb : Nat) (E lw : Int) (K : Nat) (hf rs : Bool) (l : Int) (F : CutF ao n cap d exp more nb E lw K hf rs l) :
    Calls Tryz.prog 124 #[k64V, .bool ng, .slice ao n cap, .int .i64 exp, .bool more, .int .i64 way] w fun e w' => e = .returned (.tuple #[.int .i64 (cutT way ng hf rs K E).1, .bool (cutT way ng hf rs K E).2]) ∧ Below w.heap.size w w' := by
  have h4 : way = 0 ∨ way = 1 ∨ way = 2 ∨ way = 3 := by omega
  rcases h4 with rfl | rfl | rfl | rfl <;> cases ng
  · exact cutW0p ao n cap d exp more w h nb E lw K hf rs l F
  · exact cutW0n ao n cap d exp more w h nb E lw K hf rs l F
  · exact cutW1p ao n cap d exp more w h nb E lw K hf rs l F
  · exact cutW1n ao n cap d exp more w h nb E lw K hf rs l F
  · exact cutW2p ao n cap d exp more w h nb E lw K hf rs l F
  · exact cutW2n ao n cap d exp more w h nb E lw K hf rs l F
  · exact cutW3p ao n cap d exp more w h nb E lw K hf rs l F
  · exact cutW3n ao n cap d exp more w h nb E lw K hf rs l F
/-- What Cut is given of a number in memory. -/
theorem cutF_of (ao : Option Addr) (n cap : Nat) (d : Nat → Int) (exp : Int) (more : Bool) (hd : Nrm d n) (hn : n ≤ 10000) (h0 : 0 < n) (he : -1300000 ≤ exp ∧ exp ≤ 1300000) (hc : more = true → 0 < cE 53 (-1074) (val d n).toNat exp - exp) :
    ∃ nb l, CutF ao n cap d exp more nb (cE 53 (-1074) (val d n).toNat exp) (cE 53 (-1074) (val d n).toNat exp - exp) (rU (val d n).toNat (cE 53 (-1074) (val d n).toNat exp - exp)) (cH (val d n).toNat (cE 53 (-1074) (val d n).toNat exp - exp)) (cR (val d n).toNat more (cE 53 (-1074) (val d n).toNat exp - exp)) l := by
  have hV := val_nonneg hd.1
  have hpos : 0 < val d n := by
    have h1 := val_top hd.1 h0 hd.2
    have := P_pos (n - 1)
    omega
  obtain ⟨M, hM⟩ : ∃ M : Nat, val d n = M := ⟨(val d n).toNat, by omega⟩
  have hM0 : M ≠ 0 := by omega
  have hMt : (val d n).toNat = M := by omega
  rw [hMt] at hc ⊢
  obtain ⟨b0, b1, b2⟩ := blen_two hM0
  have hbl : blen (M : Int) ≤ 300000 := by
    refine Nat.le_trans (blen_le (k := 30 * n) ?_) (by omega)
    rw [← P_two, ← hM]
    exact val_lt hd.1
  have hU := (cU_bits (sz := 53) (lowE := -1074) (exp := exp) (by decide) hM0).1
  rw [show (2 : Nat) ^ (53 : Int).toNat = 9007199254740992 by decide] at hU
  have hE : cE 53 (-1074) M exp = max ((blen (M : Int) : Int) + exp - 53) (-1074) := rfl
  obtain ⟨l, hl⟩ : ∃ l, LowA (M : Int) l := by
    obtain ⟨k, hk⟩ := isLow_ex (M := (M : Int)) (by omega)
    exact ⟨k, .inr ⟨k, rfl, hk⟩⟩
  have hl0 : 0 ≤ l ∧ l ≤ 300000 := by
    rcases hl with ⟨h, _⟩ | ⟨k, rfl, m, hk⟩
    · omega
    · refine ⟨by omega, ?_⟩
      have hm : 0 ≤ m := by
        rcases Int.lt_or_le m 0 with q | q
        · have := Int.mul_neg_of_neg_of_pos (show 2 * m + 1 < 0 by omega) (two_pos k)
          omega
        · exact q
      have h1 : (2 : Int) ^ k ≤ M := by
        rw [hk]
        have := Int.mul_le_mul_of_nonneg_right (show 1 ≤ 2 * m + 1 by omega) (Int.le_of_lt (two_pos k))
        omega
      have := blen_ge h1
      omega
  refine ⟨blen (M : Int), l, ⟨by omega, he, by omega, by omega, rfl, hU, by omega, ?_, ?_, ?_, ?_, ?_, ?_, ?_, ?_, ?_, ?_, ?_⟩⟩
  · intro h
    exact ⟨by unfold cR; rw [h]; rfl, hc h⟩
  · intro h h1
    unfold cR
    rw [h, decide_eq_false (by omega)]
    rfl
  · intro h h1
    unfold cR
    obtain ⟨s, hs⟩ : ∃ s : Nat, cE 53 (-1074) M exp - exp - 1 = s := ⟨(cE 53 (-1074) M exp - exp - 1).toNat, by omega⟩
    rw [h, decide_eq_true h1, hs, Int.toNat_natCast, Bool.false_or, Bool.true_and]
    have := rest_low (s := s) hl hM0
    by_cases q : l < s
    · rw [decide_eq_true q, decide_eq_true (this.1 ⟨hl0.1, q⟩)]
    · rw [decide_eq_false q, decide_eq_false (fun q2 => q (this.2 q2).2)]
  · intro ts t w
    rw [run_max_int2, hE]
    congr 2
    omega
  · intro ts t w
    rw [run_max_int2]
    congr 2
    omega
  · intro W hR
    have := rbits_any ao n cap d W hR hd (by omega)
    rwa [hM] at this
  · intro W hR
    obtain ⟨k, hk⟩ : ∃ k : Nat, max (cE 53 (-1074) M exp - exp) 0 = k := ⟨(max (cE 53 (-1074) M exp - exp) 0).toNat, by omega⟩
    rw [hk]
    refine (rshr_any ao n cap k d W hR hd.1 (by omega) (by omega)).mono ?_
    rintro e w' ⟨v, rfl, hA⟩
    obtain ⟨so, sn, sc, rfl⟩ := hA.num.shape
    refine ⟨so, sn, sc, rfl, hA.below, fun h => ?_⟩
    have h2 := hA.num
    rw [hM] at h2
    have h3 : ((M : Int) / 2 ^ k) = ((rU M (cE 53 (-1074) M exp - exp) : Nat) : Int) := by
      unfold rU
      by_cases q : cE 53 (-1074) M exp - exp ≤ 0
      · rw [if_pos q, show k = 0 by omega, show (-(cE 53 (-1074) M exp - exp)).toNat = 0 by omega]
        simp
      · rw [if_neg q, show (cE 53 (-1074) M exp - exp).toNat = k by omega]
        simp
    rwa [h3] at h2
  · intro h W hR
    obtain ⟨k, hk⟩ : ∃ k : Nat, -(cE 53 (-1074) M exp - exp) = k := ⟨(-(cE 53 (-1074) M exp - exp)).toNat, by omega⟩
    rw [hk]
    refine (rshl_any ao n cap k d W hR hd.1 (by omega) (by omega)).mono ?_
    rintro e w' ⟨v, rfl, hA⟩
    obtain ⟨so, sn, sc, rfl⟩ := hA.num.shape
    refine ⟨so, sn, sc, rfl, hA.below, ?_⟩
    have h2 := hA.num
    rw [hM] at h2
    have h3 : ((M : Int) * 2 ^ k) = ((rU M (cE 53 (-1074) M exp - exp) : Nat) : Int) := by
      unfold rU
      rw [if_pos (by omega), hk, Int.toNat_natCast]
      simp
    rwa [h3] at h2
  · intro W hR
    by_cases q : 0 < cE 53 (-1074) M exp - exp
    · obtain ⟨s, hs⟩ : ∃ s : Nat, cE 53 (-1074) M exp - exp - 1 = s := ⟨(cE 53 (-1074) M exp - exp - 1).toNat, by omega⟩
      have := rbit_any ao n cap d W hR hd (by omega) s (by omega)
      rw [hM] at this
      unfold cH
      rw [decide_eq_true q, hs, Int.toNat_natCast, Bool.true_and]
      exact this
    · unfold cH
      rw [decide_eq_false q, Bool.false_and]
      exact rbit_neg ao n cap _ W (by omega) (by omega)
  · intro W hR
    refine (rlow_any ao n cap d W hR hd.1 (by omega)).mono ?_
    rintro e w' ⟨l', rfl, h1, h2⟩
    rw [hM] at h1
    rw [lowA_unique h1 hl]
    exact ⟨rfl, h2⟩
  · intro U u0 u1
    refine ⟨_, rfl, ?_, fun W => rjoined_any U _ W (by unfold rng; omega) (by unfold rng; omega)⟩
    have := jv_le (mag := U) (exp := cE 53 (-1074) M exp) (by unfold rng; omega)
    unfold jp
    simp only [Bool.and_false, Bool.false_eq_true, if_false]
    exact this
/-- The rounding in a way, by the rungs: of a number that is not 0. -/
def RdW (way : Int) (ng : Bool) (A : Int) (p : Int) : Prop := ∃ r0 left, Rung A r0 left ∧ p = patS ng (rTo way ng r0 left)
theorem RdW.unique {way : Int} {ng : Bool} {A p q : Int} (h : RdW way ng A p) (k : RdW way ng A q) : p = q := by
  obtain ⟨r0, l, h1, rfl⟩ := h
  obtain ⟨s0, m, k1, rfl⟩ := k
  obtain ⟨e1, e2⟩ := h1.unique k1
  rw [e1, e2]
theorem cutT_eq (way : Int) (hw : 0 ≤ way ∧ way ≤ 3) (ng : Bool) {M : Nat} {exp : Int} {more : Bool} (hc : more = true → 0 < cE 53 (-1074) M exp - exp) :
    cutT way ng (cH M (cE 53 (-1074) M exp - exp)) (cR M more (cE 53 (-1074) M exp - exp)) (rU M (cE 53 (-1074) M exp - exp)) (cE 53 (-1074) M exp) =
      (if cO 53 (-1074) 1024 way ng M exp more then cS (-9223372036854775808) ng + (if rUp way ng true 3 then 9218868437227405312 else 9218868437227405311) else cS (-9223372036854775808) ng + jp false (cU 53 (-1074) way ng M exp more) (cE 53 (-1074) M exp), cO 53 (-1074) 1024 way ng M exp more || (decide (rL M more (cE 53 (-1074) M exp - exp) ≠ 0))) := by
  have hL := cut_left (M := M) hc
  unfold cO cU cutT
  rw [hL]
  generalize cE 53 (-1074) M exp = E at *
  generalize rU M (E - exp) = K at *
  generalize cH M (E - exp) = hf at *
  generalize cR M more (E - exp) = rs at *
  have hA : cutA way ng hf rs K = rUp way ng (decide (K % 2 = 1)) (if hf then (if rs then 3 else 2) else (if rs then 1 else 0)) := by
    unfold cutA rUp
    have h4 : way = 0 ∨ way = 1 ∨ way = 2 ∨ way = 3 := by omega
    rcases h4 with rfl | rfl | rfl | rfl <;> cases ng <;> cases hf <;> cases rs <;> simp
  have hB : (way = 0 ∨ (way = 2 ∧ ng = false) ∨ (way = 1 ∧ ng = true)) ↔ rUp way ng true 3 = true := by
    unfold rUp
    have h4 : way = 0 ∨ way = 1 ∨ way = 2 ∨ way = 3 := by omega
    rcases h4 with rfl | rfl | rfl | rfl <;> cases ng <;> simp
  simp only
  rw [hA]
  generalize rUp way ng (decide (K % 2 = 1)) (if hf then (if rs then 3 else 2) else (if rs then 1 else 0)) = R
  have e52 : (2 : Nat) ^ ((53 : Int).toNat - 1) = 4503599627370496 := by decide
  rw [e52]
  generalize K + (if R = true then 1 else 0) = U
  have hodd : (decide ((if hf then (if rs then (3 : Int) else 2) else (if rs then 1 else 0)) ≠ 0)) = (hf || rs) := by cases hf <;> cases rs <;> rfl
  rw [hodd]
  unfold cS
  by_cases c : 4503599627370496 ≤ U ∧ 1024 < (blen (U : Int) : Int) + E
  · rw [if_pos c, decide_eq_true c.1, decide_eq_true c.2, Bool.and_self, if_pos rfl, Bool.true_or]
    congr 2
    by_cases q : rUp way ng true 3 = true
    · rw [if_pos (hB.2 q), if_pos q]
    · rw [if_neg (fun q2 => q (hB.1 q2)), if_neg q]
  · rw [if_neg c]
    have : (decide (4503599627370496 ≤ U) && decide (1024 < (blen (U : Int) : Int) + E)) = false := by
      by_cases c1 : 4503599627370496 ≤ U
      · rw [decide_eq_false (p := 1024 < _) (fun c2 => c ⟨c1, c2⟩), Bool.and_false]
      · rw [decide_eq_false c1, Bool.false_and]
    rw [this]
    simp only [Bool.false_eq_true, if_false, Bool.false_or]
/-- Cut, of a number in memory: the pattern by the rungs, and whether it is another number. -/
theorem cut64_any (way : Int) (hw : 0 ≤ way ∧ way ≤ 3) (ng : Bool) (ao : Option Addr) (n cap : Nat) (d : Nat → Int) (exp : Int) (more : Bool) (w : World) (h : Row w ao n cap d) (hd : Nrm d n) (hn : n ≤ 10000) (h0 : 0 < n) (he : -1300000 ≤ exp ∧ exp ≤ 1300000) {A : Int} (hA : Held A (val d n).toNat exp more) (hc : more = true → 2 ^ 60 ≤ (val d n).toNat) :
    Calls Tryz.prog 124 #[k64V, .bool ng, .slice ao n cap, .int .i64 exp, .bool more, .int .i64 way] w fun e w' => ∃ p o r0 left, e = .returned (.tuple #[.int .i64 p, .bool o]) ∧ Below w.heap.size w w' ∧ Rung A r0 left ∧ p = patS ng (rTo way ng r0 left) ∧ o = (decide (left ≠ 0) || decide (9218868437227405312 ≤ (r0 : Int))) := by
  have hpos : 0 < val d n := by
    have h1 := val_top hd.1 h0 hd.2
    have := P_pos (n - 1)
    omega
  have hM0 : (val d n).toNat ≠ 0 := by omega
  have hc2 : more = true → 0 < cE 53 (-1074) (val d n).toNat exp - exp := fun q => by
    have h1 := hc q
    obtain ⟨b0, b1, b2⟩ := blen_two hM0
    have h2 : 60 < blen (((val d n).toNat : Nat) : Int) := (Nat.pow_lt_pow_iff_right (by decide : 1 < 2)).1 (Nat.lt_of_le_of_lt h1 b2)
    unfold cE
    omega
  obtain ⟨nb, l, F⟩ := cutF_of ao n cap d exp more hd hn h0 he hc2
  refine (cutW_any way hw ng ao n cap d exp more w h nb _ _ _ _ _ l F).mono ?_
  rintro e w' ⟨rfl, hb⟩
  obtain ⟨r0, left, s1, s2, s3⟩ := cut_spec (way := way) (ng := ng) hA hM0 (by omega) hc
  have hT := cutT_eq way hw ng (M := (val d n).toNat) (exp := exp) hc2
  rw [s2, s3] at hT
  rw [hT]
  exact ⟨_, _, r0, left, rfl, hb, s1, rfl, rfl⟩
end Go.Proofs.YtjlmpgbadgkgmaaGreatDoor

/-
  Package plumbref3: Mul, by its contract.
-/
namespace Go.Proofs.YtjlmpgbadgkgmaaGreatDoor
open Go Go.RowKit Go.Proofs.YtjlmpgbadgkgmaaGreatDoor.M
set_option linter.unusedSimpArgs false
set_option linter.unusedVariables false

set_option maxRecDepth 100000 in
set_option maxHeartbeats 4000000 in
theorem rmul3_any (x y : NumR) (w : World) (hx : Row w x.ao x.n x.cap x.d) (hy : Row w y.ao y.n y.cap y.d) (sx : Sane x) (sy : Sane y) :
    Calls Tryz.prog 83 #[x.v, y.v] w fun r w' => ∃ v, r = .returned v ∧ DAns w w' (mulV x y) v := by
  have hV : mulV x y = sg (x.ng != y.ng) (val x.d x.n * val y.d y.n) * pw (x.e + y.e) := rfl
  have he : -4194304 ≤ x.e + y.e ∧ x.e + y.e ≤ 4194304 := by have := sx.2.2.1; have := sy.2.2.1; have := sx.2.2.2; have := sy.2.2.2; omega
  have hlen : val x.d x.n * val y.d y.n < P 10000 := by
    have a1 := val_lt sx.1.1
    have a2 := val_lt sy.1.1
    have b1 := val_nonneg sx.1.1
    have b2 := val_nonneg sy.1.1
    have c1 : val x.d x.n * val y.d y.n ≤ P x.n * val y.d y.n := Int.mul_le_mul_of_nonneg_right (by omega) b2
    have c2 : P x.n * val y.d y.n < P x.n * P y.n := Int.mul_lt_mul_of_pos_left a2 (P_pos _)
    rw [← P_add] at c2
    have := P_le (show x.n + y.n ≤ 10000 by have := sx.2.1; have := sy.2.1; omega)
    omega
  obtain ⟨an, ao, n, ca, a, e⟩ := x
  obtain ⟨bn, bo, m, cb, b, f⟩ := y
  obtain ⟨s1, s2, s3, s4⟩ := sx
  obtain ⟨t1, t2, t3, t4⟩ := sy
  unfold NumR.v
  simp only at *
  rw [hV]
  clear hV
  generalize hVV : sg (an != bn) (val a n * val b m) * pw (e + f) = V
  have HVV : Hid (sg (an != bn) (val a n * val b m) * pw (e + f) = V) := hVV
  clear hVV
  have hw : IntKind.i64.wrap (e + f) = e + f := by rw [wrap_i64_eq]; omega
  have hb3 := bel_a3 w (.cells #[.bool an, .slice ao n ca, .int .i64 e] 74) (.cells #[.bool bn, .slice bo m cb, .int .i64 f] 74) (.cells #[.bool false, .slice none 0 0, .int .i64 0] 74)
  have g0 := h3_0 w (.cells #[.bool an, .slice ao n ca, .int .i64 e] 74) (.cells #[.bool bn, .slice bo m cb, .int .i64 f] 74) (.cells #[.bool false, .slice none 0 0, .int .i64 0] 74)
  have g1 := h3_1 w (.cells #[.bool an, .slice ao n ca, .int .i64 e] 74) (.cells #[.bool bn, .slice bo m cb, .int .i64 f] 74) (.cells #[.bool false, .slice none 0 0, .int .i64 0] 74)
  have g2 := h3_2 w (.cells #[.bool an, .slice ao n ca, .int .i64 e] 74) (.cells #[.bool bn, .slice bo m cb, .int .i64 f] 74) (.cells #[.bool false, .slice none 0 0, .int .i64 0] 74)
  have hs3 := size3 w (.cells #[.bool an, .slice ao n ca, .int .i64 e] 74) (.cells #[.bool bn, .slice bo m cb, .int .i64 f] 74) (.cells #[.bool false, .slice none 0 0, .int .i64 0] 74)
  go_enter Tryz.func83, Tryz.ntmps83
  go_wp2_with fail
  have HX := hx.keeps hb3
  have HY := hy.keeps hb3
  generalize ((w.alloc (.cells #[.bool an, .slice ao n ca, .int .i64 e] 74)).alloc (.cells #[.bool bn, .slice bo m cb, .int .i64 f] 74)).alloc (.cells #[.bool false, .slice none 0 0, .int .i64 0] 74) = wx at hb3 g0 g1 g2 hs3 HX HY ⊢
  have k0 := blkC g0 0 rfl
  have k1 := blkC g0 1 rfl
  have k2 := blkC g0 2 rfl
  have j0 := blkC g1 0 rfl
  have j1 := blkC g1 1 rfl
  have j2 := blkC g1 2 rfl
  have hb1 := bel_refl wx
  have C1 : ∀ W, Below wx.heap.size wx W → Calls Tryz.prog 103 #[.slice ao n ca, .slice bo m cb] W fun r w' => ∃ so sn sc, r = .returned (.slice so sn sc) ∧ Ans W w' (val a n * val b m) (.slice so sn sc) ∧ Below W.heap.size W w' := fun W h => by
    refine (rmul_any ao bo n m ca cb a b W (HX.keeps h) (HY.keeps h) s1 t1 (by omega) (by omega)).mono ?_
    rintro r w' ⟨v, rfl, hA⟩
    obtain ⟨so, sn, sc, rfl⟩ := hA.num.shape
    exact ⟨so, sn, sc, rfl, hA, hA.below⟩
  have C2 : ∀ W so sn sc, Num W (.slice so sn sc) (val a n * val b m) → Calls Tryz.prog 74 #[.bool (!(an == bn)), .slice so sn sc, .int .i64 (e + f)] W fun r w' => ∃ ng s1 s2 s3 e1, r = .returned (.agg #[.bool ng, .slice s1 s2 s3, .int .i64 e1]) ∧ DAns W w' V (.agg #[.bool ng, .slice s1 s2 s3, .int .i64 e1]) ∧ Below W.heap.size W w' := fun W so sn sc hN => by
    have hsn : sn ≤ 10000 := hN.len hlen
    obtain ⟨ao', n', ca', d, e1, hR, h2, h3⟩ := hN
    simp only [Value.slice.injEq] at e1
    obtain ⟨rfl, rfl, rfl⟩ := e1
    refine (rnorm_any (an != bn) _ _ _ d (e + f) W hR h2.1 (by omega) (by omega) (by omega)).mono ?_
    rw [h3, HVV.out]
    rintro r w' ⟨v, rfl, hD⟩
    obtain ⟨ng, s, m', e1, rfl, _, hA⟩ := id hD
    obtain ⟨q1, q2, q3, rfl⟩ := hA.num.shape
    exact ⟨ng, q1, q2, q3, e1, rfl, hD, hD.below⟩
  clear hlen
  go_region_held3 (fun W => (W.cell? ⟨w.heap.size, 0, none⟩ = some (.bool an) ∧ W.cell? ⟨w.heap.size, 1, none⟩ = some (.slice ao n ca) ∧ W.cell? ⟨w.heap.size, 2, none⟩ = some (.int .i64 e)) ∧ W.cell? ⟨w.heap.size + 1, 0, none⟩ = some (.bool bn) ∧ W.cell? ⟨w.heap.size + 1, 1, none⟩ = some (.slice bo m cb) ∧ W.cell? ⟨w.heap.size + 1, 2, none⟩ = some (.int .i64 f))
    (first | assumption | exact ⟨⟨k0, k1, k2⟩, j0, j1, j2⟩ | exact keep66 (W := wx.drew) hbv1 ⟨⟨k0, k1, k2⟩, j0, j1, j2⟩ | exact keep66 hbv2 (keep66 (W := wx.drew) hbv1 ⟨⟨k0, k1, k2⟩, j0, j1, j2⟩) | exact ⟨keepS (keep66 hbv2 (keep66 (W := wx.drew) hbv1 ⟨⟨k0, k1, k2⟩, j0, j1, j2⟩)).1 (by omega) _ _ _, keepS (keep66 hbv2 (keep66 (W := wx.drew) hbv1 ⟨⟨k0, k1, k2⟩, j0, j1, j2⟩)).2 (by omega) _ _ _⟩)
    (first | (go_at_call 74; refine (C2 _ _ _ _ hv1.num).mono ?_; rintro y w4 ⟨ng4, o4, n4, c4, e4, rfl, hv2, hbv2⟩; have q0 := ((bel_trans hbv1 hbv2).block (w.heap.size + 2) (by show _ < wx.heap.size; omega)).trans g2; have x0 := blkC q0 0 rfl; have x1 := blkC q0 1 rfl; have x2 := blkC q0 2 rfl; have z0 := blkF q0 0; have z1 := blkF q0 1; have z2 := blkF q0 2) | (go_at_call 103; refine (C1 _ hb1.drew).mono ?_; rintro y w3 ⟨so, sn, sc, rfl, hv1, hbv1⟩))
  all_goals go_wp2
  all_goals
    refine bodyPost_ret (v := .agg #[.bool ng4, .slice o4 n4 c4, .int .i64 e4]) (by simp [results, Tryz.results83, go_sem, x0, x1, x2]) rfl ⟨_, rfl, ?_⟩
    exact dans_res3 (g := w.heap.size + 2) hv2 (bel_trans hb3 (bel_trans hb1.drew hbv1)) (by omega) (Nat.lt_of_lt_of_le (show _ < wx.heap.size by omega) hbv1.size) _ _ _
end Go.Proofs.YtjlmpgbadgkgmaaGreatDoor

/-
  Package plumbref3: Add, by its contract: a sum of numbers within bounds.
-/
namespace Go.Proofs.YtjlmpgbadgkgmaaGreatDoor
open Go Go.RowKit Go.Proofs.YtjlmpgbadgkgmaaGreatDoor.M
set_option linter.unusedSimpArgs false
set_option linter.unusedVariables false

/-- The form of a number within bounds. -/
theorem bd_form {K : Nat} {A : Int} {ng : Bool} {m e : Int} (h : Bd K A) (hy : Dy A ng m e) (hK : K ≤ 4194304) (h0 : 0 < m) : -(K : Int) ≤ e ∧ e ≤ K ∧ m * 2 ^ (e + K).toNat < 2 ^ (2 * K) := by
  obtain ⟨c, hc, c1, c2⟩ := h
  have key : ∀ (b : Bool) (C : Int), 0 < C → C < 2 ^ (2 * K) → A = sg b C * pw (-(K : Int)) → -(K : Int) ≤ e ∧ e ≤ K ∧ m * 2 ^ (e + K).toNat < 2 ^ (2 * K) := fun b C hC hlt hA => by
    obtain ⟨l, hl⟩ := isLow_ex hC
    have hy2 := Dy.of b hl hC (show -4194304 ≤ -(K : Int) by omega)
    rw [← hA] at hy2
    obtain ⟨_, rfl, rfl⟩ := hy.unique hy2
    obtain ⟨d1, d2, d3⟩ := isLow_odd hl hC
    have hl2 : l < 2 * K := by
      have h3 : (1 : Int) * 2 ^ l ≤ C / 2 ^ l * 2 ^ l := Int.mul_le_mul_of_nonneg_right (by omega) (Int.le_of_lt (two_pos l))
      rw [d3] at h3
      exact two_lt_iff (by omega)
    refine ⟨by omega, by omega, ?_⟩
    rw [show (-(K : Int) + l + K).toNat = l by omega, d3]
    exact hlt
  by_cases hz : c = 0
  · exfalso
    rw [hz, Int.zero_mul] at hc
    have := hy.eq_zero.1 hc
    omega
  · by_cases hp : 0 < c
    · exact key false c hp c2 (by simpa [sg] using hc)
    · exact key true (-c) (by omega) (by omega) (by simpa [sg] using hc)
theorem bd_shift {K : Nat} {A : Int} {ng : Bool} {m e low : Int} (h : Bd K A) (hy : Dy A ng m e) (hK : K ≤ 4194304) (h0 : 0 < m) (h1 : -(K : Int) ≤ low) (h2 : low ≤ e) : m * 2 ^ (e - low).toNat < 2 ^ (2 * K) := by
  obtain ⟨a, b, c⟩ := bd_form h hy hK h0
  have h3 : (2 : Int) ^ (e - low).toNat ≤ 2 ^ (e + K).toNat := two_le (by omega)
  have h4 : m * 2 ^ (e - low).toNat ≤ m * 2 ^ (e + K).toNat := Int.mul_le_mul_of_nonneg_left h3 (by omega)
  omega
theorem bd_self {K : Nat} {A : Int} {ng : Bool} {m e : Int} (h : Bd K A) (hy : Dy A ng m e) (hK : K ≤ 4194304) (h0 : 0 < m) : m < 2 ^ (2 * K) := by
  obtain ⟨a, b, c⟩ := bd_form h hy hK h0
  have h3 : (1 : Int) ≤ 2 ^ (e + K).toNat := two_pos _
  have h4 : m * 1 ≤ m * 2 ^ (e + K).toNat := Int.mul_le_mul_of_nonneg_left h3 (by omega)
  omega
theorem bd_digits {K : Nat} {d : Nat → Int} {n : Nat} (hK : K ≤ 560000) (hN : Nrm d n) (h : val d n < 2 ^ (2 * K)) : n ≤ 37400 := by
  by_cases h1 : n ≤ 37400
  · exact h1
  · exfalso
    have a := val_top hN.1 (by omega) hN.2
    have b := P_le (show 37400 ≤ n - 1 by omega)
    have c : (2 : Int) ^ (2 * K) ≤ 2 ^ (30 * 37400) := two_le (by omega)
    rw [← P_two] at c
    generalize P 37400 = Y at *
    omega
/-- A sum: its own, or one of the two where the other is 0. -/
def RSum (w w' : World) (A B : Int) (x y v : Value) : Prop := Below w.heap.size w w' ∧ (DAns w w' (A + B) v ∨ (A = 0 ∧ v = y) ∨ (B = 0 ∧ v = x))
theorem RSum.num {w w' : World} {A B : Int} {x y v : Value} (h : RSum w w' A B x y v) (hx : DNum w x A) (hy : DNum w y B) : DNum w' v (A + B) := by
  rcases h.2 with h1 | ⟨rfl, rfl⟩ | ⟨rfl, rfl⟩
  · exact h1.num
  · rw [Int.zero_add]; exact hy.keeps h.1
  · rw [Int.add_zero]; exact hx.keeps h.1
set_option maxRecDepth 100000 in
set_option maxHeartbeats 2000000 in
theorem radd3_left (x y : NumR) (w : World) (hm : x.n ≤ 9223372036854775807) (hm' : y.n ≤ 9223372036854775807) (h : x.n = 0) :
    Calls Tryz.prog 80 #[x.v, y.v] w fun r w' => r = .returned y.v ∧ Below w.heap.size w w' := by
  obtain ⟨an, ao, n, ca, a, e⟩ := x
  obtain ⟨bn, bo, m, cb, b, f⟩ := y
  unfold NumR.v at *
  simp only at *
  subst h
  go_enter Tryz.func80, Tryz.ntmps80
  go_wp2
  refine bodyPost_ret (v := .agg #[.bool bn, .slice bo m cb, .int .i64 f]) (by simp [results, Tryz.results80, go_sem]) rfl ⟨rfl, ?_⟩
  exact bel_a3 _ _ _ _
set_option maxRecDepth 100000 in
set_option maxHeartbeats 2000000 in
theorem radd3_right (x y : NumR) (w : World) (hm : x.n ≤ 9223372036854775807) (hm' : y.n ≤ 9223372036854775807) (h0 : 0 < x.n) (h : y.n = 0) :
    Calls Tryz.prog 80 #[x.v, y.v] w fun r w' => r = .returned x.v ∧ Below w.heap.size w w' := by
  obtain ⟨an, ao, n, ca, a, e⟩ := x
  obtain ⟨bn, bo, m, cb, b, f⟩ := y
  unfold NumR.v at *
  simp only at *
  have hn0 : ((n : Int) == 0) = false := by simp; omega
  subst h
  go_enter Tryz.func80, Tryz.ntmps80
  go_wp2
  refine bodyPost_ret (v := .agg #[.bool an, .slice ao n ca, .int .i64 e]) (by simp [results, Tryz.results80, go_sem]) rfl ⟨rfl, ?_⟩
  exact bel_a3 _ _ _ _
set_option maxRecDepth 100000 in
set_option maxHeartbeats 2000000 in
/-- The sum of two that are not 0, brought to one exponent: A and B units of 2^low. -/
theorem radd3_walk (x y : NumR) (w : World) (hx : Row w x.ao x.n x.cap x.d) (hy : Row w y.ao y.n y.cap y.d) (n0 : 0 < x.n) (m0 : 0 < y.n) (low A B V : Int)
    (hlow : low = min x.e y.e) (hl0 : -600000 ≤ low) (he : x.e ≤ 600000) (hf : y.e ≤ 600000)
    (H1 : ∀ W, Below w.heap.size w W → Calls Tryz.prog 97 #[.slice x.ao x.n x.cap, .int .i64 (x.e - low)] W fun r w' => ∃ so sn sc, r = .returned (.slice so sn sc) ∧ Num w' (.slice so sn sc) A ∧ Below W.heap.size W w')
    (H2 : ∀ W, Below w.heap.size w W → Calls Tryz.prog 97 #[.slice y.ao y.n y.cap, .int .i64 (y.e - low)] W fun r w' => ∃ so sn sc, r = .returned (.slice so sn sc) ∧ Num w' (.slice so sn sc) B ∧ Below W.heap.size W w')
    (H3 : ∀ W p q, Num W p A → Num W q B → Calls Tryz.prog 98 #[p, q] W fun r w' => ∃ so sn sc, r = .returned (.slice so sn sc) ∧ Num w' (.slice so sn sc) (A + B) ∧ Below W.heap.size W w')
    (H4 : ∀ W p q, Num W p A → Num W q B → Calls Tryz.prog 99 #[p, q] W fun r w' => r = .returned (.int .i64 (ord A B)) ∧ Below W.heap.size W w')
    (H5 : ∀ W p q, Num W p A → Num W q B → B ≤ A → Calls Tryz.prog 100 #[p, q] W fun r w' => ∃ so sn sc, r = .returned (.slice so sn sc) ∧ Num w' (.slice so sn sc) (A - B) ∧ Below W.heap.size W w')
    (H6 : ∀ W p q, Num W p A → Num W q B → A ≤ B → Calls Tryz.prog 100 #[q, p] W fun r w' => ∃ so sn sc, r = .returned (.slice so sn sc) ∧ Num w' (.slice so sn sc) (B - A) ∧ Below W.heap.size W w')
    (H7 : ∀ W ng s M, Num W s M → ((x.ng = y.ng ∧ ng = x.ng ∧ M = A + B) ∨ (x.ng ≠ y.ng ∧ B ≤ A ∧ ng = x.ng ∧ M = A - B) ∨ (x.ng ≠ y.ng ∧ A < B ∧ ng = y.ng ∧ M = B - A)) → Calls Tryz.prog 74 #[.bool ng, s, .int .i64 low] W fun r w' => ∃ ng s1 s2 s3 e1, r = .returned (.agg #[.bool ng, .slice s1 s2 s3, .int .i64 e1]) ∧ DAns W w' V (.agg #[.bool ng, .slice s1 s2 s3, .int .i64 e1]) ∧ Below W.heap.size W w') :
    Calls Tryz.prog 80 #[x.v, y.v] w fun r w' => ∃ v, r = .returned v ∧ DAns w w' V v := by
  have hmin : ∀ (ts : Array TypeId) (t : TypeId) (w : World), (Builtin.min_ ts t #[.int .i64 x.e, .int .i64 y.e]).run Tryz.prog w = .ok (.int .i64 low) w := fun ts t w => by rw [run_min_int2, hlow]; congr 2; omega
  have hl1 : low ≤ x.e := by omega
  have hl2 : low ≤ y.e := by omega
  have HH7 : Hid _ := H7
  have hm := hx.max
  have hm' := hy.max
  clear hlow H7
  obtain ⟨an, ao, n, ca, a, e⟩ := x
  obtain ⟨bn, bo, m, cb, b, f⟩ := y
  unfold NumR.v
  simp only at *
  have hn0 : ((n : Int) == 0) = false := by simp; omega
  have hm0 : ((m : Int) == 0) = false := by simp; omega
  have hb3 : Below w.heap.size w (((w.alloc (.cells #[.bool an, .slice ao n ca, .int .i64 e] 74)).alloc (.cells #[.bool bn, .slice bo m cb, .int .i64 f] 74)).alloc (.cells #[.bool false, .slice none 0 0, .int .i64 0] 74)) := bel_a3 _ _ _ _
  have g0 := h3_0 w (.cells #[.bool an, .slice ao n ca, .int .i64 e] 74) (.cells #[.bool bn, .slice bo m cb, .int .i64 f] 74) (.cells #[.bool false, .slice none 0 0, .int .i64 0] 74)
  have g1 := h3_1 w (.cells #[.bool an, .slice ao n ca, .int .i64 e] 74) (.cells #[.bool bn, .slice bo m cb, .int .i64 f] 74) (.cells #[.bool false, .slice none 0 0, .int .i64 0] 74)
  have g2 := h3_2 w (.cells #[.bool an, .slice ao n ca, .int .i64 e] 74) (.cells #[.bool bn, .slice bo m cb, .int .i64 f] 74) (.cells #[.bool false, .slice none 0 0, .int .i64 0] 74)
  go_enter Tryz.func80, Tryz.ntmps80
  go_wp2_with fail
  generalize ((w.alloc (.cells #[.bool an, .slice ao n ca, .int .i64 e] 74)).alloc (.cells #[.bool bn, .slice bo m cb, .int .i64 f] 74)).alloc (.cells #[.bool false, .slice none 0 0, .int .i64 0] 74) = wx at hb3 g0 g1 g2 ⊢
  refine (H1 _ hb3).mono ?_
  rintro r w1 ⟨po, pn, pc, rfl, hP, hb1⟩
  have hbx1 := bel_trans hb3 hb1
  replace g0 := (hb1.block _ (Array.getElem?_eq_some_iff.1 g0).1).trans g0
  replace g1 := (hb1.block _ (Array.getElem?_eq_some_iff.1 g1).1).trans g1
  replace g2 := (hb1.block _ (Array.getElem?_eq_some_iff.1 g2).1).trans g2
  have j1 := blkC g1 1 rfl
  have j2 := blkC g1 2 rfl
  go_wp2_with fail
  clear j1 j2
  refine (H2 _ hbx1).mono ?_
  rintro r w2 ⟨qo, qn, qc, rfl, hQ, hb2⟩
  have hbx2 := bel_trans hbx1 hb2
  replace hP := hP.keeps hb2
  replace g0 := (hb2.block _ (Array.getElem?_eq_some_iff.1 g0).1).trans g0
  replace g1 := (hb2.block _ (Array.getElem?_eq_some_iff.1 g1).1).trans g1
  replace g2 := (hb2.block _ (Array.getElem?_eq_some_iff.1 g2).1).trans g2
  have k0 := blkC g0 0 rfl
  have k1 := blkC g0 1 rfl
  have k2 := blkC g0 2 rfl
  have j0 := blkC g1 0 rfl
  have j1 := blkC g1 1 rfl
  have j2 := blkC g1 2 rfl
  by_cases hng : an = bn
  · subst hng
    have C1 : ∀ W, Below w2.heap.size w2 W → Calls Tryz.prog 98 #[.slice po pn pc, .slice qo qn qc] W fun r w' => ∃ so sn sc, r = .returned (.slice so sn sc) ∧ Num w' (.slice so sn sc) (A + B) ∧ Below W.heap.size W w' := fun W h => H3 W _ _ (hP.keeps h) (hQ.keeps h)
    have C2 : ∀ W so sn sc, Num W (.slice so sn sc) (A + B) → Calls Tryz.prog 74 #[.bool an, .slice so sn sc, .int .i64 low] W fun r w' => ∃ ng s1 s2 s3 e1, r = .returned (.agg #[.bool ng, .slice s1 s2 s3, .int .i64 e1]) ∧ DAns W w' V (.agg #[.bool ng, .slice s1 s2 s3, .int .i64 e1]) ∧ Below W.heap.size W w' := fun W so sn sc hN => HH7.out W an _ _ hN (.inl ⟨rfl, rfl, rfl⟩)
    clear H1 H2 H3 H4 H5 H6 HH7
    have hs3 := (Array.getElem?_eq_some_iff.1 g2).1
    go_wp2_with fail
    have hb1 := bel_refl w2
    go_region_held3 (fun W => (W.cell? ⟨w.heap.size, 0, none⟩ = some (.bool an) ∧ W.cell? ⟨w.heap.size, 1, none⟩ = some (.slice ao n ca) ∧ W.cell? ⟨w.heap.size, 2, none⟩ = some (.int .i64 e)) ∧ W.cell? ⟨w.heap.size + 1, 0, none⟩ = some (.bool an) ∧ W.cell? ⟨w.heap.size + 1, 1, none⟩ = some (.slice bo m cb) ∧ W.cell? ⟨w.heap.size + 1, 2, none⟩ = some (.int .i64 f))
      (first | assumption | exact ⟨⟨k0, k1, k2⟩, j0, j1, j2⟩ | exact keep66 (W := w2.drew) hbv1 ⟨⟨k0, k1, k2⟩, j0, j1, j2⟩ | exact keep66 hbv2 (keep66 (W := w2.drew) hbv1 ⟨⟨k0, k1, k2⟩, j0, j1, j2⟩) | exact ⟨keepS (keep66 hbv2 (keep66 (W := w2.drew) hbv1 ⟨⟨k0, k1, k2⟩, j0, j1, j2⟩)).1 (by omega) _ _ _, keepS (keep66 hbv2 (keep66 (W := w2.drew) hbv1 ⟨⟨k0, k1, k2⟩, j0, j1, j2⟩)).2 (by omega) _ _ _⟩)
      (first | (go_at_call 74; refine (C2 _ _ _ _ hv1).mono ?_; rintro y w4 ⟨ng4, o4, n4, c4, e4, rfl, hv2, hbv2⟩; have q0 := ((bel_trans hbv1 hbv2).block (w.heap.size + 2) (by show _ < w2.heap.size; omega)).trans g2; have x0 := blkC q0 0 rfl; have x1 := blkC q0 1 rfl; have x2 := blkC q0 2 rfl; have z0 := blkF q0 0; have z1 := blkF q0 1; have z2 := blkF q0 2) | (go_at_call 98; refine (C1 _ hb1.drew).mono ?_; rintro y w3 ⟨so, sn, sc, rfl, hv1, hbv1⟩))
    all_goals go_wp2
    all_goals
      refine bodyPost_ret (v := .agg #[.bool ng4, .slice o4 n4 c4, .int .i64 e4]) (by simp [results, Tryz.results80, go_sem, x0, x1, x2]) rfl ⟨_, rfl, ?_⟩
      exact dans_res3 (g := w.heap.size + 2) hv2 (bel_trans hbx2 (bel_trans hb1.drew hbv1)) (by omega) (Nat.lt_of_lt_of_le (show _ < w2.heap.size by omega) hbv1.size) _ _ _
  · have hng' : (an == bn) = false := by simp [hng]
    go_wp2_with fail
    refine (H4 _ _ _ hP hQ).mono ?_
    rintro r w3 ⟨rfl, hb3'⟩
    have hbx3 := bel_trans hbx2 hb3'
    replace hP := hP.keeps hb3'
    replace hQ := hQ.keeps hb3'
    replace g0 := (hb3'.block _ (Array.getElem?_eq_some_iff.1 g0).1).trans g0
    replace g1 := (hb3'.block _ (Array.getElem?_eq_some_iff.1 g1).1).trans g1
    replace g2 := (hb3'.block _ (Array.getElem?_eq_some_iff.1 g2).1).trans g2
    replace k0 := blkC g0 0 rfl
    replace k1 := blkC g0 1 rfl
    replace k2 := blkC g0 2 rfl
    replace j0 := blkC g1 0 rfl
    replace j1 := blkC g1 1 rfl
    replace j2 := blkC g1 2 rfl
    have hs3 := (Array.getElem?_eq_some_iff.1 g2).1
    by_cases hAB : B ≤ A
    · have ho : (0 : Int) ≤ ord A B := by
        rcases Int.lt_trichotomy A B with h | h | h
        · omega
        · rw [ord_eq h]; decide
        · rw [ord_gt h]; decide
      have C1 : ∀ W, Below w3.heap.size w3 W → Calls Tryz.prog 100 #[.slice po pn pc, .slice qo qn qc] W fun r w' => ∃ so sn sc, r = .returned (.slice so sn sc) ∧ Num w' (.slice so sn sc) (A - B) ∧ Below W.heap.size W w' := fun W h => H5 W _ _ (hP.keeps h) (hQ.keeps h) hAB
      have C2 : ∀ W so sn sc, Num W (.slice so sn sc) (A - B) → Calls Tryz.prog 74 #[.bool an, .slice so sn sc, .int .i64 low] W fun r w' => ∃ ng s1 s2 s3 e1, r = .returned (.agg #[.bool ng, .slice s1 s2 s3, .int .i64 e1]) ∧ DAns W w' V (.agg #[.bool ng, .slice s1 s2 s3, .int .i64 e1]) ∧ Below W.heap.size W w' := fun W so sn sc hN => HH7.out W an _ _ hN (.inr (.inl ⟨hng, hAB, rfl, rfl⟩))
      generalize ord A B = oAB at ho ⊢
      clear H1 H2 H3 H4 H5 H6 HH7 hAB
      go_wp2_with fail
      have hb1 := bel_refl w3
      go_region_held3 (fun W => (W.cell? ⟨w.heap.size, 0, none⟩ = some (.bool an) ∧ W.cell? ⟨w.heap.size, 1, none⟩ = some (.slice ao n ca) ∧ W.cell? ⟨w.heap.size, 2, none⟩ = some (.int .i64 e)) ∧ W.cell? ⟨w.heap.size + 1, 0, none⟩ = some (.bool bn) ∧ W.cell? ⟨w.heap.size + 1, 1, none⟩ = some (.slice bo m cb) ∧ W.cell? ⟨w.heap.size + 1, 2, none⟩ = some (.int .i64 f))
        (first | assumption | exact ⟨⟨k0, k1, k2⟩, j0, j1, j2⟩ | exact keep66 (W := w3.drew) hbv1 ⟨⟨k0, k1, k2⟩, j0, j1, j2⟩ | exact keep66 hbv2 (keep66 (W := w3.drew) hbv1 ⟨⟨k0, k1, k2⟩, j0, j1, j2⟩) | exact ⟨keepS (keep66 hbv2 (keep66 (W := w3.drew) hbv1 ⟨⟨k0, k1, k2⟩, j0, j1, j2⟩)).1 (by omega) _ _ _, keepS (keep66 hbv2 (keep66 (W := w3.drew) hbv1 ⟨⟨k0, k1, k2⟩, j0, j1, j2⟩)).2 (by omega) _ _ _⟩)
        (first | (go_at_call 74; refine (C2 _ _ _ _ hv1).mono ?_; rintro y w4 ⟨ng4, o4, n4, c4, e4, rfl, hv2, hbv2⟩; have q0 := ((bel_trans hbv1 hbv2).block (w.heap.size + 2) (by show _ < w3.heap.size; omega)).trans g2; have x0 := blkC q0 0 rfl; have x1 := blkC q0 1 rfl; have x2 := blkC q0 2 rfl; have z0 := blkF q0 0; have z1 := blkF q0 1; have z2 := blkF q0 2) | (go_at_call 100; refine (C1 _ hb1.drew).mono ?_; rintro y w3' ⟨so, sn, sc, rfl, hv1, hbv1⟩))
      all_goals go_wp2
      all_goals
        refine bodyPost_ret (v := .agg #[.bool ng4, .slice o4 n4 c4, .int .i64 e4]) (by simp [results, Tryz.results80, go_sem, x0, x1, x2]) rfl ⟨_, rfl, ?_⟩
        exact dans_res3 (g := w.heap.size + 2) hv2 (bel_trans hbx3 (bel_trans hb1.drew hbv1)) (by omega) (Nat.lt_of_lt_of_le (show _ < w3.heap.size by omega) hbv1.size) _ _ _
    · have ho : ord A B < (0 : Int) := by rw [ord_lt (by omega)]; decide
      have C1 : ∀ W, Below w3.heap.size w3 W → Calls Tryz.prog 100 #[.slice qo qn qc, .slice po pn pc] W fun r w' => ∃ so sn sc, r = .returned (.slice so sn sc) ∧ Num w' (.slice so sn sc) (B - A) ∧ Below W.heap.size W w' := fun W h => H6 W _ _ (hP.keeps h) (hQ.keeps h) (by omega)
      have C2 : ∀ W so sn sc, Num W (.slice so sn sc) (B - A) → Calls Tryz.prog 74 #[.bool bn, .slice so sn sc, .int .i64 low] W fun r w' => ∃ ng s1 s2 s3 e1, r = .returned (.agg #[.bool ng, .slice s1 s2 s3, .int .i64 e1]) ∧ DAns W w' V (.agg #[.bool ng, .slice s1 s2 s3, .int .i64 e1]) ∧ Below W.heap.size W w' := fun W so sn sc hN => HH7.out W bn _ _ hN (.inr (.inr ⟨hng, by omega, rfl, rfl⟩))
      generalize ord A B = oAB at ho ⊢
      clear H1 H2 H3 H4 H5 H6 HH7 hAB
      go_wp2_with fail
      have hb1 := bel_refl w3
      go_region_held3 (fun W => (W.cell? ⟨w.heap.size, 0, none⟩ = some (.bool an) ∧ W.cell? ⟨w.heap.size, 1, none⟩ = some (.slice ao n ca) ∧ W.cell? ⟨w.heap.size, 2, none⟩ = some (.int .i64 e)) ∧ W.cell? ⟨w.heap.size + 1, 0, none⟩ = some (.bool bn) ∧ W.cell? ⟨w.heap.size + 1, 1, none⟩ = some (.slice bo m cb) ∧ W.cell? ⟨w.heap.size + 1, 2, none⟩ = some (.int .i64 f))
        (first | assumption | exact ⟨⟨k0, k1, k2⟩, j0, j1, j2⟩ | exact keep66 (W := w3.drew) hbv1 ⟨⟨k0, k1, k2⟩, j0, j1, j2⟩ | exact keep66 hbv2 (keep66 (W := w3.drew) hbv1 ⟨⟨k0, k1, k2⟩, j0, j1, j2⟩) | exact ⟨keepS (keep66 hbv2 (keep66 (W := w3.drew) hbv1 ⟨⟨k0, k1, k2⟩, j0, j1, j2⟩)).1 (by omega) _ _ _, keepS (keep66 hbv2 (keep66 (W := w3.drew) hbv1 ⟨⟨k0, k1, k2⟩, j0, j1, j2⟩)).2 (by omega) _ _ _⟩)
        (first | (go_at_call 74; refine (C2 _ _ _ _ hv1).mono ?_; rintro y w4 ⟨ng4, o4, n4, c4, e4, rfl, hv2, hbv2⟩; have q0 := ((bel_trans hbv1 hbv2).block (w.heap.size + 2) (by show _ < w3.heap.size; omega)).trans g2; have x0 := blkC q0 0 rfl; have x1 := blkC q0 1 rfl; have x2 := blkC q0 2 rfl; have z0 := blkF q0 0; have z1 := blkF q0 1; have z2 := blkF q0 2) | (go_at_call 100; refine (C1 _ hb1.drew).mono ?_; rintro y w3' ⟨so, sn, sc, rfl, hv1, hbv1⟩))
      all_goals go_wp2
      all_goals
        refine bodyPost_ret (v := .agg #[.bool ng4, .slice o4 n4 c4, .int .i64 e4]) (by simp [results, Tryz.results80, go_sem, x0, x1, x2]) rfl ⟨_, rfl, ?_⟩
        exact dans_res3 (g := w.heap.size + 2) hv2 (bel_trans hbx3 (bel_trans hb1.drew hbv1)) (by omega) (Nat.lt_of_lt_of_le (show _ < w3.heap.size by omega) hbv1.size) _ _ _
/-- Two numbers brought to one exponent. -/
theorem rsum_V {an bn : Bool} {A B low : Int} {ng : Bool} {M : Int} (h : (an = bn ∧ ng = an ∧ M = A + B) ∨ (an ≠ bn ∧ B ≤ A ∧ ng = an ∧ M = A - B) ∨ (an ≠ bn ∧ A < B ∧ ng = bn ∧ M = B - A)) :
    sg ng M * pw low = sg an A * pw low + sg bn B * pw low := by
  rw [← Int.add_mul]
  congr 1
  rcases h with ⟨rfl, rfl, rfl⟩ | ⟨h1, h2, rfl, rfl⟩ | ⟨h1, h2, rfl, rfl⟩
  · cases ng <;> simp [sg] <;> omega
  · cases ng <;> cases bn <;> simp [sg] at * <;> omega
  · cases an <;> cases ng <;> simp [sg] at * <;> omega
theorem Num.digits {w : World} {so : Option Addr} {sn sc : Nat} {M : Int} (h : Num w (.slice so sn sc) M) {K : Nat} (hK : K ≤ 560000) (hM : M < 2 ^ (2 * K) + 2 ^ (2 * K)) : ∃ d, Row w so sn sc d ∧ Nrm d sn ∧ val d sn = M ∧ sn ≤ 37500 := by
  obtain ⟨ao, n, ca, d, e, hR, hN, hv⟩ := h
  simp only [Value.slice.injEq] at e
  obtain ⟨rfl, rfl, rfl⟩ := e
  refine ⟨d, hR, hN, hv, ?_⟩
  by_cases h1 : sn ≤ 37500
  · exact h1
  · exfalso
    have a := val_top hN.1 (by omega) hN.2
    have b := P_le (show 37500 ≤ sn - 1 by omega)
    have c : (2 : Int) ^ (2 * K) ≤ 2 ^ (30 * 37400) := two_le (by omega)
    have c2 : (2 : Int) ^ (30 * 37400) * 2 ≤ 2 ^ (30 * 37500) := by
      rw [← Int.pow_succ]
      exact two_le (by omega)
    rw [← P_two 37500] at c2
    generalize P 37500 = Y at *
    generalize (2 : Int) ^ (30 * 37400) = Z at *
    omega
theorem radd3_any (x y : NumR) (w : World) (hx : Row w x.ao x.n x.cap x.d) (hy : Row w y.ao y.n y.cap y.d) (dx : Dy x.V x.ng (val x.d x.n) x.e) (nx : Nrm x.d x.n) (dy : Dy y.V y.ng (val y.d y.n) y.e) (ny : Nrm y.d y.n) {K : Nat} (hK : K ≤ 560000) (bx : Bd K x.V) (bY : Bd K y.V) :
    Calls Tryz.prog 80 #[x.v, y.v] w fun r w' => ∃ v, r = .returned v ∧ RSum w w' x.V y.V x.v y.v v := by
  by_cases h0 : x.n = 0
  · refine (radd3_left x y w (Nat.le_trans hx.le hx.max) (Nat.le_trans hy.le hy.max) h0).mono ?_
    rintro r w' ⟨rfl, hb⟩
    exact ⟨_, rfl, hb, .inr (.inl ⟨dx.eq_zero.2 (by rw [h0]; rfl), rfl⟩)⟩
  · by_cases h1 : y.n = 0
    · refine (radd3_right x y w (Nat.le_trans hx.le hx.max) (Nat.le_trans hy.le hy.max) (by omega) h1).mono ?_
      rintro r w' ⟨rfl, hb⟩
      exact ⟨_, rfl, hb, .inr (.inr ⟨dy.eq_zero.2 (by rw [h1]; rfl), rfl⟩)⟩
    · have px := val_pos nx (show 0 < x.n by omega)
      have py := val_pos ny (show 0 < y.n by omega)
      obtain ⟨a1, a2, _⟩ := bd_form bx dx (by omega) px
      obtain ⟨b1, b2, _⟩ := bd_form bY dy (by omega) py
      obtain ⟨low, hlow⟩ : ∃ low : Int, low = min x.e y.e := ⟨_, rfl⟩
      have hl0 : -(K : Int) ≤ low := by omega
      have s1 := bd_shift bx dx (by omega) px hl0 (by omega)
      have s2 := bd_shift bY dy (by omega) py hl0 (by omega)
      have v1 := dx.at (low := low) (by omega) (by omega)
      have v2 := dy.at (low := low) (by omega) (by omega)
      have dgx := bd_digits hK nx (bd_self bx dx (by omega) px)
      have dgy := bd_digits hK ny (bd_self bY dy (by omega) py)
      have q1 : 0 ≤ val x.d x.n * 2 ^ (x.e - low).toNat := Int.mul_nonneg (by omega) (Int.le_of_lt (two_pos _))
      have q2 : 0 ≤ val y.d y.n * 2 ^ (y.e - low).toNat := Int.mul_nonneg (by omega) (Int.le_of_lt (two_pos _))
      have e1 : x.e - low = ((x.e - low).toNat : Int) := by omega
      have e2 : y.e - low = ((y.e - low).toNat : Int) := by omega
      have H1 : ∀ W, Below w.heap.size w W → Calls Tryz.prog 97 #[.slice x.ao x.n x.cap, .int .i64 (x.e - low)] W fun r w' => ∃ so sn sc, r = .returned (.slice so sn sc) ∧ Num w' (.slice so sn sc) (val x.d x.n * 2 ^ (x.e - low).toNat) ∧ Below W.heap.size W w' := fun W hb => by
        rw [e1]
        refine (rshl_any x.ao x.n x.cap _ x.d W (hx.keeps hb) nx.1 (by omega) (by omega)).mono ?_
        rintro r w' ⟨v, rfl, hA⟩
        obtain ⟨so, sn, sc, rfl⟩ := hA.num.shape
        exact ⟨so, sn, sc, rfl, by rw [← e1]; exact hA.num, hA.below⟩
      have H2 : ∀ W, Below w.heap.size w W → Calls Tryz.prog 97 #[.slice y.ao y.n y.cap, .int .i64 (y.e - low)] W fun r w' => ∃ so sn sc, r = .returned (.slice so sn sc) ∧ Num w' (.slice so sn sc) (val y.d y.n * 2 ^ (y.e - low).toNat) ∧ Below W.heap.size W w' := fun W hb => by
        rw [e2]
        refine (rshl_any y.ao y.n y.cap _ y.d W (hy.keeps hb) ny.1 (by omega) (by omega)).mono ?_
        rintro r w' ⟨v, rfl, hA⟩
        obtain ⟨so, sn, sc, rfl⟩ := hA.num.shape
        exact ⟨so, sn, sc, rfl, by rw [← e2]; exact hA.num, hA.below⟩
      generalize val x.d x.n * 2 ^ (x.e - low).toNat = A at *
      generalize val y.d y.n * 2 ^ (y.e - low).toNat = B at *
      have dg := fun W so sn sc M (h : Num W (.slice so sn sc) M) hM => h.digits hK hM
      have key : ∀ W p M, Num W p M → M < 2 ^ (2 * K) + 2 ^ (2 * K) → ∃ so sn sc d, p = .slice so sn sc ∧ Row W so sn sc d ∧ Nrm d sn ∧ val d sn = M ∧ sn ≤ 37500 := fun W p M h hM => by
        obtain ⟨so, sn, sc, rfl⟩ := h.shape
        obtain ⟨d, h1, h2, h3, h4⟩ := h.digits hK hM
        exact ⟨so, sn, sc, d, rfl, h1, h2, h3, h4⟩
      refine (radd3_walk x y w hx hy (by omega) (by omega) low A B (x.V + y.V) hlow (by omega) (by omega) (by omega) H1 H2 ?_ ?_ ?_ ?_ ?_).mono ?_
      · intro W p q hp hq
        obtain ⟨po, pn, pc, d, rfl, r1, r2, r3, r4⟩ := key W p A hp (by omega)
        obtain ⟨qo, qn, qc, d', rfl, u1, u2, u3, u4⟩ := key W q B hq (by omega)
        refine (radd_any _ _ _ _ _ _ d d' W r1 u1 r2 u2 (by omega) (by omega)).mono ?_
        rw [r3, u3]
        rintro r w' ⟨v, rfl, hA⟩
        obtain ⟨so, sn, sc, rfl⟩ := hA.num.shape
        exact ⟨so, sn, sc, rfl, hA.num, hA.below⟩
      · intro W p q hp hq
        obtain ⟨po, pn, pc, d, rfl, r1, r2, r3, r4⟩ := key W p A hp (by omega)
        obtain ⟨qo, qn, qc, d', rfl, u1, u2, u3, u4⟩ := key W q B hq (by omega)
        have := rcmp_any po qo pn qn pc qc d d' W r1 u1 r2 u2
        rwa [r3, u3] at this
      · intro W p q hp hq hle
        obtain ⟨po, pn, pc, d, rfl, r1, r2, r3, r4⟩ := key W p A hp (by omega)
        obtain ⟨qo, qn, qc, d', rfl, u1, u2, u3, u4⟩ := key W q B hq (by omega)
        refine (rsub_any _ _ _ _ _ _ d d' W r1 u1 r2 u2 (by omega) (by rw [r3, u3]; exact hle)).mono ?_
        rw [r3, u3]
        rintro r w' ⟨v, rfl, hA⟩
        obtain ⟨so, sn, sc, rfl⟩ := hA.num.shape
        exact ⟨so, sn, sc, rfl, hA.num, hA.below⟩
      · intro W p q hp hq hle
        obtain ⟨po, pn, pc, d, rfl, r1, r2, r3, r4⟩ := key W p A hp (by omega)
        obtain ⟨qo, qn, qc, d', rfl, u1, u2, u3, u4⟩ := key W q B hq (by omega)
        refine (rsub_any _ _ _ _ _ _ d' d W u1 r1 u2 r2 (by omega) (by rw [r3, u3]; exact hle)).mono ?_
        rw [r3, u3]
        rintro r w' ⟨v, rfl, hA⟩
        obtain ⟨so, sn, sc, rfl⟩ := hA.num.shape
        exact ⟨so, sn, sc, rfl, hA.num, hA.below⟩
      · intro W ng s M hs hc
        have hM : M < 2 ^ (2 * K) + 2 ^ (2 * K) := by rcases hc with ⟨_, _, h⟩ | ⟨_, _, _, h⟩ | ⟨_, _, _, h⟩ <;> omega
        obtain ⟨po, pn, pc, d, rfl, r1, r2, r3, r4⟩ := key W s M hs hM
        have hV := rsum_V (low := low) hc
        rw [← v1, ← v2] at hV
        refine (rnorm_any ng po pn pc d low W r1 r2.1 (by omega) (by omega) (by omega)).mono ?_
        rw [r3, hV]
        rintro r w' ⟨v, rfl, hD⟩
        obtain ⟨ng', s, m', e1, rfl, _, hA⟩ := id hD
        obtain ⟨q1, q2, q3, rfl⟩ := hA.num.shape
        exact ⟨ng', q1, q2, q3, e1, rfl, hD, hD.below⟩
      · rintro r w' ⟨v, rfl, hD⟩
        exact ⟨v, rfl, hD.below, .inl hD⟩
/-- A sum, by its worth. -/
theorem radd_D {w : World} {x y : Value} {A B : Int} (hx : DNum w x A) (hy : DNum w y B) {K : Nat} (hK : K ≤ 560000) (bx : Bd K A) (bY : Bd K B) :
    Calls Tryz.prog 80 #[x, y] w fun r w' => ∃ v, r = .returned v ∧ RSum w w' A B x y v := by
  obtain ⟨ng, s, m, e, rfl, dx, ao, n, cap, d, rfl, hR, hN, rfl⟩ := hx
  obtain ⟨ng', s', m', e', rfl, dy, ao', n', cap', d', rfl, hR', hN', rfl⟩ := hy
  obtain rfl : A = (⟨ng, ao, n, cap, d, e⟩ : NumR).V := dx.val
  obtain rfl : B = (⟨ng', ao', n', cap', d', e'⟩ : NumR).V := dy.val
  exact radd3_any ⟨ng, ao, n, cap, d, e⟩ ⟨ng', ao', n', cap', d', e'⟩ w hR hR' dx hN dy hN' hK bx bY
end Go.Proofs.YtjlmpgbadgkgmaaGreatDoor
