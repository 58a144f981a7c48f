/-
  Parts of the proof, one behind another.
-/
import Derived.Test.YteobbaefodckfaaDoorPart8
import Derived.Test.YteobbaefodckfaaDoorPart6
import Derived.Deep.RegionWith
/-
  Package round: scaled, valueOf, by their contracts.
-/
namespace Go.Proofs.YteobbaefodckfaaDoor
open Go Go.RowKit Go.Proofs.YteobbaefodckfaaDoor.M
set_option linter.unusedSimpArgs false
set_option linter.unusedVariables false

theorem low_mod {V l : Int} (h : LowA V l) (h0 : 0 < V) (k : Nat) : decide (l < (k : Int)) = decide (V % 2 ^ k ≠ 0) := by
  obtain ⟨j, rfl, q, hq⟩ := lowA_pos h h0
  by_cases hjk : j < k
  · rw [decide_eq_true (by omega)]
    refine (decide_eq_true ?_).symm
    intro hz
    obtain ⟨d, hd⟩ : ∃ d, k = j + 1 + d := ⟨k - j - 1, by omega⟩
    have h1 : (2 : Int) ^ k ∣ V := Int.dvd_of_emod_eq_zero hz
    obtain ⟨c, hc⟩ := h1
    rw [hq, hd, Int.pow_add, Int.pow_succ] at hc
    have hp := two_pos j
    have e : (2 : Int) ^ j * (2 * q + 1) = 2 ^ j * (2 * (2 ^ d * c)) := by
      rw [Int.mul_comm, hc]
      simp only [Int.mul_assoc]
    have := Int.eq_of_mul_eq_mul_left (by omega) e
    omega
  · rw [decide_eq_false (by omega)]
    refine (decide_eq_false ?_).symm
    intro hz
    apply hz
    obtain ⟨d, hd⟩ : ∃ d, j = k + d := ⟨j - k, by omega⟩
    rw [hq, hd, Int.pow_add, Int.mul_comm, Int.mul_assoc]
    exact Int.mul_emod_right _ _
set_option maxRecDepth 100000 in
set_option maxHeartbeats 1000000 in
theorem scaled_low (ao : Option Addr) (n ca : Nat) (a : Nat → Int) (k : Nat) (w : World) (ha : Row w ao n ca a) (na : Nrm a n) (hn : n ≤ 5000) (hk0 : 0 < k) (hk : k ≤ 1000000) (h0 : 0 < val a n) (hT : Tab w) :
    Calls Tryd.prog 43 #[.slice ao n ca, .int .i64 (-(k : Int))] w fun e w' => ∃ v, e = .returned (.tuple #[v, .bool (decide (val a n % 2 ^ k ≠ 0))]) ∧ Ans w w' (val a n / 2 ^ k) v := by
  have CL : Hid (∀ W, Below w.heap.size w W → _) := fun W hb => lower_any ao n ca k a W (ha.keeps hb) na.1 (by omega) (by omega)
  have CW : Hid (∀ W, Below w.heap.size w W → _) := fun W hb => lowest_any ao n ca a W (ha.keeps hb) na.1 (by omega) (hT.keeps hb)
  have HM : Hid (∀ l, LowA (val a n) l → decide (l < (k : Int)) = decide (val a n % 2 ^ k ≠ 0)) := fun l h => low_mod h h0 k
  generalize decide (val a n % 2 ^ k ≠ 0) = R at HM ⊢
  generalize val a n / 2 ^ k = Q at CL ⊢
  have w1 : IntKind.i64.wrap (k : Int) = (k : Int) := by rw [wrap_i64_eq]; omega
  go_enter Tryd.func43, Tryd.ntmps43
  go_wp2_with fail
  refine (CL.out _ (bel_refl _)).mono ?_
  rintro _ w2 ⟨v, rfl, hA⟩
  have hb2 := hA.below
  have HA : Hid (Ans w w2 Q v) := hA
  obtain ⟨so, sn, sc, rfl⟩ := hA.num.shape
  clear hA CL
  go_wp2_with fail
  refine (CW.out _ hb2).mono ?_
  rintro _ w3 ⟨l, rfl, hl, rfl⟩
  have hr := HM.out l hl
  go_wp2
  all_goals refine bodyPost_ret (v := .tuple #[.slice so sn sc, .bool R]) (by simp [results, Tryd.results43, go_sem]) rfl ⟨_, rfl, HA.out⟩
set_option maxRecDepth 100000 in
set_option maxHeartbeats 1000000 in
theorem scaled_zero (ao : Option Addr) (n ca : Nat) (a : Nat → Int) (w : World) (ha : Row w ao n ca a) (na : Nrm a n) (hn : n ≤ 5000) :
    Calls Tryd.prog 43 #[.slice ao n ca, .int .i64 0] w fun e w' => ∃ v, e = .returned (.tuple #[v, .bool false]) ∧ Ans w w' (val a n) v := by
  have CR : Hid (Calls Tryd.prog 61 #[.slice ao n ca, .int .i64 0] w fun e w' => ∃ v, e = .returned v ∧ Ans w w' (val a n) v) := by
    have h := raise_any ao n ca 0 a w ha na.1 (by omega) (by omega)
    rw [Int.pow_zero, Int.mul_one] at h
    exact h
  go_enter Tryd.func43, Tryd.ntmps43
  go_wp2_with fail
  refine CR.out.mono ?_
  rintro _ w2 ⟨v, rfl, hA⟩
  have HA : Hid (Ans w w2 (val a n) v) := hA
  obtain ⟨so, sn, sc, rfl⟩ := hA.num.shape
  clear hA CR
  go_wp2
  all_goals refine bodyPost_ret (v := .tuple #[.slice so sn sc, .bool false]) (by simp [results, Tryd.results43, go_sem]) rfl ⟨_, rfl, HA.out⟩
theorem keep3R {W w' : World} {b g o0 o1 o2 : Nat} {x y z : Value} (h : W.cell? ⟨b, o0, none⟩ = some x ∧ W.cell? ⟨b, o1, none⟩ = some y ∧ W.cell? ⟨b, o2, none⟩ = some z) (hw : Wr g W w') (hg : b ≠ g) :
    w'.cell? ⟨b, o0, none⟩ = some x ∧ w'.cell? ⟨b, o1, none⟩ = some y ∧ w'.cell? ⟨b, o2, none⟩ = some z :=
  ⟨(hw.cell (World.block_lt_of_cell? W _ h.1) hg).trans h.1, (hw.cell (World.block_lt_of_cell? W _ h.2.1) hg).trans h.2.1, (hw.cell (World.block_lt_of_cell? W _ h.2.2) hg).trans h.2.2⟩
theorem wr5 (W : World) (g : Nat) (a b c d e : Value) : Wr g W (((((W.setCell ⟨g, 0, none⟩ a).setCell ⟨g, 1, none⟩ b).setCell ⟨g, 2, none⟩ c).setCell ⟨g, 3, none⟩ d).setCell ⟨g, 4, none⟩ e) := (((((Wr.refl g W).setCell 0 a).setCell 1 b).setCell 2 c).setCell 3 d).setCell 4 e
/-- What is cut off a whole number of more than 62 bits. -/
def vK (M : Int) : Nat := blen M - 62
theorem vK_small {M : Int} (h : 0 ≤ M) : 0 ≤ M / 2 ^ vK M ∧ M / 2 ^ vK M < 4611686018427387904 := by
  have hp := two_pos (vK M)
  refine ⟨Int.ediv_nonneg h (by omega), ?_⟩
  have h1 := blen_lt M
  have h2 : (2 : Int) ^ blen M ≤ 2 ^ (62 + vK M) := two_le (by unfold vK; omega)
  have e : (2 : Int) ^ (62 + vK M) = 4611686018427387904 * 2 ^ vK M := by rw [Int.pow_add]; rfl
  exact Int.ediv_lt_of_lt_mul hp (by omega)
theorem blen_nrm {a : Nat → Int} {n : Nat} (na : Nrm a n) : blen (val a n) ≤ 30 * n := by
  cases n with
  | zero => show blen 0 ≤ _; rw [blen_zero]; omega
  | succ m =>
    rw [blen_val na]
    have h : blen (a m) ≤ 30 := blen_le (by show a m < 1073741824; exact (na.1 m (by omega)).2)
    omega
set_option maxRecDepth 100000 in
set_option maxHeartbeats 2000000 in
theorem valueOf_any (ng : Bool) (ao : Option Addr) (n ca : Nat) (a : Nat → Int) (e : Int) (w : World) (ha : Row w ao n ca a) (na : Nrm a n) (hn : n ≤ 5000) (he : -1100000 ≤ e ∧ e ≤ 1100000) (hT : Tab w) :
    Calls Tryd.prog 76 #[.agg #[.bool ng, .slice ao n ca, .int .i64 e]] w fun r w' => r = .returned (valV ng (val a n / 2 ^ vK (val a n)).toNat (e + vK (val a n)) (decide (val a n % 2 ^ vK (val a n) ≠ 0)) false) ∧ Below w.heap.size w w' := by
  have hv0 := val_nonneg na.1
  have hbl : blen (val a n) ≤ 150000 := by have := blen_nrm na; omega
  have CB : Hid (∀ W, Below w.heap.size w W → _) := fun W hb => bitLength_any ao n ca a W (ha.keeps hb) na (by omega)
  obtain ⟨k, hk⟩ : ∃ k, vK (val a n) = k := ⟨_, rfl⟩
  have hsm := vK_small hv0
  rw [hk] at hsm ⊢
  have CS : Hid (∀ W, Below w.heap.size w W → Calls Tryd.prog 43 #[.slice ao n ca, .int .i64 (-(k : Int))] W fun e w' => ∃ v, e = .returned (.tuple #[v, .bool (decide (val a n % 2 ^ k ≠ 0))]) ∧ Ans W w' (val a n / 2 ^ k) v) := fun W hb => by
    by_cases h0 : k = 0
    · subst h0
      have h := scaled_zero ao n ca a W (ha.keeps hb) na hn
      simpa using h
    · have hp : 0 < val a n := by
        rcases Int.lt_or_eq_of_le hv0 with h | h
        · exact h
        · exfalso; rw [← h] at hk; apply h0; rw [← hk]; decide
      exact scaled_low ao n ca a k W (ha.keeps hb) na hn (by omega) (by unfold vK at hk; omega) hp (hT.keeps hb)
  have hbk : min (62 - (blen (val a n) : Int)) 0 = -(k : Int) := by unfold vK at hk; omega
  obtain ⟨B, hB⟩ : ∃ B : Int, (blen (val a n) : Int) = B := ⟨_, rfl⟩
  have hB0 : 0 ≤ B ∧ B ≤ 150000 := by omega
  rw [hB] at CB hbk
  have hk2 : k ≤ 150000 := by unfold vK at hk; omega
  generalize decide (val a n % 2 ^ k ≠ 0) = R at CS ⊢
  obtain ⟨Q, hQ⟩ : ∃ Q : Nat, val a n / 2 ^ k = (Q : Int) := Int.eq_ofNat_of_zero_le hsm.1
  rw [hQ] at CS hsm ⊢
  rw [Int.toNat_natCast]
  have CM : Hid (∀ (W' : World) so sn sc, Num W' (.slice so sn sc) (Q : Int) → Calls Tryd.prog 45 #[.slice so sn sc] W' fun e w' => e = .returned (.int .i64 (Q : Int)) ∧ w' = W') := fun W' so sn sc hA => by
    obtain ⟨ao', n', ca', d', hs, hR, hN, hV, hl⟩ := hA.parts (k := 3) (by rw [show P 3 = 1237940039285380274899124224 by decide]; omega)
    simp only [Value.slice.injEq] at hs
    obtain ⟨rfl, rfl, rfl⟩ := hs
    rw [← hV]
    exact small_any _ _ _ _ _ hR hN.1 hl (by omega)
  have w1 : IntKind.i64.wrap (62 - B) = 62 - B := by rw [wrap_i64_eq]; omega
  have w2 : IntKind.i64.wrap (e + k) = e + k := by rw [wrap_i64_eq]; omega
  have w3 : IntKind.u64.wrap (Q : Int) = (Q : Int) := by rw [IntKind.wrap_u64]; omega
  have hmin : ∀ (ts : Array TypeId) (t : TypeId) (x y : Int) (w : World), (Builtin.min_ ts t #[.int .i64 x, .int .i64 y]).run Tryd.prog w = .ok (.int .i64 (min x y)) w := fun ts t x y w => by rw [run_min_int2]; congr 2; omega
  have q0 := heap_a2 w (.cells #[.bool ng, .slice ao n ca, .int .i64 e] 47) (.cells #[.bool false, .int .u64 0, .int .i64 0, .bool false, .bool false] 40)
  have q1 := heap_b2 w (.cells #[.bool ng, .slice ao n ca, .int .i64 e] 47) (.cells #[.bool false, .int .u64 0, .int .i64 0, .bool false, .bool false] 40)
  have hb1 := bel_alloc2 w (.cells #[.bool ng, .slice ao n ca, .int .i64 e] 47) (.cells #[.bool false, .int .u64 0, .int .i64 0, .bool false, .bool false] 40)
  clear hQ hk hB hbl hv0 hsm hT
  unfold valV
  go_enter Tryd.func76, Tryd.ntmps76
  go_wp2_with fail
  generalize (w.alloc (.cells #[.bool ng, .slice ao n ca, .int .i64 e] 47)).alloc (.cells #[.bool false, .int .u64 0, .int .i64 0, .bool false, .bool false] 40) = wx at q0 q1 hb1 ⊢
  refine (CB.out _ hb1).mono ?_
  rintro _ _ ⟨rfl, rfl⟩
  have k1 := blkC q0 1 rfl
  go_wp2_with fail
  refine (CS.out _ hb1).mono ?_
  rintro _ w4 ⟨v, rfl, hA⟩
  have hb4 := hA.below
  obtain ⟨so, sn, sc, rfl⟩ := hA.num.shape
  have CM1 : Hid (Calls Tryd.prog 45 #[.slice so sn sc] w4.drew fun e w' => e = .returned (.int .i64 (Q : Int)) ∧ w' = w4.drew) := CM.out w4.drew so sn sc (hA.num.keeps (bel_refl w4).drew)
  have hbw := bel_trans hb1 hb4
  have p0 := (hb4.block _ (Array.getElem?_eq_some_iff.1 q0).1).trans q0
  have p1 := (hb4.block _ (Array.getElem?_eq_some_iff.1 q1).1).trans q1
  clear CB CS k1 hA CM
  have c0 := blkC p0 0 rfl
  have c2 := blkC p0 2 rfl
  have x0 := blkC p1 0 rfl
  have x1 := blkC p1 1 rfl
  have x2 := blkC p1 2 rfl
  have x3 := blkC p1 3 rfl
  have x4 := blkC p1 4 rfl
  have z0 := blkF p1 0
  have z1 := blkF p1 1
  have z2 := blkF p1 2
  have z3 := blkF p1 3
  have z4 := blkF p1 4
  go_wp2_with fail
  have c1 := blkC p0 1 rfl
  go_region_with (go_at_call 45; refine CM1.out.mono ?_; rintro _ _ ⟨rfl, rfl⟩)
  all_goals go_wp2
  all_goals refine bodyPost_ret (v := .agg #[.bool ng, .int .u64 Q, .int .i64 (e + k), .bool R, .bool false]) (by simp [results, Tryd.results76, go_sem, x0, x1, x2, x3, x4]) rfl ⟨rfl, ?_⟩
  all_goals exact ((wr5 w4 (w.heap.size + 1) _ _ _ _ _).below hbw hbw.size (Nat.le_succ _)).drew
end Go.Proofs.YteobbaefodckfaaDoor

/-
  Package round: itself, rounded, To, by their contracts.
-/
namespace Go.Proofs.YteobbaefodckfaaDoor
open Go Go.RowKit Go.Proofs.YteobbaefodckfaaDoor.M
set_option linter.unusedSimpArgs false
set_option linter.unusedVariables false

set_option maxRecDepth 100000 in
set_option maxHeartbeats 1000000 in
theorem rounded_ok (way : Int) (hw : 0 ≤ way ∧ way ≤ 3) (F G : Nat) (lo : Option Addr) (ln lc : Nat) (r : Nat → NumR) (w : World) (hl : Nums w lo ln lc r) (ok : ∀ i, i < ln → okR (r i) = true) (ng : Bool) (mag : Nat) (exp : Int) (cut sd : Bool) (b : Int) (o : Bool)
    (hEF : ∀ (cap : Array Value) (w : World), (callFunc F cap).run Tryd.prog w = .ok (.enter F cap) w) (hEG : ∀ (cap : Array Value) (w : World), (callFunc G cap).run Tryd.prog w = .ok (.enter G cap) w)
    (hG : ∀ W, Below w.heap.size w W → Calls Tryd.prog G #[.slice lo ln lc] W fun e w' => e = .returned (.tuple #[valV ng mag exp cut sd, .int .i64 0]) ∧ Below W.heap.size W w')
    (hF : ∀ W, Below w.heap.size w W → Calls Tryd.prog F #[valV ng mag exp cut sd, wayV way] W fun e w' => e = .returned (.tuple #[.int .i64 b, .bool o]) ∧ Below W.heap.size W w') :
    Calls Tryd.prog 28 #[.int .i64 way, .func (.func F) #[] #[], .func (.func G) #[] #[], .slice lo ln lc] w fun e w' => e = .returned (.tuple #[.int .i64 b, .bool o, .int .i64 0]) ∧ Below w.heap.size w w' := by
  have hst : ∀ (p : Addr) (F : Nat) (m : Mode) (w : World), (store p (.func (.func F) #[] #[]) m).run Tryd.prog w = stored Tryd.prog w p (.func (.func F) #[] #[]) m := fun p F m w => run_store _ w p _ m rfl
  have hle := hl.le
  have hma := hl.max
  unfold valV wayV at *
  have CW := wayOf_any way w
  rw [if_pos hw, decide_eq_true hw] at CW
  unfold wayV at CW
  generalize wayF way = K at *
  go_enter Tryd.func28, Tryd.ntmps28
  go_wp2_with fail
  refine CW.mono ?_
  rintro _ w1 ⟨rfl, hb1⟩
  have q1 := heap_alloc_new w1 (.cells #[.nilFunc] 34)
  have y0 := blkC q1 0 rfl
  have y1 := blkF q1 0
  go_wp2_with fail
  have q2 := heap_alloc_new w1 (.cells #[.func (.func K) #[] #[]] 34)
  have hb2 := bel_trans hb1 (bel_alloc w1 (.cells #[.func (.func K) #[] #[]] 34))
  generalize w1.alloc (.cells #[.func (.func K) #[] #[]] 34) = w2 at q2 hb2 ⊢
  clear q1 y0 y1 CW
  go_loopw [28] (fun iv wr => ∃ k : Nat, iv = .int .i64 k ∧ k ≤ ln ∧ Hid (wr.heap[w1.heap.size]? = some (.cells #[.func (.func K) #[] #[]] 34 (0, 0))) ∧ Below w.heap.size w wr) (fun iv _ => ln - (intOf iv).toNat)
  case atStart => exact ⟨0, rfl, Nat.zero_le _, q2, hb2⟩
  case round =>
    clear q2 hb2
    obtain ⟨k, rfl, hk, HQ, hbw⟩ := hrel
    by_cases hlt : k < ln
    · obtain ⟨ba, oa, rfl, hba, hca⟩ := hl.spot (by omega)
      obtain ⟨c0, c1, c2, hR⟩ := (hca k hlt).keeps hbw hba
      have hok := ok k hlt
      have CV := fun W (hb : Below wr.heap.size wr W) => dvalid_any (r k).ng (r k).ao (r k).n (r k).cap (r k).d (r k).e W (hR.keeps hb)
      unfold okR at hok
      rw [hok] at CV
      clear hok hR hca
      generalize r k = x at c0 c1 c2 CV
      obtain ⟨x_g, x_o, x_n, x_c, x_d, x_e⟩ := x
      simp only at c0 c1 c2 CV
      have hb3 := bel_alloc wr (.cells #[.bool x_g, .slice x_o x_n x_c, .int .i64 x_e] 47)
      have HQ3 : Hid ((wr.alloc (.cells #[.bool x_g, .slice x_o x_n x_c, .int .i64 x_e] 47)).heap[w1.heap.size]? = some (.cells #[.func (.func K) #[] #[]] 34 (0, 0))) := (hb3.block _ (Array.getElem?_eq_some_iff.1 HQ.out).1).trans HQ.out
      go_wp2_with fail
      refine (CV _ hb3).mono ?_
      rintro _ w4 ⟨rfl, hb4⟩
      have HQ4 : Hid (w4.heap[w1.heap.size]? = some (.cells #[.func (.func K) #[] #[]] 34 (0, 0))) := (hb4.block _ (Array.getElem?_eq_some_iff.1 HQ3.out).1).trans HQ3.out
      have hbw4 := hbw.trans ((bel_trans hb3 hb4).mono hbw.size)
      clear CV HQ3 hb3 hb4 c0 c1 c2
      go_wp2
      go_roundw
      case rel => exact ⟨k + 1, by go_num, by omega, HQ4.out, hbw4⟩
      case measure => simp [intOf]; omega
    · obtain rfl : k = ln := by omega
      go_wp2_with fail
      refine (hG _ hbw).mono ?_
      rintro _ w4 ⟨rfl, hb4⟩
      have p4 := (hb4.block _ (Array.getElem?_eq_some_iff.1 HQ.out).1).trans HQ.out
      have hbw4 := hbw.trans (hb4.mono hbw.size)
      have hb5 := bel_alloc w4 (.cells #[.bool ng, .int .u64 mag, .int .i64 exp, .bool cut, .bool sd] 40)
      have kw := cell_keeps (blkC p4 0 rfl) hb5
      have hbw5 := hbw4.trans (hb5.mono hbw4.size)
      clear hG hb4
      go_wp2_with fail
      refine (hF _ hbw5).mono ?_
      rintro _ w6 ⟨rfl, hb6⟩
      go_wp2
      all_goals refine bodyPost_ret (v := .tuple #[.int .i64 b, .bool o, .int .i64 0]) (by simp [results, Tryd.results28, go_sem]) rfl ⟨rfl, hbw5.trans (hb6.mono hbw5.size)⟩
end Go.Proofs.YteobbaefodckfaaDoor

/-
  Package round: quotient, Quot, by their contracts.
-/
namespace Go.Proofs.YteobbaefodckfaaDoor
open Go Go.RowKit Go.Proofs.YteobbaefodckfaaDoor.M
set_option linter.unusedSimpArgs false
set_option linter.unusedVariables false

set_option maxRecDepth 100000 in
set_option maxHeartbeats 1000000 in
theorem scaled_high (ao : Option Addr) (n ca : Nat) (a : Nat → Int) (k : Nat) (w : World) (ha : Row w ao n ca a) (na : Nrm a n) (hn : n ≤ 5000) (hk : k ≤ 1000000) :
    Calls Tryd.prog 43 #[.slice ao n ca, .int .i64 (k : Int)] w fun e w' => ∃ v, e = .returned (.tuple #[v, .bool false]) ∧ Ans w w' (val a n * 2 ^ k) v := by
  have CR : Hid (Calls Tryd.prog 61 #[.slice ao n ca, .int .i64 (k : Int)] w fun e w' => ∃ v, e = .returned v ∧ Ans w w' (val a n * 2 ^ k) v) := raise_any ao n ca k a w ha na.1 (by omega) hk
  generalize val a n * 2 ^ k = Q at CR ⊢
  go_enter Tryd.func43, Tryd.ntmps43
  go_wp2_with fail
  refine CR.out.mono ?_
  rintro _ w2 ⟨v, rfl, hA⟩
  have HA : Hid (Ans w w2 Q v) := hA
  obtain ⟨so, sn, sc, rfl⟩ := hA.num.shape
  clear hA CR
  go_wp2
  all_goals refine bodyPost_ret (v := .tuple #[.slice so sn sc, .bool false]) (by simp [results, Tryd.results43, go_sem]) rfl ⟨_, rfl, HA.out⟩
/-- A number times 2^k, as far as it is whole. -/
def scV (A k : Int) : Int := if 0 ≤ k then A * 2 ^ k.toNat else A / 2 ^ (-k).toNat
def scC (A k : Int) : Bool := if 0 ≤ k then false else decide (A % 2 ^ (-k).toNat ≠ 0)
theorem scaled_any (ao : Option Addr) (n ca : Nat) (a : Nat → Int) (k : Int) (w : World) (ha : Row w ao n ca a) (na : Nrm a n) (hn : n ≤ 5000) (hk : -1000000 ≤ k ∧ k ≤ 1000000) (h0 : k < 0 → 0 < val a n) (hT : Tab w) :
    Calls Tryd.prog 43 #[.slice ao n ca, .int .i64 k] w fun e w' => ∃ v, e = .returned (.tuple #[v, .bool (scC (val a n) k)]) ∧ Ans w w' (scV (val a n) k) v := by
  unfold scV scC
  by_cases h : 0 ≤ k
  · rw [if_pos h, if_pos h]
    have := scaled_high ao n ca a k.toNat w ha na hn (by omega)
    rwa [Int.toNat_of_nonneg h] at this
  · rw [if_neg h, if_neg h]
    have := scaled_low ao n ca a (-k).toNat w ha na hn (by omega) (by omega) (h0 (by omega)) hT
    rwa [Int.toNat_of_nonneg (by omega), Int.neg_neg] at this
theorem num_len0 {w : World} {so : Option Addr} {sn sc : Nat} {M : Int} (h : Num w (.slice so sn sc) M) : decide (M ≠ 0) = decide ((0 : Int) < (sn : Int)) := by
  obtain ⟨ao, n, ca, d, hs, hR, hN, hV⟩ := h
  simp only [Value.slice.injEq] at hs
  obtain ⟨rfl, rfl, rfl⟩ := hs
  by_cases h0 : sn = 0
  · subst h0
    rw [← hV]
    rfl
  · have := val_pos hN (by omega)
    rw [decide_eq_true (by omega), decide_eq_true (by omega)]
/-- The bits that a quotient's dividend is brought to. -/
def qK (A B : Int) : Int := 62 + (blen B : Int) - (blen A : Int)
theorem qK_small {A B : Int} (hA : 0 ≤ A) (hB : 0 < B) : 0 ≤ scV A (qK A B) ∧ scV A (qK A B) < B * 9223372036854775808 ∧ 0 ≤ scV A (qK A B) / B ∧ scV A (qK A B) / B < 9223372036854775808 := by
  have b1 := blen_lt A
  have b2 := blen_pos hB
  have hs : 0 ≤ scV A (qK A B) ∧ scV A (qK A B) < 2 ^ (62 + blen B) := by
    unfold scV qK
    by_cases h : 0 ≤ 62 + (blen B : Int) - (blen A : Int)
    · rw [if_pos h]
      have hp := two_pos (62 + (blen B : Int) - (blen A : Int)).toNat
      refine ⟨Int.mul_nonneg hA (by omega), ?_⟩
      have e : (2 : Int) ^ (62 + blen B) = 2 ^ blen A * 2 ^ (62 + (blen B : Int) - (blen A : Int)).toNat := by rw [← Int.pow_add]; congr 1; omega
      rw [e]
      exact Int.mul_lt_mul_of_pos_right b1 hp
    · rw [if_neg h]
      have hp := two_pos (-(62 + (blen B : Int) - (blen A : Int))).toNat
      refine ⟨Int.ediv_nonneg hA (by omega), ?_⟩
      apply Int.ediv_lt_of_lt_mul hp
      rw [← Int.pow_add]
      rw [show 62 + blen B + (-(62 + (blen B : Int) - (blen A : Int))).toNat = blen A by omega]
      exact b1
  have e2 : (2 : Int) ^ (62 + blen B) = 2 ^ (blen B - 1) * 9223372036854775808 := by
    rw [show (9223372036854775808 : Int) = 2 ^ 63 by decide, ← Int.pow_add]; congr 1; omega
  have h3 : (2 : Int) ^ (blen B - 1) * 9223372036854775808 ≤ B * 9223372036854775808 := Int.mul_le_mul_of_nonneg_right b2.2 (by decide)
  refine ⟨hs.1, by omega, Int.ediv_nonneg hs.1 (by omega), ?_⟩
  apply Int.ediv_lt_of_lt_mul hB
  rw [Int.mul_comm]
  omega
theorem cells4_set {a b g o : Nat} {v : Value} {x0 x1 x2 x3 : Value} {W : World} (ha : a ≠ g) (hb : b ≠ g) (h : W.cell? ⟨a, 0, none⟩ = some x0 ∧ W.cell? ⟨a, 2, none⟩ = some x1 ∧ W.cell? ⟨b, 0, none⟩ = some x2 ∧ W.cell? ⟨b, 2, none⟩ = some x3) :
    (W.setCell ⟨g, o, none⟩ v).cell? ⟨a, 0, none⟩ = some x0 ∧ (W.setCell ⟨g, o, none⟩ v).cell? ⟨a, 2, none⟩ = some x1 ∧ (W.setCell ⟨g, o, none⟩ v).cell? ⟨b, 0, none⟩ = some x2 ∧ (W.setCell ⟨g, o, none⟩ v).cell? ⟨b, 2, none⟩ = some x3 := by
  have hw : Wr g W (W.setCell ⟨g, o, none⟩ v) := (Wr.refl g W).setCell o v
  obtain ⟨a0, a1, a2, a3⟩ := h
  exact ⟨(hw.cell (World.block_lt_of_cell? W _ a0) ha).trans a0, (hw.cell (World.block_lt_of_cell? W _ a1) ha).trans a1, (hw.cell (World.block_lt_of_cell? W _ a2) hb).trans a2, (hw.cell (World.block_lt_of_cell? W _ a3) hb).trans a3⟩
theorem cells4_drew {a b : Nat} {x0 x1 x2 x3 : Value} {W : World} (h : W.cell? ⟨a, 0, none⟩ = some x0 ∧ W.cell? ⟨a, 2, none⟩ = some x1 ∧ W.cell? ⟨b, 0, none⟩ = some x2 ∧ W.cell? ⟨b, 2, none⟩ = some x3) :
    W.drew.cell? ⟨a, 0, none⟩ = some x0 ∧ W.drew.cell? ⟨a, 2, none⟩ = some x1 ∧ W.drew.cell? ⟨b, 0, none⟩ = some x2 ∧ W.drew.cell? ⟨b, 2, none⟩ = some x3 := h
theorem cells6_alloc {p B : Nat} {x0 x1 x2 x3 x4 x5 : Value} {W : World} (o : Obj) (h : p < B ∧ B ≤ W.heap.size ∧ W.cell? ⟨p, 0, none⟩ = some x0 ∧ W.cell? ⟨p, 1, none⟩ = some x1 ∧ W.cell? ⟨p, 2, none⟩ = some x2 ∧ W.cell? ⟨p, 3, none⟩ = some x3 ∧ W.cell? ⟨p, 4, none⟩ = some x4 ∧ W.cell? ⟨p, 5, none⟩ = some x5) :
    p < B ∧ B ≤ (W.alloc o).heap.size ∧ (W.alloc o).cell? ⟨p, 0, none⟩ = some x0 ∧ (W.alloc o).cell? ⟨p, 1, none⟩ = some x1 ∧ (W.alloc o).cell? ⟨p, 2, none⟩ = some x2 ∧ (W.alloc o).cell? ⟨p, 3, none⟩ = some x3 ∧ (W.alloc o).cell? ⟨p, 4, none⟩ = some x4 ∧ (W.alloc o).cell? ⟨p, 5, none⟩ = some x5 := by
  have hb := bel_alloc W o
  obtain ⟨h1, h2, a0, a1, a2, a3, a4, a5⟩ := h
  exact ⟨h1, Nat.le_trans h2 hb.size, cell_keeps a0 hb, cell_keeps a1 hb, cell_keeps a2 hb, cell_keeps a3 hb, cell_keeps a4 hb, cell_keeps a5 hb⟩
theorem cells6_set {p B g o : Nat} {v : Value} {x0 x1 x2 x3 x4 x5 : Value} {W : World} (hg : B ≤ g) (h : p < B ∧ B ≤ W.heap.size ∧ W.cell? ⟨p, 0, none⟩ = some x0 ∧ W.cell? ⟨p, 1, none⟩ = some x1 ∧ W.cell? ⟨p, 2, none⟩ = some x2 ∧ W.cell? ⟨p, 3, none⟩ = some x3 ∧ W.cell? ⟨p, 4, none⟩ = some x4 ∧ W.cell? ⟨p, 5, none⟩ = some x5) :
    p < B ∧ B ≤ (W.setCell ⟨g, o, none⟩ v).heap.size ∧ (W.setCell ⟨g, o, none⟩ v).cell? ⟨p, 0, none⟩ = some x0 ∧ (W.setCell ⟨g, o, none⟩ v).cell? ⟨p, 1, none⟩ = some x1 ∧ (W.setCell ⟨g, o, none⟩ v).cell? ⟨p, 2, none⟩ = some x2 ∧ (W.setCell ⟨g, o, none⟩ v).cell? ⟨p, 3, none⟩ = some x3 ∧ (W.setCell ⟨g, o, none⟩ v).cell? ⟨p, 4, none⟩ = some x4 ∧ (W.setCell ⟨g, o, none⟩ v).cell? ⟨p, 5, none⟩ = some x5 := by
  have hw : Wr g W (W.setCell ⟨g, o, none⟩ v) := (Wr.refl g W).setCell o v
  obtain ⟨h1, h2, a0, a1, a2, a3, a4, a5⟩ := h
  have hp : p < W.heap.size := by omega
  have hne : p ≠ g := by omega
  exact ⟨h1, Nat.le_trans h2 hw.size, (hw.cell hp hne).trans a0, (hw.cell hp hne).trans a1, (hw.cell hp hne).trans a2, (hw.cell hp hne).trans a3, (hw.cell hp hne).trans a4, (hw.cell hp hne).trans a5⟩
end Go.Proofs.YteobbaefodckfaaDoor
