/-
  Parts of the proof, one behind another.
-/
import Derived.Test.YtmjdlcbiaglkeaaDoorPart7
import Derived.Test.YtmjdlcbiaglkeaaDoorPart6
import Derived.Deep.RegionWith
import Derived.Test.YtmjdlcbiaglkeaaDoorPart2
import Derived.Deep.RegionHeld3
import Derived.Test.YtmjdlcbiaglkeaaDoorPart5
import Derived.Test.YtmjdlcbiaglkeaaDoorPart3
import Derived.Deep.AppendLies
import Derived.Deep.RegionLaw
/-
  Package round: scaled, valueOf, by their contracts.
-/
namespace Go.Proofs.YtmjdlcbiaglkeaaDoor
open Go Go.RowKit Go.Proofs.YtmjdlcbiaglkeaaDoor.M
set_option linter.unusedSimpArgs false
set_option linter.unusedVariables false

theorem low_mod {V l : Int} (h : LowA V l) (h0 : 0 < V) (k : Nat) : decide (l < (k : Int)) = decide (V % 2 ^ k ≠ 0) := by
  obtain ⟨j, rfl, q, hq⟩ := lowA_pos h h0
  by_cases hjk : j < k
  · rw [decide_eq_true (by omega)]
    refine (decide_eq_true ?_).symm
    intro hz
    obtain ⟨d, hd⟩ : ∃ d, k = j + 1 + d := ⟨k - j - 1, by omega⟩
    have h1 : (2 : Int) ^ k ∣ V := Int.dvd_of_emod_eq_zero hz
    obtain ⟨c, hc⟩ := h1
    rw [hq, hd, Int.pow_add, Int.pow_succ] at hc
    have hp := two_pos j
    have e : (2 : Int) ^ j * (2 * q + 1) = 2 ^ j * (2 * (2 ^ d * c)) := by
      rw [Int.mul_comm, hc]
      simp only [Int.mul_assoc]
    have := Int.eq_of_mul_eq_mul_left (by omega) e
    omega
  · rw [decide_eq_false (by omega)]
    refine (decide_eq_false ?_).symm
    intro hz
    apply hz
    obtain ⟨d, hd⟩ : ∃ d, j = k + d := ⟨j - k, by omega⟩
    rw [hq, hd, Int.pow_add, Int.mul_comm, Int.mul_assoc]
    exact Int.mul_emod_right _ _
set_option maxRecDepth 100000 in
set_option maxHeartbeats 1000000 in
theorem scaled_low (ao : Option Addr) (n ca : Nat) (a : Nat → Int) (k : Nat) (w : World) (ha : Row w ao n ca a) (na : Nrm a n) (hn : n ≤ 5000) (hk0 : 0 < k) (hk : k ≤ 1000000) (h0 : 0 < val a n) (hT : Tab w) :
    Calls Tryd.prog 66 #[.slice ao n ca, .int .i64 (-(k : Int))] w fun e w' => ∃ v, e = .returned (.tuple #[v, .bool (decide (val a n % 2 ^ k ≠ 0))]) ∧ Ans w w' (val a n / 2 ^ k) v := by
  have CL : Hid (∀ W, Below w.heap.size w W → _) := fun W hb => lower_any ao n ca k a W (ha.keeps hb) na.1 (by omega) (by omega)
  have CW : Hid (∀ W, Below w.heap.size w W → _) := fun W hb => lowest_any ao n ca a W (ha.keeps hb) na.1 (by omega) (hT.keeps hb)
  have HM : Hid (∀ l, LowA (val a n) l → decide (l < (k : Int)) = decide (val a n % 2 ^ k ≠ 0)) := fun l h => low_mod h h0 k
  generalize decide (val a n % 2 ^ k ≠ 0) = R at HM ⊢
  generalize val a n / 2 ^ k = Q at CL ⊢
  have w1 : IntKind.i64.wrap (k : Int) = (k : Int) := by rw [wrap_i64_eq]; omega
  go_enter Tryd.func66, Tryd.ntmps66
  go_wp2_with fail
  refine (CL.out _ (bel_refl _)).mono ?_
  rintro _ w2 ⟨v, rfl, hA⟩
  have hb2 := hA.below
  have HA : Hid (Ans w w2 Q v) := hA
  obtain ⟨so, sn, sc, rfl⟩ := hA.num.shape
  clear hA CL
  go_wp2_with fail
  refine (CW.out _ hb2).mono ?_
  rintro _ w3 ⟨l, rfl, hl, rfl⟩
  have hr := HM.out l hl
  go_wp2
  all_goals refine bodyPost_ret (v := .tuple #[.slice so sn sc, .bool R]) (by simp [results, Tryd.results66, go_sem]) rfl ⟨_, rfl, HA.out⟩
set_option maxRecDepth 100000 in
set_option maxHeartbeats 1000000 in
theorem scaled_zero (ao : Option Addr) (n ca : Nat) (a : Nat → Int) (w : World) (ha : Row w ao n ca a) (na : Nrm a n) (hn : n ≤ 5000) :
    Calls Tryd.prog 66 #[.slice ao n ca, .int .i64 0] w fun e w' => ∃ v, e = .returned (.tuple #[v, .bool false]) ∧ Ans w w' (val a n) v := by
  have CR : Hid (Calls Tryd.prog 75 #[.slice ao n ca, .int .i64 0] w fun e w' => ∃ v, e = .returned v ∧ Ans w w' (val a n) v) := by
    have h := raise_any ao n ca 0 a w ha na.1 (by omega) (by omega)
    rw [Int.pow_zero, Int.mul_one] at h
    exact h
  go_enter Tryd.func66, Tryd.ntmps66
  go_wp2_with fail
  refine CR.out.mono ?_
  rintro _ w2 ⟨v, rfl, hA⟩
  have HA : Hid (Ans w w2 (val a n) v) := hA
  obtain ⟨so, sn, sc, rfl⟩ := hA.num.shape
  clear hA CR
  go_wp2
  all_goals refine bodyPost_ret (v := .tuple #[.slice so sn sc, .bool false]) (by simp [results, Tryd.results66, go_sem]) rfl ⟨_, rfl, HA.out⟩
theorem keep3R {W w' : World} {b g o0 o1 o2 : Nat} {x y z : Value} (h : W.cell? ⟨b, o0, none⟩ = some x ∧ W.cell? ⟨b, o1, none⟩ = some y ∧ W.cell? ⟨b, o2, none⟩ = some z) (hw : Wr g W w') (hg : b ≠ g) :
    w'.cell? ⟨b, o0, none⟩ = some x ∧ w'.cell? ⟨b, o1, none⟩ = some y ∧ w'.cell? ⟨b, o2, none⟩ = some z :=
  ⟨(hw.cell (World.block_lt_of_cell? W _ h.1) hg).trans h.1, (hw.cell (World.block_lt_of_cell? W _ h.2.1) hg).trans h.2.1, (hw.cell (World.block_lt_of_cell? W _ h.2.2) hg).trans h.2.2⟩
theorem wr5 (W : World) (g : Nat) (a b c d e : Value) : Wr g W (((((W.setCell ⟨g, 0, none⟩ a).setCell ⟨g, 1, none⟩ b).setCell ⟨g, 2, none⟩ c).setCell ⟨g, 3, none⟩ d).setCell ⟨g, 4, none⟩ e) := (((((Wr.refl g W).setCell 0 a).setCell 1 b).setCell 2 c).setCell 3 d).setCell 4 e
/-- What is cut off a whole number of more than 62 bits. -/
def vK (M : Int) : Nat := blen M - 62
theorem vK_small {M : Int} (h : 0 ≤ M) : 0 ≤ M / 2 ^ vK M ∧ M / 2 ^ vK M < 4611686018427387904 := by
  have hp := two_pos (vK M)
  refine ⟨Int.ediv_nonneg h (by omega), ?_⟩
  have h1 := blen_lt M
  have h2 : (2 : Int) ^ blen M ≤ 2 ^ (62 + vK M) := two_le (by unfold vK; omega)
  have e : (2 : Int) ^ (62 + vK M) = 4611686018427387904 * 2 ^ vK M := by rw [Int.pow_add]; rfl
  exact Int.ediv_lt_of_lt_mul hp (by omega)
theorem blen_nrm {a : Nat → Int} {n : Nat} (na : Nrm a n) : blen (val a n) ≤ 30 * n := by
  cases n with
  | zero => show blen 0 ≤ _; rw [blen_zero]; omega
  | succ m =>
    rw [blen_val na]
    have h : blen (a m) ≤ 30 := blen_le (by show a m < 1073741824; exact (na.1 m (by omega)).2)
    omega
set_option maxRecDepth 100000 in
set_option maxHeartbeats 2000000 in
theorem valueOf_any (ng : Bool) (ao : Option Addr) (n ca : Nat) (a : Nat → Int) (e : Int) (w : World) (ha : Row w ao n ca a) (na : Nrm a n) (hn : n ≤ 5000) (he : -1100000 ≤ e ∧ e ≤ 1100000) (hT : Tab w) :
    Calls Tryd.prog 53 #[.agg #[.bool ng, .slice ao n ca, .int .i64 e]] w fun r w' => r = .returned (valV ng (val a n / 2 ^ vK (val a n)).toNat (e + vK (val a n)) (decide (val a n % 2 ^ vK (val a n) ≠ 0)) false) ∧ Below w.heap.size w w' := by
  have hv0 := val_nonneg na.1
  have hbl : blen (val a n) ≤ 150000 := by have := blen_nrm na; omega
  have CB : Hid (∀ W, Below w.heap.size w W → _) := fun W hb => bitLength_any ao n ca a W (ha.keeps hb) na (by omega)
  obtain ⟨k, hk⟩ : ∃ k, vK (val a n) = k := ⟨_, rfl⟩
  have hsm := vK_small hv0
  rw [hk] at hsm ⊢
  have CS : Hid (∀ W, Below w.heap.size w W → Calls Tryd.prog 66 #[.slice ao n ca, .int .i64 (-(k : Int))] W fun e w' => ∃ v, e = .returned (.tuple #[v, .bool (decide (val a n % 2 ^ k ≠ 0))]) ∧ Ans W w' (val a n / 2 ^ k) v) := fun W hb => by
    by_cases h0 : k = 0
    · subst h0
      have h := scaled_zero ao n ca a W (ha.keeps hb) na hn
      simpa using h
    · have hp : 0 < val a n := by
        rcases Int.lt_or_eq_of_le hv0 with h | h
        · exact h
        · exfalso; rw [← h] at hk; apply h0; rw [← hk]; decide
      exact scaled_low ao n ca a k W (ha.keeps hb) na hn (by omega) (by unfold vK at hk; omega) hp (hT.keeps hb)
  have hbk : min (62 - (blen (val a n) : Int)) 0 = -(k : Int) := by unfold vK at hk; omega
  obtain ⟨B, hB⟩ : ∃ B : Int, (blen (val a n) : Int) = B := ⟨_, rfl⟩
  have hB0 : 0 ≤ B ∧ B ≤ 150000 := by omega
  rw [hB] at CB hbk
  have hk2 : k ≤ 150000 := by unfold vK at hk; omega
  generalize decide (val a n % 2 ^ k ≠ 0) = R at CS ⊢
  obtain ⟨Q, hQ⟩ : ∃ Q : Nat, val a n / 2 ^ k = (Q : Int) := Int.eq_ofNat_of_zero_le hsm.1
  rw [hQ] at CS hsm ⊢
  rw [Int.toNat_natCast]
  have CM : Hid (∀ (W' : World) so sn sc, Num W' (.slice so sn sc) (Q : Int) → Calls Tryd.prog 67 #[.slice so sn sc] W' fun e w' => e = .returned (.int .i64 (Q : Int)) ∧ w' = W') := fun W' so sn sc hA => by
    obtain ⟨ao', n', ca', d', hs, hR, hN, hV, hl⟩ := hA.parts (k := 3) (by rw [show P 3 = 1237940039285380274899124224 by decide]; omega)
    simp only [Value.slice.injEq] at hs
    obtain ⟨rfl, rfl, rfl⟩ := hs
    rw [← hV]
    exact small_any _ _ _ _ _ hR hN.1 hl (by omega)
  have w1 : IntKind.i64.wrap (62 - B) = 62 - B := by rw [wrap_i64_eq]; omega
  have w2 : IntKind.i64.wrap (e + k) = e + k := by rw [wrap_i64_eq]; omega
  have w3 : IntKind.u64.wrap (Q : Int) = (Q : Int) := by rw [IntKind.wrap_u64]; omega
  have hmin : ∀ (ts : Array TypeId) (t : TypeId) (x y : Int) (w : World), (Builtin.min_ ts t #[.int .i64 x, .int .i64 y]).run Tryd.prog w = .ok (.int .i64 (min x y)) w := fun ts t x y w => by rw [run_min_int2]; congr 2; omega
  have q0 := heap_a2 w (.cells #[.bool ng, .slice ao n ca, .int .i64 e] 26) (.cells #[.bool false, .int .u64 0, .int .i64 0, .bool false, .bool false] 82)
  have q1 := heap_b2 w (.cells #[.bool ng, .slice ao n ca, .int .i64 e] 26) (.cells #[.bool false, .int .u64 0, .int .i64 0, .bool false, .bool false] 82)
  have hb1 := bel_alloc2 w (.cells #[.bool ng, .slice ao n ca, .int .i64 e] 26) (.cells #[.bool false, .int .u64 0, .int .i64 0, .bool false, .bool false] 82)
  clear hQ hk hB hbl hv0 hsm hT
  unfold valV
  go_enter Tryd.func53, Tryd.ntmps53
  go_wp2_with fail
  generalize (w.alloc (.cells #[.bool ng, .slice ao n ca, .int .i64 e] 26)).alloc (.cells #[.bool false, .int .u64 0, .int .i64 0, .bool false, .bool false] 82) = wx at q0 q1 hb1 ⊢
  refine (CB.out _ hb1).mono ?_
  rintro _ _ ⟨rfl, rfl⟩
  have k1 := blkC q0 1 rfl
  go_wp2_with fail
  refine (CS.out _ hb1).mono ?_
  rintro _ w4 ⟨v, rfl, hA⟩
  have hb4 := hA.below
  obtain ⟨so, sn, sc, rfl⟩ := hA.num.shape
  have CM1 : Hid (Calls Tryd.prog 67 #[.slice so sn sc] w4.drew fun e w' => e = .returned (.int .i64 (Q : Int)) ∧ w' = w4.drew) := CM.out w4.drew so sn sc (hA.num.keeps (bel_refl w4).drew)
  have hbw := bel_trans hb1 hb4
  have p0 := (hb4.block _ (Array.getElem?_eq_some_iff.1 q0).1).trans q0
  have p1 := (hb4.block _ (Array.getElem?_eq_some_iff.1 q1).1).trans q1
  clear CB CS k1 hA CM
  have c0 := blkC p0 0 rfl
  have c2 := blkC p0 2 rfl
  have x0 := blkC p1 0 rfl
  have x1 := blkC p1 1 rfl
  have x2 := blkC p1 2 rfl
  have x3 := blkC p1 3 rfl
  have x4 := blkC p1 4 rfl
  have z0 := blkF p1 0
  have z1 := blkF p1 1
  have z2 := blkF p1 2
  have z3 := blkF p1 3
  have z4 := blkF p1 4
  go_wp2_with fail
  have c1 := blkC p0 1 rfl
  go_region_with (go_at_call 67; refine CM1.out.mono ?_; rintro _ _ ⟨rfl, rfl⟩)
  all_goals go_wp2
  all_goals refine bodyPost_ret (v := .agg #[.bool ng, .int .u64 Q, .int .i64 (e + k), .bool R, .bool false]) (by simp [results, Tryd.results53, go_sem, x0, x1, x2, x3, x4]) rfl ⟨rfl, ?_⟩
  all_goals exact ((wr5 w4 (w.heap.size + 1) _ _ _ _ _).below hbw hbw.size (Nat.le_succ _)).drew
end Go.Proofs.YtmjdlcbiaglkeaaDoor

/-
  Package round: itself, rounded, To, by their contracts.
-/
namespace Go.Proofs.YtmjdlcbiaglkeaaDoor
open Go Go.RowKit Go.Proofs.YtmjdlcbiaglkeaaDoor.M
set_option linter.unusedSimpArgs false
set_option linter.unusedVariables false

set_option maxRecDepth 100000 in
set_option maxHeartbeats 1000000 in
/-- One number, as it is. -/
theorem itself_any (p : Nat) (off cap len : Nat) (ng : Bool) (ao : Option Addr) (n ca : Nat) (a : Nat → Int) (e : Int) (w : World) (c0 : w.cell? ⟨p, off, none⟩ = some (.bool ng)) (c1 : w.cell? ⟨p, off + 1, none⟩ = some (.slice ao n ca)) (c2 : w.cell? ⟨p, off + 2, none⟩ = some (.int .i64 e)) (hl : 0 < len) (ha : Row w ao n ca a) (na : Nrm a n) (hn : n ≤ 5000) (he : -1100000 ≤ e ∧ e ≤ 1100000) (hT : Tab w) :
    Calls Tryd.prog 43 #[.slice (some ⟨p, off, none⟩) len cap] w fun r w' => r = .returned (.tuple #[valV ng (val a n / 2 ^ vK (val a n)).toNat (e + vK (val a n)) (decide (val a n % 2 ^ vK (val a n) ≠ 0)) false, .int .i64 0]) ∧ Below w.heap.size w w' := by
  have CV : Hid (∀ W, Below w.heap.size w W → _) := fun W hb => valueOf_any ng ao n ca a e W (ha.keeps hb) na hn he (hT.keeps hb)
  unfold valV at *
  generalize (val a n / 2 ^ vK (val a n)).toNat = Q at CV ⊢
  generalize e + vK (val a n) = E at CV ⊢
  generalize decide (val a n % 2 ^ vK (val a n) ≠ 0) = R at CV ⊢
  have q0 := heap_alloc_new w (.cells #[.bool false, .int .u64 0, .int .i64 0, .bool false, .bool false] 82)
  have hb1 := bel_alloc w (.cells #[.bool false, .int .u64 0, .int .i64 0, .bool false, .bool false] 82)
  have d0 := cell_keeps c0 hb1
  have d1 := cell_keeps c1 hb1
  have d2 := cell_keeps c2 hb1
  go_enter Tryd.func43, Tryd.ntmps43
  go_wp2_with fail
  refine (CV.out _ hb1).mono ?_
  rintro _ w2 ⟨rfl, hb2⟩
  have p1 := (hb2.block _ (Array.getElem?_eq_some_iff.1 q0).1).trans q0
  have hbw := bel_trans hb1 hb2
  clear d0 d1 d2 c0 c1 c2 CV
  have x0 := blkC p1 0 rfl
  have x1 := blkC p1 1 rfl
  have x2 := blkC p1 2 rfl
  have x3 := blkC p1 3 rfl
  have x4 := blkC p1 4 rfl
  have z0 := blkF p1 0
  have z1 := blkF p1 1
  have z2 := blkF p1 2
  have z3 := blkF p1 3
  have z4 := blkF p1 4
  go_wp2
  all_goals refine bodyPost_ret (v := .tuple #[.agg #[.bool ng, .int .u64 Q, .int .i64 E, .bool R, .bool false], .int .i64 0]) (by simp [results, Tryd.results43, go_sem, x0, x1, x2, x3, x4]) rfl ⟨rfl, ?_⟩
  all_goals exact (wr5 w2 w.heap.size _ _ _ _ _).below hbw hbw.size (Nat.le_refl _)
set_option maxRecDepth 100000 in
set_option maxHeartbeats 1000000 in
theorem rounded_ok (way : Int) (hw : 0 ≤ way ∧ way ≤ 3) (F G : Nat) (lo : Option Addr) (ln lc : Nat) (r : Nat → NumR) (w : World) (hl : Nums w lo ln lc r) (ok : ∀ i, i < ln → okR (r i) = true) (ng : Bool) (mag : Nat) (exp : Int) (cut sd : Bool) (b : Int) (o : Bool)
    (hEF : ∀ (cap : Array Value) (w : World), (callFunc F cap).run Tryd.prog w = .ok (.enter F cap) w) (hEG : ∀ (cap : Array Value) (w : World), (callFunc G cap).run Tryd.prog w = .ok (.enter G cap) w)
    (hG : ∀ W, Below w.heap.size w W → Calls Tryd.prog G #[.slice lo ln lc] W fun e w' => e = .returned (.tuple #[valV ng mag exp cut sd, .int .i64 0]) ∧ Below W.heap.size W w')
    (hF : ∀ W, Below w.heap.size w W → Calls Tryd.prog F #[valV ng mag exp cut sd, wayV way] W fun e w' => e = .returned (.tuple #[.int .i64 b, .bool o]) ∧ Below W.heap.size W w') :
    Calls Tryd.prog 41 #[.int .i64 way, .func (.func F) #[] #[], .func (.func G) #[] #[], .slice lo ln lc] w fun e w' => e = .returned (.tuple #[.int .i64 b, .bool o, .int .i64 0]) ∧ Below w.heap.size w w' := by
  have hst : ∀ (p : Addr) (F : Nat) (m : Mode) (w : World), (store p (.func (.func F) #[] #[]) m).run Tryd.prog w = stored Tryd.prog w p (.func (.func F) #[] #[]) m := fun p F m w => run_store _ w p _ m rfl
  have hle := hl.le
  have hma := hl.max
  unfold valV wayV at *
  have CW := wayOf_any way w
  rw [if_pos hw, decide_eq_true hw] at CW
  unfold wayV at CW
  generalize wayF way = K at *
  go_enter Tryd.func41, Tryd.ntmps41
  go_wp2_with fail
  refine CW.mono ?_
  rintro _ w1 ⟨rfl, hb1⟩
  have q1 := heap_alloc_new w1 (.cells #[.nilFunc] 89)
  have y0 := blkC q1 0 rfl
  have y1 := blkF q1 0
  go_wp2_with fail
  have q2 := heap_alloc_new w1 (.cells #[.func (.func K) #[] #[]] 89)
  have hb2 := bel_trans hb1 (bel_alloc w1 (.cells #[.func (.func K) #[] #[]] 89))
  generalize w1.alloc (.cells #[.func (.func K) #[] #[]] 89) = w2 at q2 hb2 ⊢
  clear q1 y0 y1 CW
  go_loopw [28] (fun iv wr => ∃ k : Nat, iv = .int .i64 k ∧ k ≤ ln ∧ Hid (wr.heap[w1.heap.size]? = some (.cells #[.func (.func K) #[] #[]] 89 (0, 0))) ∧ Below w.heap.size w wr) (fun iv _ => ln - (intOf iv).toNat)
  case atStart => exact ⟨0, rfl, Nat.zero_le _, q2, hb2⟩
  case round =>
    clear q2 hb2
    obtain ⟨k, rfl, hk, HQ, hbw⟩ := hrel
    by_cases hlt : k < ln
    · obtain ⟨ba, oa, rfl, hba, hca⟩ := hl.spot (by omega)
      obtain ⟨c0, c1, c2, hR⟩ := (hca k hlt).keeps hbw hba
      have hok := ok k hlt
      have CV := fun W (hb : Below wr.heap.size wr W) => dvalid_any (r k).ng (r k).ao (r k).n (r k).cap (r k).d (r k).e W (hR.keeps hb)
      unfold okR at hok
      rw [hok] at CV
      clear hok hR hca
      generalize r k = x at c0 c1 c2 CV
      obtain ⟨x_g, x_o, x_n, x_c, x_d, x_e⟩ := x
      simp only at c0 c1 c2 CV
      have hb3 := bel_alloc wr (.cells #[.bool x_g, .slice x_o x_n x_c, .int .i64 x_e] 26)
      have HQ3 : Hid ((wr.alloc (.cells #[.bool x_g, .slice x_o x_n x_c, .int .i64 x_e] 26)).heap[w1.heap.size]? = some (.cells #[.func (.func K) #[] #[]] 89 (0, 0))) := (hb3.block _ (Array.getElem?_eq_some_iff.1 HQ.out).1).trans HQ.out
      go_wp2_with fail
      refine (CV _ hb3).mono ?_
      rintro _ w4 ⟨rfl, hb4⟩
      have HQ4 : Hid (w4.heap[w1.heap.size]? = some (.cells #[.func (.func K) #[] #[]] 89 (0, 0))) := (hb4.block _ (Array.getElem?_eq_some_iff.1 HQ3.out).1).trans HQ3.out
      have hbw4 := hbw.trans ((bel_trans hb3 hb4).mono hbw.size)
      clear CV HQ3 hb3 hb4 c0 c1 c2
      go_wp2
      go_roundw
      case rel => exact ⟨k + 1, by go_num, by omega, HQ4.out, hbw4⟩
      case measure => simp [intOf]; omega
    · obtain rfl : k = ln := by omega
      go_wp2_with fail
      refine (hG _ hbw).mono ?_
      rintro _ w4 ⟨rfl, hb4⟩
      have p4 := (hb4.block _ (Array.getElem?_eq_some_iff.1 HQ.out).1).trans HQ.out
      have hbw4 := hbw.trans (hb4.mono hbw.size)
      have hb5 := bel_alloc w4 (.cells #[.bool ng, .int .u64 mag, .int .i64 exp, .bool cut, .bool sd] 82)
      have kw := cell_keeps (blkC p4 0 rfl) hb5
      have hbw5 := hbw4.trans (hb5.mono hbw4.size)
      clear hG hb4
      go_wp2_with fail
      refine (hF _ hbw5).mono ?_
      rintro _ w6 ⟨rfl, hb6⟩
      go_wp2
      all_goals refine bodyPost_ret (v := .tuple #[.int .i64 b, .bool o, .int .i64 0]) (by simp [results, Tryd.results41, go_sem]) rfl ⟨rfl, hbw5.trans (hb6.mono hbw5.size)⟩
set_option maxRecDepth 100000 in
set_option maxHeartbeats 1000000 in
theorem to_ok (way : Int) (hw : 0 ≤ way ∧ way ≤ 3) (x : NumR) (w : World) (hx : Row w x.ao x.n x.cap x.d) (ok : okR x = true) (Ev : Env w) (hT : Tab w) :
    Calls Tryd.prog 29 #[x.v, .int .i64 way] w fun e w' => e = .returned (.tuple #[.int .i64 (r64 way x.ng false (val x.d x.n / 2 ^ vK (val x.d x.n)).toNat (x.e + vK (val x.d x.n)) (decide (val x.d x.n % 2 ^ vK (val x.d x.n) ≠ 0))).1, .bool (r64 way x.ng false (val x.d x.n / 2 ^ vK (val x.d x.n)).toNat (x.e + vK (val x.d x.n)) (decide (val x.d x.n % 2 ^ vK (val x.d x.n) ≠ 0))).2, .int .i64 0]) ∧ Below w.heap.size w w' := by
  have hS := okR_sane ok
  obtain ⟨na, hn, he0, he1⟩ := hS
  have hv0 := val_nonneg na.1
  have hbl : vK (val x.d x.n) ≤ 150000 := by have := blen_nrm na; unfold vK; omega
  have hsm := vK_small hv0
  have hEF : ∀ (cap : Array Value) (w : World), (callFunc 42 cap).run Tryd.prog w = .ok (.enter 42 cap) w := by
    intro cap w
    simp [go_sem]
  have hEG : ∀ (cap : Array Value) (w : World), (callFunc 43 cap).run Tryd.prog w = .ok (.enter 43 cap) w := by
    intro cap w
    simp [go_sem]
  have hmf : ∀ (fn : Fn) (first cap : Array Value) (w : World), (Instr.makeFunc fn first cap).run Tryd.prog w = .ok (.func fn first cap) w := fun _ _ _ _ => rfl
  have CR := fun W (hb : Below w.heap.size w W) (g : Nat) (hg : W.heap[g]? = some (.cells #[.bool x.ng, .slice x.ao x.n x.cap, .int .i64 x.e] 26 (0, 0))) => rounded_ok way hw 42 43 (some ⟨g, 0, none⟩) 1 1 (fun _ => x) W
    ⟨Nat.le_refl _, by decide, fun _ => ⟨g, 0, rfl, (Array.getElem?_eq_some_iff.1 hg).1, fun i hi => by
      obtain rfl : i = 0 := by omega
      exact ⟨blkC hg 0 rfl, blkC hg 1 rfl, blkC hg 2 rfl, hx.keeps hb⟩⟩⟩ (fun _ _ => ok) x.ng (val x.d x.n / 2 ^ vK (val x.d x.n)).toNat (x.e + vK (val x.d x.n)) (decide (val x.d x.n % 2 ^ vK (val x.d x.n) ≠ 0)) false _ _ hEF hEG
    (fun W2 hb2 => itself_any g 0 1 1 x.ng x.ao x.n x.cap x.d x.e W2 (cell_keeps (blkC hg 0 rfl) hb2) (cell_keeps (blkC hg 1 rfl) hb2) (cell_keeps (blkC hg 2 rfl) hb2) (by decide) ((hx.keeps hb).keeps hb2) na hn ⟨he0, he1⟩ ((hT.keeps hb).keeps hb2))
    (fun W2 hb2 => binary64_any way hw x.ng false _ _ _ W2 ((Ev.keeps hb).keeps hb2) (by omega) (by omega))
  generalize r64 way x.ng false (val x.d x.n / 2 ^ vK (val x.d x.n)).toNat (x.e + vK (val x.d x.n)) (decide (val x.d x.n % 2 ^ vK (val x.d x.n) ≠ 0)) = R at CR ⊢
  have HCR : Hid _ := CR
  unfold NumR.v
  clear ok hsm hbl hv0 he0 he1 hn na hx
  obtain ⟨x_g, x_o, x_n, x_c, x_d, x_e⟩ := x
  simp only at *
  clear HCR
  have hb2 := bel_alloc2 w (.cells #[.bool x_g, .slice x_o x_n x_c, .int .i64 x_e] 26) (.cells #[.bool x_g, .slice x_o x_n x_c, .int .i64 x_e] 26)
  have q1 := heap_b2 w (.cells #[.bool x_g, .slice x_o x_n x_c, .int .i64 x_e] 26) (.cells #[.bool x_g, .slice x_o x_n x_c, .int .i64 x_e] 26)
  go_enter Tryd.func29, Tryd.ntmps29
  go_wp2_with fail
  refine (CR _ hb2 _ q1).mono ?_
  rintro _ w2 ⟨rfl, hb3⟩
  go_wp2
  all_goals refine bodyPost_ret (v := .tuple #[.int .i64 R.1, .bool R.2, .int .i64 0]) (by simp [results, Tryd.results29, go_sem]) rfl ⟨rfl, bel_trans hb2 hb3⟩
end Go.Proofs.YtmjdlcbiaglkeaaDoor

/-
  Package round: quotient, Quot, by their contracts.
-/
namespace Go.Proofs.YtmjdlcbiaglkeaaDoor
open Go Go.RowKit Go.Proofs.YtmjdlcbiaglkeaaDoor.M
set_option linter.unusedSimpArgs false
set_option linter.unusedVariables false

set_option maxRecDepth 100000 in
set_option maxHeartbeats 1000000 in
theorem scaled_high (ao : Option Addr) (n ca : Nat) (a : Nat → Int) (k : Nat) (w : World) (ha : Row w ao n ca a) (na : Nrm a n) (hn : n ≤ 5000) (hk : k ≤ 1000000) :
    Calls Tryd.prog 66 #[.slice ao n ca, .int .i64 (k : Int)] w fun e w' => ∃ v, e = .returned (.tuple #[v, .bool false]) ∧ Ans w w' (val a n * 2 ^ k) v := by
  have CR : Hid (Calls Tryd.prog 75 #[.slice ao n ca, .int .i64 (k : Int)] w fun e w' => ∃ v, e = .returned v ∧ Ans w w' (val a n * 2 ^ k) v) := raise_any ao n ca k a w ha na.1 (by omega) hk
  generalize val a n * 2 ^ k = Q at CR ⊢
  go_enter Tryd.func66, Tryd.ntmps66
  go_wp2_with fail
  refine CR.out.mono ?_
  rintro _ w2 ⟨v, rfl, hA⟩
  have HA : Hid (Ans w w2 Q v) := hA
  obtain ⟨so, sn, sc, rfl⟩ := hA.num.shape
  clear hA CR
  go_wp2
  all_goals refine bodyPost_ret (v := .tuple #[.slice so sn sc, .bool false]) (by simp [results, Tryd.results66, go_sem]) rfl ⟨_, rfl, HA.out⟩
/-- A number times 2^k, as far as it is whole. -/
def scV (A k : Int) : Int := if 0 ≤ k then A * 2 ^ k.toNat else A / 2 ^ (-k).toNat
def scC (A k : Int) : Bool := if 0 ≤ k then false else decide (A % 2 ^ (-k).toNat ≠ 0)
theorem scaled_any (ao : Option Addr) (n ca : Nat) (a : Nat → Int) (k : Int) (w : World) (ha : Row w ao n ca a) (na : Nrm a n) (hn : n ≤ 5000) (hk : -1000000 ≤ k ∧ k ≤ 1000000) (h0 : k < 0 → 0 < val a n) (hT : Tab w) :
    Calls Tryd.prog 66 #[.slice ao n ca, .int .i64 k] w fun e w' => ∃ v, e = .returned (.tuple #[v, .bool (scC (val a n) k)]) ∧ Ans w w' (scV (val a n) k) v := by
  unfold scV scC
  by_cases h : 0 ≤ k
  · rw [if_pos h, if_pos h]
    have := scaled_high ao n ca a k.toNat w ha na hn (by omega)
    rwa [Int.toNat_of_nonneg h] at this
  · rw [if_neg h, if_neg h]
    have := scaled_low ao n ca a (-k).toNat w ha na hn (by omega) (by omega) (h0 (by omega)) hT
    rwa [Int.toNat_of_nonneg (by omega), Int.neg_neg] at this
theorem num_len0 {w : World} {so : Option Addr} {sn sc : Nat} {M : Int} (h : Num w (.slice so sn sc) M) : decide (M ≠ 0) = decide ((0 : Int) < (sn : Int)) := by
  obtain ⟨ao, n, ca, d, hs, hR, hN, hV⟩ := h
  simp only [Value.slice.injEq] at hs
  obtain ⟨rfl, rfl, rfl⟩ := hs
  by_cases h0 : sn = 0
  · subst h0
    rw [← hV]
    rfl
  · have := val_pos hN (by omega)
    rw [decide_eq_true (by omega), decide_eq_true (by omega)]
/-- The bits that a quotient's dividend is brought to. -/
def qK (A B : Int) : Int := 62 + (blen B : Int) - (blen A : Int)
theorem qK_small {A B : Int} (hA : 0 ≤ A) (hB : 0 < B) : 0 ≤ scV A (qK A B) ∧ scV A (qK A B) < B * 9223372036854775808 ∧ 0 ≤ scV A (qK A B) / B ∧ scV A (qK A B) / B < 9223372036854775808 := by
  have b1 := blen_lt A
  have b2 := blen_pos hB
  have hs : 0 ≤ scV A (qK A B) ∧ scV A (qK A B) < 2 ^ (62 + blen B) := by
    unfold scV qK
    by_cases h : 0 ≤ 62 + (blen B : Int) - (blen A : Int)
    · rw [if_pos h]
      have hp := two_pos (62 + (blen B : Int) - (blen A : Int)).toNat
      refine ⟨Int.mul_nonneg hA (by omega), ?_⟩
      have e : (2 : Int) ^ (62 + blen B) = 2 ^ blen A * 2 ^ (62 + (blen B : Int) - (blen A : Int)).toNat := by rw [← Int.pow_add]; congr 1; omega
      rw [e]
      exact Int.mul_lt_mul_of_pos_right b1 hp
    · rw [if_neg h]
      have hp := two_pos (-(62 + (blen B : Int) - (blen A : Int))).toNat
      refine ⟨Int.ediv_nonneg hA (by omega), ?_⟩
      apply Int.ediv_lt_of_lt_mul hp
      rw [← Int.pow_add]
      rw [show 62 + blen B + (-(62 + (blen B : Int) - (blen A : Int))).toNat = blen A by omega]
      exact b1
  have e2 : (2 : Int) ^ (62 + blen B) = 2 ^ (blen B - 1) * 9223372036854775808 := by
    rw [show (9223372036854775808 : Int) = 2 ^ 63 by decide, ← Int.pow_add]; congr 1; omega
  have h3 : (2 : Int) ^ (blen B - 1) * 9223372036854775808 ≤ B * 9223372036854775808 := Int.mul_le_mul_of_nonneg_right b2.2 (by decide)
  refine ⟨hs.1, by omega, Int.ediv_nonneg hs.1 (by omega), ?_⟩
  apply Int.ediv_lt_of_lt_mul hB
  rw [Int.mul_comm]
  omega
theorem cells4_set {a b g o : Nat} {v : Value} {x0 x1 x2 x3 : Value} {W : World} (ha : a ≠ g) (hb : b ≠ g) (h : W.cell? ⟨a, 0, none⟩ = some x0 ∧ W.cell? ⟨a, 2, none⟩ = some x1 ∧ W.cell? ⟨b, 0, none⟩ = some x2 ∧ W.cell? ⟨b, 2, none⟩ = some x3) :
    (W.setCell ⟨g, o, none⟩ v).cell? ⟨a, 0, none⟩ = some x0 ∧ (W.setCell ⟨g, o, none⟩ v).cell? ⟨a, 2, none⟩ = some x1 ∧ (W.setCell ⟨g, o, none⟩ v).cell? ⟨b, 0, none⟩ = some x2 ∧ (W.setCell ⟨g, o, none⟩ v).cell? ⟨b, 2, none⟩ = some x3 := by
  have hw : Wr g W (W.setCell ⟨g, o, none⟩ v) := (Wr.refl g W).setCell o v
  obtain ⟨a0, a1, a2, a3⟩ := h
  exact ⟨(hw.cell (World.block_lt_of_cell? W _ a0) ha).trans a0, (hw.cell (World.block_lt_of_cell? W _ a1) ha).trans a1, (hw.cell (World.block_lt_of_cell? W _ a2) hb).trans a2, (hw.cell (World.block_lt_of_cell? W _ a3) hb).trans a3⟩
theorem cells4_drew {a b : Nat} {x0 x1 x2 x3 : Value} {W : World} (h : W.cell? ⟨a, 0, none⟩ = some x0 ∧ W.cell? ⟨a, 2, none⟩ = some x1 ∧ W.cell? ⟨b, 0, none⟩ = some x2 ∧ W.cell? ⟨b, 2, none⟩ = some x3) :
    W.drew.cell? ⟨a, 0, none⟩ = some x0 ∧ W.drew.cell? ⟨a, 2, none⟩ = some x1 ∧ W.drew.cell? ⟨b, 0, none⟩ = some x2 ∧ W.drew.cell? ⟨b, 2, none⟩ = some x3 := h
theorem cells6_alloc {p B : Nat} {x0 x1 x2 x3 x4 x5 : Value} {W : World} (o : Obj) (h : p < B ∧ B ≤ W.heap.size ∧ W.cell? ⟨p, 0, none⟩ = some x0 ∧ W.cell? ⟨p, 1, none⟩ = some x1 ∧ W.cell? ⟨p, 2, none⟩ = some x2 ∧ W.cell? ⟨p, 3, none⟩ = some x3 ∧ W.cell? ⟨p, 4, none⟩ = some x4 ∧ W.cell? ⟨p, 5, none⟩ = some x5) :
    p < B ∧ B ≤ (W.alloc o).heap.size ∧ (W.alloc o).cell? ⟨p, 0, none⟩ = some x0 ∧ (W.alloc o).cell? ⟨p, 1, none⟩ = some x1 ∧ (W.alloc o).cell? ⟨p, 2, none⟩ = some x2 ∧ (W.alloc o).cell? ⟨p, 3, none⟩ = some x3 ∧ (W.alloc o).cell? ⟨p, 4, none⟩ = some x4 ∧ (W.alloc o).cell? ⟨p, 5, none⟩ = some x5 := by
  have hb := bel_alloc W o
  obtain ⟨h1, h2, a0, a1, a2, a3, a4, a5⟩ := h
  exact ⟨h1, Nat.le_trans h2 hb.size, cell_keeps a0 hb, cell_keeps a1 hb, cell_keeps a2 hb, cell_keeps a3 hb, cell_keeps a4 hb, cell_keeps a5 hb⟩
theorem cells6_set {p B g o : Nat} {v : Value} {x0 x1 x2 x3 x4 x5 : Value} {W : World} (hg : B ≤ g) (h : p < B ∧ B ≤ W.heap.size ∧ W.cell? ⟨p, 0, none⟩ = some x0 ∧ W.cell? ⟨p, 1, none⟩ = some x1 ∧ W.cell? ⟨p, 2, none⟩ = some x2 ∧ W.cell? ⟨p, 3, none⟩ = some x3 ∧ W.cell? ⟨p, 4, none⟩ = some x4 ∧ W.cell? ⟨p, 5, none⟩ = some x5) :
    p < B ∧ B ≤ (W.setCell ⟨g, o, none⟩ v).heap.size ∧ (W.setCell ⟨g, o, none⟩ v).cell? ⟨p, 0, none⟩ = some x0 ∧ (W.setCell ⟨g, o, none⟩ v).cell? ⟨p, 1, none⟩ = some x1 ∧ (W.setCell ⟨g, o, none⟩ v).cell? ⟨p, 2, none⟩ = some x2 ∧ (W.setCell ⟨g, o, none⟩ v).cell? ⟨p, 3, none⟩ = some x3 ∧ (W.setCell ⟨g, o, none⟩ v).cell? ⟨p, 4, none⟩ = some x4 ∧ (W.setCell ⟨g, o, none⟩ v).cell? ⟨p, 5, none⟩ = some x5 := by
  have hw : Wr g W (W.setCell ⟨g, o, none⟩ v) := (Wr.refl g W).setCell o v
  obtain ⟨h1, h2, a0, a1, a2, a3, a4, a5⟩ := h
  have hp : p < W.heap.size := by omega
  have hne : p ≠ g := by omega
  exact ⟨h1, Nat.le_trans h2 hw.size, (hw.cell hp hne).trans a0, (hw.cell hp hne).trans a1, (hw.cell hp hne).trans a2, (hw.cell hp hne).trans a3, (hw.cell hp hne).trans a4, (hw.cell hp hne).trans a5⟩
end Go.Proofs.YtmjdlcbiaglkeaaDoor

/-
  Package round: quotient, by its contract. (Written by tools/r_quot2.py.)
-/
namespace Go.Proofs.YtmjdlcbiaglkeaaDoor
open Go Go.RowKit Go.Proofs.YtmjdlcbiaglkeaaDoor.M
set_option linter.unusedSimpArgs false
set_option linter.unusedVariables false

end Go.Proofs.YtmjdlcbiaglkeaaDoor

/-
  Package round: Quot, by its contract.
-/
namespace Go.Proofs.YtmjdlcbiaglkeaaDoor
open Go Go.RowKit Go.Proofs.YtmjdlcbiaglkeaaDoor.M
set_option linter.unusedSimpArgs false
set_option linter.unusedVariables false

/-- What Quot answers at numbers that are valid, the second not 0. -/
def qR64 (way : Int) (a b : NumR) : Int × Bool := r64 way (a.ng != b.ng) false (scV (val a.d a.n) (qK (val a.d a.n) (val b.d b.n)) / val b.d b.n).toNat (a.e - b.e - qK (val a.d a.n) (val b.d b.n)) (scC (val a.d a.n) (qK (val a.d a.n) (val b.d b.n)) || decide (scV (val a.d a.n) (qK (val a.d a.n) (val b.d b.n)) % val b.d b.n ≠ 0))
end Go.Proofs.YtmjdlcbiaglkeaaDoor

/-
  Package round: sums to the nearest, by their contracts.
-/
namespace Go.Proofs.YtmjdlcbiaglkeaaDoor
open Go Go.RowKit Go.Proofs.YtmjdlcbiaglkeaaDoor.M
set_option linter.unusedSimpArgs false
set_option linter.unusedVariables false

end Go.Proofs.YtmjdlcbiaglkeaaDoor

/-
  Package round: sums of constants, by their contracts.
-/
namespace Go.Proofs.YtmjdlcbiaglkeaaDoor
open Go Go.RowKit Go.Proofs.YtmjdlcbiaglkeaaDoor.M
set_option linter.unusedSimpArgs false
set_option linter.unusedVariables false

theorem wd_one : wd 4607182418800017408 = 4607182418800017408 := by decide
theorem wd_two : wd 4611686018427387904 = 4611686018427387904 := by decide
theorem told_two : told 4611686018427387904 = 4611686018427387904 := by decide
theorem wd_one32 : wd32 1065353216 = 1065353216 := by decide
theorem wd_two32 : wd32 1073741824 = 1073741824 := by decide
theorem told_two32 : told32 1073741824 = 1073741824 := by decide
end Go.Proofs.YtmjdlcbiaglkeaaDoor

/-
  plumblaw4.alive, by its contract.
-/
namespace Go.Proofs.YtmjdlcbiaglkeaaDoor
open Go Go.RowKit Go.Proofs.YtmjdlcbiaglkeaaDoor.M
set_option linter.unusedSimpArgs false
set_option linter.unusedVariables false

/-- A small odd number in a list of one. -/
def litR (g : Nat) (x : Int) : NumR := ⟨false, some ⟨g, 0, none⟩, 1, 1, fun _ => x, 0⟩
theorem litR_ok (g : Nat) {x : Int} (h0 : 0 < x) (h1 : x < 1073741824) (ho : x % 2 = 1) : okR (litR g x) = true :=
  decide_eq_true (.inr ⟨Nat.one_pos, ⟨show 1 ≤ 2000 by decide, fun i hi => ⟨show (0 : Int) ≤ x by omega, h1⟩, .inr (show x ≠ 0 by omega)⟩, ho, show (-1048576 : Int) ≤ 0 by decide, show (0 : Int) ≤ 1048576 by decide⟩)
theorem third (g k : Nat) : qR64 0 (litR g 1) (litR k 3) = (4599676419421066581, true) := by
  have e : qR64 0 (litR g 1) (litR k 3) = qR64 0 (litR 0 1) (litR 0 3) := rfl
  rw [e]
  decide +kernel
end Go.Proofs.YtmjdlcbiaglkeaaDoor

/-
  Package dyadic: Sub, by its contract.
-/
namespace Go.Proofs.YtmjdlcbiaglkeaaDoor
open Go Go.RowKit Go.Proofs.YtmjdlcbiaglkeaaDoor.M
set_option linter.unusedSimpArgs false
set_option linter.unusedVariables false

/-- The number with the other sign (0 too). -/
def NumR.neg (r : NumR) : NumR := ⟨!r.ng, r.ao, r.n, r.cap, r.d, r.e⟩
theorem NumR.neg_V (r : NumR) : r.neg.V = -r.V := by
  show sg (!r.ng) _ * _ = _
  rw [sg_not, Int.neg_mul]; rfl
theorem NumR.neg_sane {r : NumR} (h : Sane r) : Sane r.neg := h
end Go.Proofs.YtmjdlcbiaglkeaaDoor

/-
  Package dyadic: product, Mul, by contracts.
-/
namespace Go.Proofs.YtmjdlcbiaglkeaaDoor
open Go Go.RowKit Go.Proofs.YtmjdlcbiaglkeaaDoor.M
set_option linter.unusedSimpArgs false
set_option linter.unusedVariables false

/-- A product's worth. -/
def mulV (x y : NumR) : Int := sg (x.ng != y.ng) (val x.d x.n * val y.d y.n) * pw (x.e + y.e)
theorem mulV_eq {x y : NumR} (hx : -2097152 ≤ x.e) (hy : -2097152 ≤ y.e) : mulV x y * 2 ^ 4194304 = x.V * y.V := by
  unfold mulV NumR.V
  rw [Int.mul_assoc, ← pw_mul hx hy, ← sg_mul]; grind
end Go.Proofs.YtmjdlcbiaglkeaaDoor

/-
  Package dyadic: Neg, Abs, Sign, Scale, by contracts.
-/
namespace Go.Proofs.YtmjdlcbiaglkeaaDoor
open Go Go.RowKit Go.Proofs.YtmjdlcbiaglkeaaDoor.M
set_option linter.unusedSimpArgs false
set_option linter.unusedVariables false

theorem neg_dy {x : NumR} (h : okR x = true) : Dy (-x.V) (!x.ng && decide (0 < x.n)) (val x.d x.n) x.e := by
  have hd := (okR_dy h).1
  by_cases h0 : 0 < x.n
  · have hv := val_pos (okR_sane h).1 h0
    have := hd.neg hv
    simpa [h0] using this
  · rcases of_decide_eq_true h with ⟨h1, h2, h3⟩ | ⟨h1, _⟩
    · have hv : val x.d x.n = 0 := by rw [h1]; rfl
      have := hd.eq_zero.2 hv
      rw [this, hv, h3]
      simpa [h0] using Dy.zero
    · omega
theorem abs_dy {x : NumR} (h : okR x = true) : Dy (x.V.natAbs : Int) (false && decide (0 < x.n)) (val x.d x.n) x.e := by
  have hd := (okR_dy h).1.abs
  simpa using hd
end Go.Proofs.YtmjdlcbiaglkeaaDoor

/-
  Package dyadic: compare, Cmp, by contracts.
-/
namespace Go.Proofs.YtmjdlcbiaglkeaaDoor
open Go Go.RowKit Go.Proofs.YtmjdlcbiaglkeaaDoor.M
set_option linter.unusedSimpArgs false
set_option linter.unusedVariables false

theorem ord_scale {a b p : Int} (hp : 0 < p) : ord (a * p) (b * p) = ord a b := by
  rcases Int.lt_trichotomy a b with h | h | h
  · rw [ord_lt h, ord_lt (Int.mul_lt_mul_of_pos_right h hp)]
  · rw [ord_eq h, ord_eq (by rw [h])]
  · rw [ord_gt h, ord_gt (Int.mul_lt_mul_of_pos_right h hp)]
/-- What reaches higher is greater. -/
theorem top_lt {a b e f : Int} (ha : 0 < a) (hb : 0 < b) (he : -4194304 ≤ e) (hf : -4194304 ≤ f) (h : e + blen a < f + blen b) : a * pw e < b * pw f := by
  have h1 := blen_lt a
  have h2 := (blen_pos hb)
  have hpe := pw_pos e
  have hpf := pw_pos f
  have c1 : a * pw e < 2 ^ blen a * pw e := Int.mul_lt_mul_of_pos_right h1 hpe
  have c2 : 2 ^ (blen b - 1) * pw f ≤ b * pw f := Int.mul_le_mul_of_nonneg_right h2.2 (Int.le_of_lt hpf)
  have c3 : 2 ^ blen a * pw e ≤ 2 ^ (blen b - 1) * pw f := by
    unfold pw
    rw [← Int.pow_add, ← Int.pow_add]
    exact two_le (by have := h2.1; omega)
  omega
theorem ord_tops {a b e f : Int} (ha : 0 < a) (hb : 0 < b) (he : -4194304 ≤ e) (hf : -4194304 ≤ f) (h : e + blen a ≠ f + blen b) : ord (e + blen a) (f + blen b) = ord (a * pw e) (b * pw f) := by
  rcases Int.lt_or_gt_of_ne h with h1 | h1
  · rw [ord_lt h1, ord_lt (top_lt ha hb he hf h1)]
  · rw [ord_gt h1, ord_gt (top_lt hb ha hf he h1)]
theorem ord_low {a b e f low : Int} (hl : -4194304 ≤ low) (he : low ≤ e) (hf : low ≤ f) : ord (a * 2 ^ (e - low).toNat) (b * 2 ^ (f - low).toNat) = ord (a * pw e) (b * pw f) := by
  rw [pw_sub hl he, pw_sub hl hf, ← Int.mul_assoc, ← Int.mul_assoc, ord_scale (pw_pos _)]
/-- Two numbers' own blocks, behind a call. -/
theorem keep66 {W w' : World} {g h : Nat} {a b c d e f : Value} (hb : Below W.heap.size W w') (hS : (W.cell? ⟨g, 0, none⟩ = some a ∧ W.cell? ⟨g, 1, none⟩ = some b ∧ W.cell? ⟨g, 2, none⟩ = some c) ∧ W.cell? ⟨h, 0, none⟩ = some d ∧ W.cell? ⟨h, 1, none⟩ = some e ∧ W.cell? ⟨h, 2, none⟩ = some f) :
    (w'.cell? ⟨g, 0, none⟩ = some a ∧ w'.cell? ⟨g, 1, none⟩ = some b ∧ w'.cell? ⟨g, 2, none⟩ = some c) ∧ w'.cell? ⟨h, 0, none⟩ = some d ∧ w'.cell? ⟨h, 1, none⟩ = some e ∧ w'.cell? ⟨h, 2, none⟩ = some f :=
  ⟨keepB hS.1 hb, keepB hS.2 hb⟩
theorem ord_three (a b : Int) : ord a b = 1 ∨ ord a b = 0 ∨ ord a b = -1 := by
  rcases Int.lt_trichotomy a b with h | h | h
  · exact .inr (.inr (ord_lt h))
  · exact .inr (.inl (ord_eq h))
  · exact .inl (ord_gt h)
theorem sgn_V {x : NumR} (sx : Sane x) : (sgn x.ng x.n = 0 ∧ x.V = 0 ∧ x.n = 0) ∨ (sgn x.ng x.n = 1 ∧ 0 < x.V ∧ 0 < x.n ∧ x.ng = false) ∨ (sgn x.ng x.n = -1 ∧ x.V < 0 ∧ 0 < x.n ∧ x.ng = true) := by
  by_cases h0 : x.n = 0
  · left
    refine ⟨by simp [sgn, h0], ?_, h0⟩
    show sg x.ng (val x.d x.n) * _ = 0
    rw [h0]
    show sg x.ng 0 * _ = 0
    rw [sg_zero, Int.zero_mul]
  · right
    have hp := Int.mul_pos (val_pos sx.1 (show 0 < x.n by omega)) (pw_pos x.e)
    have hV : x.V = sg x.ng (val x.d x.n) * pw x.e := rfl
    cases hg : x.ng
    · left
      rw [hg] at hV
      exact ⟨by simp [sgn, h0], by rw [hV]; exact hp, by omega, rfl⟩
    · right
      rw [hg] at hV
      refine ⟨by simp [sgn, h0], ?_, by omega, rfl⟩
      rw [hV]
      show -val x.d x.n * pw x.e < 0
      rw [Int.neg_mul]; omega
theorem ord_signs {x y : NumR} (sx : Sane x) (sy : Sane y) (h : sgn x.ng x.n ≠ sgn y.ng y.n) : ord (sgn x.ng x.n) (sgn y.ng y.n) = ord x.V y.V := by
  rcases sgn_V sx with ⟨a, b, _⟩ | ⟨a, b, _⟩ | ⟨a, b, _⟩ <;> rcases sgn_V sy with ⟨c, d, _⟩ | ⟨c, d, _⟩ | ⟨c, d, _⟩ <;> rw [a, c] at h ⊢ <;>
    first
      | exact absurd rfl h
      | (rw [ord_lt (by decide), ord_lt (by omega)])
      | (rw [ord_gt (by decide), ord_gt (by omega)])
theorem ord_neg (a b : Int) : ord (-a) (-b) = -ord a b := by
  rcases Int.lt_trichotomy a b with h | h | h
  · rw [ord_lt h, ord_gt (by omega)]; rfl
  · rw [ord_eq h, ord_eq (by omega)]; rfl
  · rw [ord_gt h, ord_lt (by omega)]
theorem ord_same {x y : NumR} (ox : okR x = true) (oy : okR y = true) (h : sgn x.ng x.n = sgn y.ng y.n) : ((0 < x.n ∧ 0 < y.n) ∨ (x.n = 0 ∧ y.n = 0 ∧ x.e = y.e)) ∧ sgn x.ng x.n * ord (val x.d x.n * pw x.e) (val y.d y.n * pw y.e) = ord x.V y.V := by
  have hV : x.V = sg x.ng (val x.d x.n) * pw x.e := rfl
  have hW : y.V = sg y.ng (val y.d y.n) * pw y.e := rfl
  rcases sgn_V (okR_sane ox) with ⟨a, b, c⟩ | ⟨a, b, c, d⟩ | ⟨a, b, c, d⟩ <;> rcases sgn_V (okR_sane oy) with ⟨a', b', c'⟩ | ⟨a', b', c', d'⟩ | ⟨a', b', c', d'⟩ <;> rw [a, a'] at h <;> first | (exfalso; omega) | skip
  · refine ⟨.inr ⟨c, c', ?_⟩, ?_⟩
    · rcases of_decide_eq_true ox with ⟨_, _, e1⟩ | ⟨e1, _⟩
      · rcases of_decide_eq_true oy with ⟨_, _, e2⟩ | ⟨e2, _⟩
        · omega
        · omega
      · omega
    · rw [a, b, b', Int.zero_mul, ord_eq rfl]
  · refine ⟨.inl ⟨c, c'⟩, ?_⟩
    rw [a, hV, hW, d, d', Int.one_mul]; rfl
  · refine ⟨.inl ⟨c, c'⟩, ?_⟩
    rw [a, hV, hW, d, d']
    show -1 * _ = ord (-val x.d x.n * _) (-val y.d y.n * _)
    rw [Int.neg_mul (val x.d x.n), Int.neg_mul (val y.d y.n), ord_neg]; omega
end Go.Proofs.YtmjdlcbiaglkeaaDoor

/-
  Package dyadic's calls on numbers that are told by their worth.
-/
namespace Go.Proofs.YtmjdlcbiaglkeaaDoor
open Go Go.RowKit Go.Proofs.YtmjdlcbiaglkeaaDoor.M
set_option linter.unusedSimpArgs false
set_option linter.unusedVariables false

/-- A number by its worth, laid open. -/
theorem DNum.open {w : World} {v : Value} {V : Int} (h : DNum w v V) (ok : Dok V) : ∃ x : NumR, v = x.v ∧ Row w x.ao x.n x.cap x.d ∧ okR x = true ∧ x.V = V := by
  obtain ⟨ng, s, m, e, rfl, hy, ao, n, cap, d, rfl, hR, hN, rfl⟩ := h
  refine ⟨⟨ng, ao, n, cap, d, e⟩, rfl, hR, ?_, hy.val.symm⟩
  obtain ⟨o1, o2, o3⟩ := hy.ok.1 ok
  refine decide_eq_true ?_
  by_cases h0 : n = 0
  · left
    have hz : val d n = 0 := by rw [h0]; rfl
    rcases hy.form with ⟨_, f2, f3⟩ | ⟨f1, _⟩
    · exact ⟨h0, f2, f3⟩
    · omega
  · right
    have hp := val_pos hN (show 0 < n by omega)
    rcases hy.form with ⟨f1, _⟩ | ⟨_, f2⟩
    · omega
    · refine ⟨by show 0 < n; omega, ⟨?_, hN⟩, ?_, o2, o3⟩
      · exact Num.len (w := w) (ao := ao) (cap := cap) ⟨_, _, _, _, rfl, hR, hN, rfl⟩ o1
      · obtain ⟨k, hk⟩ : ∃ k, n = 1 + k := ⟨n - 1, by omega⟩
        have := val_split d 1 k
        rw [← hk] at this
        rw [this, show val d 1 = d 0 by show 0 + d 0 * 1 = _; omega, show P 1 = 1073741824 from rfl] at f2
        show d 0 % 2 = 1
        omega
theorem DFit.yes {w w' : World} {V er : Int} {v : Value} (h : DFit w w' V v er) (ok : Dok V) : er = 0 ∧ DAns w w' V v := by
  rcases h.2 with ⟨_, h1, h2⟩ | ⟨hn, _⟩
  · exact ⟨h1, h2⟩
  · exact absurd ok hn
theorem valid_D {w : World} {x : Value} {A : Int} (hx : DNum w x A) (oA : Dok A) :
    Calls Tryd.prog 49 #[x] w fun r w' => r = .returned (.bool true) ∧ Below w.heap.size w w' := by
  obtain ⟨x, rfl, hR, ok, rfl⟩ := hx.open oA
  have := dvalid_any x.ng x.ao x.n x.cap x.d x.e w hR
  rwa [show okN x.ng x.d x.n x.e = true from ok] at this
theorem sameB_iff {a b : Nat → Int} {n m : Nat} (ha : Nrm a n) (hb : Nrm b m) : sameB a b n m = decide (val a n = val b m) := by
  by_cases h : val a n = val b m
  · rw [sameB_of ha hb h, decide_eq_true h]
  · rw [decide_eq_false h]
    refine decide_eq_false fun ⟨h1, h2⟩ => h ?_
    subst h1
    exact val_congr h2
end Go.Proofs.YtmjdlcbiaglkeaaDoor

/-
  Package plumblaw3: alive.
-/
namespace Go.Proofs.YtmjdlcbiaglkeaaDoor
open Go Go.RowKit Go.Proofs.YtmjdlcbiaglkeaaDoor.M
set_option linter.unusedSimpArgs false
set_option linter.unusedVariables false

/-- A small number's form. -/
theorem dy_lit (ng : Bool) {m e : Int} (h0 : 0 < m) (h1 : m % 2 = 1) (he : -4194304 ≤ e) : Dy (sg ng m * pw e) ng m e := ⟨rfl, he, .inr ⟨h0, h1⟩⟩
theorem dok_lit {ng : Bool} {m e : Int} (h0 : 0 < m) (h1 : m % 2 = 1) (h2 : m < 1073741824) (he : -1048576 ≤ e) (he1 : e ≤ 1048576) : Dok (sg ng m * pw e) :=
  (dy_lit ng h0 h1 (by omega)).ok.2 ⟨by have := P2000_big2; omega, he, he1⟩
theorem dnum_lit {w : World} {g : Nat} (ng : Bool) {m e : Int} (h0 : 0 < m) (h1 : m % 2 = 1) (h2 : m < 1073741824) (he : -4194304 ≤ e) (hg : w.heap[g]? = some (.cells #[.int .i64 m] 3 (0, 0))) :
    DNum w (.agg #[.bool ng, .slice (some ⟨g, 0, none⟩) 1 1, .int .i64 e]) (sg ng m * pw e) := by
  refine ⟨ng, _, m, e, rfl, dy_lit ng h0 h1 he, _, 1, 1, fun _ => m, rfl, ?_, ⟨fun i _ => by show 0 ≤ m ∧ m < 1073741824; omega, .inr (by show m ≠ 0; omega)⟩, by show 0 + m * 1 = m; omega⟩
  exact ⟨Nat.le_refl _, by omega, fun h => by simp at h, fun _ => ⟨g, 0, rfl, (Array.getElem?_eq_some_iff.1 hg).1, fun i hi => by
    obtain rfl : i = 0 := by omega
    exact blkC hg 0 rfl⟩⟩
theorem pw_step {e k : Int} {l : Nat} (h : -4194304 ≤ e) (hk : k = e + l) : pw k = pw e * 2 ^ l := by rw [hk, pw_add h]
theorem pw_0 : pw 0 = pw (-1) * 2 := (pw_step (e := -1) (l := 1) (by omega) (by omega)).trans (by rw [Int.pow_succ, Int.pow_zero, Int.one_mul])
theorem live_x : mkV true 6 (-1) = sg true 3 * pw 0 := by
  unfold mkV
  rw [if_neg (by decide), if_neg (by decide), pw_0]
  generalize pw (-1) = p
  show -6 * p = -3 * (p * 2)
  omega
theorem live_y : pok 4609434218613702656 = true ∧ sg (pneg 4609434218613702656) (pmag 4609434218613702656) * pw (pexp 4609434218613702656) = sg false 3 * pw (-1) := by
  refine ⟨by decide, ?_⟩
  rw [show pneg 4609434218613702656 = false by decide, show pmag 4609434218613702656 = 6755399441055744 by decide, show pexp 4609434218613702656 = -52 by decide, pw_step (e := -52) (k := -1) (l := 51) (by omega) (by omega)]
  generalize pw (-52) = p
  show 6755399441055744 * p = 3 * (p * 2 ^ 51)
  rw [show (2 : Int) ^ 51 = 2251799813685248 by decide]
  omega
theorem live_s : sg true 3 * pw 0 + sg false 3 * pw (-1) = sg true 3 * pw (-1) := by
  rw [pw_0]
  generalize pw (-1) = p
  show -3 * (p * 2) + 3 * p = -3 * p
  omega
end Go.Proofs.YtmjdlcbiaglkeaaDoor

/-
  The document's own answers (plumbref2): Shl, Shr, by contracts over the same values.
-/
namespace Go.Proofs.YtmjdlcbiaglkeaaDoor
open Go Go.RowKit Go.Proofs.YtmjdlcbiaglkeaaDoor.M
set_option linter.unusedSimpArgs false
set_option linter.unusedVariables false

end Go.Proofs.YtmjdlcbiaglkeaaDoor

/-
  plumblaw2's Keep: lists of answers that are kept, in memory: what it is (Kp), Add, by its contract.
-/
namespace Go.Proofs.YtmjdlcbiaglkeaaDoor
open Go Go.RowKit Go.Proofs.YtmjdlcbiaglkeaaDoor.M
set_option linter.unusedSimpArgs false
set_option linter.unusedVariables false

/-- One put in another's place. -/
def updV {α : Type} (v : Nat → α) (i : Nat) (x : α) : Nat → α := fun j => if j = i then x else v j
theorem updV_same {α : Type} (v : Nat → α) (i : Nat) (x : α) : updV v i x i = x := by simp [updV]
theorem updV_other {α : Type} (v : Nat → α) {i j : Nat} (x : α) (h : j ≠ i) : updV v i x j = v j := by simp [updV, h]
/-- The first m of v. -/
def valsV (v : Nat → Value) (m : Nat) : List Value := (List.range m).map v
theorem valsV_length (v : Nat → Value) (m : Nat) : (valsV v m).length = m := by simp [valsV]
theorem valsV_get (v : Nat → Value) {m i : Nat} (h : i < m) : (valsV v m)[i]? = some (v i) := by simp [valsV, h]
theorem valsV_snoc (v : Nat → Value) (m : Nat) (x : Value) : valsV v m ++ [x] = valsV (updV v m x) (m + 1) := by
  apply List.ext_getElem?
  intro i
  by_cases h : i < m
  · rw [List.getElem?_append_left (by rw [valsV_length]; exact h), valsV_get v h, valsV_get _ (by omega), updV_other v x (by omega)]
  · by_cases e : i = m
    · subst e; rw [List.getElem?_append_right (by rw [valsV_length]; omega), valsV_length, valsV_get _ (by omega), updV_same]; simp
    · rw [List.getElem?_eq_none (by simp [valsV_length]; omega), List.getElem?_eq_none (by rw [valsV_length]; omega)]
/-- A list of slices that is the call's own. -/
def OutV (B : Nat) (w : World) (x : Value) (m : Nat) (v : Nat → Value) : Prop := w.ownsRow B 24 1 x m (valsV v m)
theorem OutV.shape {B : Nat} {w : World} {x : Value} {m : Nat} {v : Nat → Value} (h : OutV B w x m v) : ∃ xo xc, x = .slice xo m xc ∧ m ≤ xc ∧ xc ≤ 9223372036854775807 ∧ (0 < m → ∃ g, xo = some ⟨g, 0, none⟩) := by
  rcases h.2 with ⟨rfl, rfl⟩ | ⟨g, cap, cur, rfl, hb, hg, hn, hm, _⟩
  · exact ⟨none, 0, rfl, Nat.le_refl _, by decide, fun h => by omega⟩
  · exact ⟨_, cap, rfl, hn, by unfold maxLen at hm; exact hm, fun _ => ⟨g, rfl⟩⟩
theorem OutV.of_block {B : Nat} {w w' : World} {x : Value} {m : Nat} {v : Nat → Value} (h : OutV B w x m v) (hb : ∀ g, x.ownBlock = some g → w'.heap[g]? = w.heap[g]?) : OutV B w' x m v := by
  refine ⟨h.1, ?_⟩
  rcases h.2 with hn | ⟨g, cap, cur, rfl, hbb, hg, rest⟩
  · exact .inl hn
  · exact .inr ⟨g, cap, cur, rfl, hbb, (hb g rfl).trans hg, rest⟩
theorem Out.of_block {B : Nat} {w w' : World} {x : Value} {n : Nat} {d : Nat → Int} (h : Out B w x n d) (hb : ∀ g, x.ownBlock = some g → w'.heap[g]? = w.heap[g]?) : Out B w' x n d := by
  refine ⟨h.1, ?_⟩
  rcases h.2 with hn | ⟨g, cap, cur, rfl, hbb, hg, rest⟩
  · exact .inl hn
  · exact .inr ⟨g, cap, cur, rfl, hbb, (hb g rfl).trans hg, rest⟩
theorem Out.typed {B : Nat} {w : World} {x : Value} {n : Nat} {d : Nat → Int} (h : Out B w x n d) {g : Nat} (hg : x.ownBlock = some g) : ∃ cur z, w.heap[g]? = some (.cells cur 3 z) := by
  rcases h.2 with ⟨rfl, _⟩ | ⟨g', cap, cur, rfl, hbb, hg', rest⟩
  · simp [Value.ownBlock] at hg
  · simp only [Value.ownBlock, Option.some.injEq] at hg; subst hg; exact ⟨cur, _, hg'⟩
theorem OutV.typed {B : Nat} {w : World} {x : Value} {n : Nat} {v : Nat → Value} (h : OutV B w x n v) {g : Nat} (hg : x.ownBlock = some g) : ∃ cur z, w.heap[g]? = some (.cells cur 24 z) := by
  rcases h.2 with ⟨rfl, _⟩ | ⟨g', cap, cur, rfl, hbb, hg', rest⟩
  · simp [Value.ownBlock] at hg
  · simp only [Value.ownBlock, Option.some.injEq] at hg; subst hg; exact ⟨cur, _, hg'⟩
theorem OutV.ge {B : Nat} {w : World} {x : Value} {n : Nat} {v : Nat → Value} (h : OutV B w x n v) {g : Nat} (hg : x.ownBlock = some g) : B ≤ g ∧ g < w.heap.size := by
  rcases h.2 with ⟨rfl, _⟩ | ⟨g', cap, cur, rfl, hbb, hg', rest⟩
  · simp [Value.ownBlock] at hg
  · simp only [Value.ownBlock, Option.some.injEq] at hg; subst hg; exact ⟨hbb, (Array.getElem?_eq_some_iff.1 hg').1⟩
theorem Out.ge {B : Nat} {w : World} {x : Value} {n : Nat} {v : Nat → Int} (h : Out B w x n v) {g : Nat} (hg : x.ownBlock = some g) : B ≤ g ∧ g < w.heap.size := by
  rcases h.2 with ⟨rfl, _⟩ | ⟨g', cap, cur, rfl, hbb, hg', rest⟩
  · simp [Value.ownBlock] at hg
  · simp only [Value.ownBlock, Option.some.injEq] at hg; subst hg; exact ⟨hbb, (Array.getElem?_eq_some_iff.1 hg').1⟩
theorem info_slice : (Tryd.prog.info? 24).map (fun i => (i.zero, i.size, i.bytes)) = some (some (.slice none 0 0), 1, 24) := by kernel_rfl
theorem cell_one (w : World) (x : Value) (t : TypeId) {g : Nat} (hg : g = w.heap.size) : (w.alloc (.cells #[x] t)).cell? ⟨g, 0, none⟩ = some x := by
  subst hg
  rw [cell_of_row _ _ 0 _ _ _ (heap_alloc_new w _)]; rfl
theorem grown_out {B : Nat} {w w' : World} {row : Option Nat} {x : Value} {m : Nat} {v : Nat → Value} (h : OutV B w x m v) (hg : w.grownBy w' row) (hne : ∀ g, x.ownBlock = some g → row ≠ some g) : OutV B w' x m v :=
  h.of_block fun g hgx => hg.block g (h.ge hgx).2 fun e => hne g hgx e.symm
theorem OutV.alloc {B : Nat} {w : World} {x : Value} {m : Nat} {v : Nat → Value} (h : OutV B w x m v) (o : Obj) : OutV B (w.alloc o) x m v := h.of_block fun g hg => Below.heap_alloc _ _ _ (h.ge hg).2
/-- 'append' of ints, as it runs, and where the new slice lies. -/
theorem run_app {w : World} (ty : TypeId) (B : Nat) (v : Value) (n : Nat) (d : Nat → Int) (hO : Out B w v n d) (bo : Option Addr) (m cb : Nat) (e : Nat → Int) (hR : Row w bo m cb e) (hlen : n + m ≤ 1000000) (hB : B ≤ w.heap.size) :
    ∃ v' w', (Builtin.append_ #[24, 24] ty #[v, .slice bo m cb]).run Tryd.prog w = .ok v' w' ∧ Out B w' v' (n + m) (cat d n e) ∧ w.grownBy w' v.ownBlock ∧ (v'.ownBlock = v.ownBlock ∨ v'.ownBlock = some w.heap.size) := by
  obtain ⟨i0, hi, hz0, hz1, hz2⟩ := info_parts info_int
  cases bo with
  | none =>
    have hc := hR.nl rfl
    have hl := hR.le
    subst hc
    obtain rfl : m = 0 := by omega
    have hr := run_append_owned_none (P := Tryd.prog) w B 24 ty 3 i0 1 Tryd.underlying24 hi v n (vals d n) hO
    exact ⟨v, w, hr, hO.congr fun i hi => by simp [cat]; omega, ⟨rfl, rfl, rfl, Nat.le_refl _, fun _ _ _ => rfl⟩, .inl rfl⟩
  | some ad =>
    obtain ⟨v', w', hr, h2, h3, _, h5⟩ := run_append_own_at (P := Tryd.prog) w B 24 ty 3 i0 (.int .i64 0) 1 8 Tryd.underlying24 hi hz0 hz1 hz2 rfl (by decide) v n (vals d n) hO ad m cb (vals e m) (by rw [vals_length]; omega)
      (fun j u hu => by
        have hj : j < m := by have := (List.getElem?_eq_some_iff.1 hu).1; rwa [vals_length] at this
        obtain ⟨b, off, hb, _, hc⟩ := hR.spot (by omega)
        obtain rfl := Option.some.inj hb
        rw [vals_get e hj] at hu
        rw [add_none, hc j hj]; exact hu) (vals_one e m) (by unfold maxLen; omega) (by omega) hB
    rw [vals_cat] at h2
    exact ⟨v', w', hr, h2, h3, h5⟩
theorem wp_app {w : World} {o : Oper} {a : Act} {K : Act → World → Prop} {Q : Exit → Act → World → Prop} (s x : Operand) (ho : o.op = .call { callee := .builtin .append, args := #[s, x], argTypes := #[24, 24] })
    (B : Nat) (v : Value) (n : Nat) (d : Nat → Int) (hs : a.eval s = v) (hO : Out B w v n d) (bo : Option Addr) (m cb : Nat) (e : Nat → Int) (hx : a.eval x = .slice bo m cb) (hR : Row w bo m cb e) (hlen : n + m ≤ 1000000) (hB : B ≤ w.heap.size)
    (h : ∀ v' w', Out B w' v' (n + m) (cat d n e) → w.grownBy w' v.ownBlock → (v'.ownBlock = v.ownBlock ∨ v'.ownBlock = some w.heap.size) → K (a.put o.dst v') w') : o.wp Tryd.prog a w K Q := by
  obtain ⟨v', w', hr, h2, h3, h4⟩ := run_app o.type B v n d hO bo m cb e hR hlen hB
  unfold Oper.wp execOp
  simp only [ho, resolve, invoke, builtin, Sem.run_bind, Sem.run_pure, Result.andThen_ok, List.map_toArray, List.map_cons, List.map_nil, hs, hx, hr]
  exact h v' w' h2 h3 h4
theorem step_app {w : World} {ops : Array Oper} {o : Oper} {a : Act} {K : Act → World → Prop} {Q : Exit → Act → World → Prop} {E : Prop} (hgd : o.guard = none) (s x : Operand) (ho : o.op = .call { callee := .builtin .append, args := #[s, x], argTypes := #[24, 24] })
    (B : Nat) (v : Value) (n : Nat) (d : Nat → Int) (hs : a.eval s = v) (hO : Out B w v n d) (bo : Option Addr) (m cb : Nat) (e : Nat → Int) (hx : a.eval x = .slice bo m cb) (hR : Row w bo m cb e) (hlen : n + m ≤ 1000000) (hB : B ≤ w.heap.size)
    (h : ∀ v' w', Out B w' v' (n + m) (cat d n e) → w.grownBy w' v.ownBlock → (v'.ownBlock = v.ownBlock ∨ v'.ownBlock = some w.heap.size) → K (a.put o.dst v') w') : if Region.wanted o (yielded ops a.tmps) = true then Oper.wp Tryd.prog o a w K Q else E := by
  rw [if_pos (show Region.wanted o (yielded ops a.tmps) = true by simp [Region.wanted, hgd])]
  exact wp_app s x ho B v n d hs hO bo m cb e hx hR hlen hB h
end Go.Proofs.YtmjdlcbiaglkeaaDoor

/-
  What is kept, with the blocks it lies in (Kept); Keep.Add and answer of a number (An); Lent and Back.
-/
namespace Go.Proofs.YtmjdlcbiaglkeaaDoor
open Go Go.RowKit Go.Proofs.YtmjdlcbiaglkeaaDoor.M
set_option linter.unusedSimpArgs false
set_option linter.unusedVariables false

/-- A number's list, from B on. -/
def An (B : Nat) (w : World) (v : Value) (V : Int) : Prop := ∃ t d, Out B w v t d ∧ Nrm d t ∧ val d t = V
theorem An.keeps {B : Nat} {w w' : World} {v : Value} {V : Int} (h : An B w v V) (k : Below w.heap.size w w') : An B w' v V := by
  obtain ⟨t, d, h1, h2⟩ := h
  exact ⟨t, d, h1.stays k, h2⟩
theorem An.lower {B B' : Nat} {w : World} {v : Value} {V : Int} (h : An B w v V) (hB : B' ≤ B) : An B' w v V := by
  obtain ⟨t, d, h1, h2⟩ := h
  exact ⟨t, d, h1.lower hB, h2⟩
theorem An.nil (B : Nat) (w : World) : An B w (.slice none 0 0) 0 := ⟨0, fun _ => 0, Out.nil _ _ _, ⟨fun i hi => by omega, .inl rfl⟩, rfl⟩
theorem Ans.an {w w' : World} {V : Int} {v : Value} (h : Ans w w' V v) : An w.heap.size w' v V := by
  obtain ⟨t, d, h1, h2, h3, h4⟩ := h
  exact ⟨t, d, h1, h2, h3⟩
theorem An.shape {B : Nat} {w : World} {v : Value} {V : Int} (h : An B w v V) : ∃ ao n cap, v = .slice ao n cap := by
  obtain ⟨t, d, h1, h2⟩ := h
  obtain ⟨ao, cap, e, _⟩ := h1.row
  exact ⟨ao, t, cap, e⟩
theorem An.num {B : Nat} {w : World} {v : Value} {V : Int} (h : An B w v V) : Num w v V := by
  obtain ⟨t, d, h1, h2, h3⟩ := h
  obtain ⟨ao, cap, rfl, hR⟩ := h1.row
  exact ⟨ao, t, cap, d, rfl, hR, h2, h3⟩
theorem An.ge {B : Nat} {w : World} {v : Value} {V : Int} (h : An B w v V) {g : Nat} (hg : v.ownBlock = some g) : B ≤ g ∧ g < w.heap.size := by
  obtain ⟨t, d, h1, h2, h3⟩ := h
  exact h1.ge hg
/-- The blocks behind an Add. -/
def S2 (S : Nat → Prop) (l : Value) (s : Nat) : Nat → Prop := fun g => S g ∨ l.ownBlock = some g ∨ s ≤ g
/-- A list and an error, of a number that may be too long. -/
def FitA (B : Nat) (w : World) (V : Int) (v : Value) (er : Int) : Prop := (V < P 2000 ∧ er = 0 ∧ An B w v V) ∨ (P 2000 ≤ V ∧ er = 2 ∧ v = .slice none 0 0)
theorem Fit.fitA {w w' : World} {V er : Int} {v : Value} (h : Fit w w' V v er) : FitA w.heap.size w' V v er := by
  rcases h.2 with ⟨h1, h2, h3⟩ | h
  · exact .inl ⟨h1, h2, h3.an⟩
  · exact .inr h
theorem FitA.keeps {B : Nat} {w w' : World} {v : Value} {V er : Int} (h : FitA B w V v er) (k : Below w.heap.size w w') : FitA B w' V v er := by
  rcases h with ⟨h1, h2, h3⟩ | h
  · exact .inl ⟨h1, h2, h3.keeps k⟩
  · exact .inr h
theorem FitA.lower {B B' : Nat} {w : World} {v : Value} {V er : Int} (h : FitA B w V v er) (hB : B' ≤ B) : FitA B' w V v er := by
  rcases h with ⟨h1, h2, h3⟩ | h
  · exact .inl ⟨h1, h2, h3.lower hB⟩
  · exact .inr h
theorem FitA.ge {B : Nat} {w : World} {v : Value} {V er : Int} (h : FitA B w V v er) {g : Nat} (hg : v.ownBlock = some g) : B ≤ g ∧ g < w.heap.size := by
  rcases h with ⟨h1, h2, h3⟩ | ⟨_, _, rfl⟩
  · exact h3.ge hg
  · simp [Value.ownBlock] at hg
theorem FitA.shape {B : Nat} {w : World} {v : Value} {V er : Int} (h : FitA B w V v er) : ∃ ao n cap, v = .slice ao n cap := by
  rcases h with ⟨h1, h2, h3⟩ | ⟨_, _, rfl⟩
  · exact h3.shape
  · exact ⟨_, _, _, rfl⟩
/-- A lent list: three marks behind it. -/
def lentD (a : Nat → Int) (n : Nat) : Nat → Int := cat a n (fun i => -71 - (i : Int))
theorem row3 (w : World) (x y z : Int) (f : Nat → Int) (h0 : f 0 = x) (h1 : f 1 = y) (h2 : f 2 = z) {g : Nat} (hg : g = w.heap.size) : Row (w.alloc (.cells #[.int .i64 x, .int .i64 y, .int .i64 z] 3)) (some ⟨g, 0, none⟩) 3 3 f := by
  subst hg
  refine (Blk.new w #[.int .i64 x, .int .i64 y, .int .i64 z] f (fun i hi => ?_)).row0 (Nat.le_refl _) (show 3 ≤ 9223372036854775807 by decide)
  match i, hi with
  | 0, _ => rw [h0]; rfl
  | 1, _ => rw [h1]; rfl
  | 2, _ => rw [h2]; rfl
theorem lentD_lt (a : Nat → Int) {n i : Nat} (h : i < n) : lentD a n i = a i := by simp [lentD, cat, h]
theorem lentD_marks (a : Nat → Int) (n : Nat) : lentD a n n = -71 ∧ lentD a n (n + 1) = -72 ∧ lentD a n (n + 2) = -73 := by
  refine ⟨by simp [lentD, cat], by simp [lentD, cat]; omega, by simp [lentD, cat]; omega⟩
/-- What Lent answers: a block of its own. -/
def LentA (w w' : World) (v : Value) (n : Nat) (a : Nat → Int) : Prop := ∃ g cap, v = .slice (some ⟨g, 0, none⟩) (n + 3) cap ∧ Out w.heap.size w' v (n + 3) (lentD a n) ∧ Below w.heap.size w w'
end Go.Proofs.YtmjdlcbiaglkeaaDoor
