/-
  Package round: scaled, valueOf, by their contracts.
-/
import Derived.Test.YtcpjdgfnblkfpaaGreatDoorRBin
import Derived.Test.YtcpjdgfnblkfpaaGreatDoorNTz
import Derived.Test.YtcpjdgfnblkfpaaGreatDoorNRoot
import Derived.Test.YtcpjdgfnblkfpaaGreatDoorNG1
import Derived.Deep.RegionWith
namespace Go.Proofs.YtcpjdgfnblkfpaaGreatDoor
open Go Go.RowKit Go.Proofs.YtcpjdgfnblkfpaaGreatDoor.M
set_option linter.unusedSimpArgs false
set_option linter.unusedVariables false

theorem low_mod {V l : Int} (h : LowA V l) (h0 : 0 < V) (k : Nat) : decide (l < (k : Int)) = decide (V % 2 ^ k ≠ 0) := by
  obtain ⟨j, rfl, q, hq⟩ := lowA_pos h h0
  by_cases hjk : j < k
  · rw [decide_eq_true (by omega)]
    refine (decide_eq_true ?_).symm
    intro hz
    obtain ⟨d, hd⟩ : ∃ d, k = j + 1 + d := ⟨k - j - 1, by omega⟩
    have h1 : (2 : Int) ^ k ∣ V := Int.dvd_of_emod_eq_zero hz
    obtain ⟨c, hc⟩ := h1
    rw [hq, hd, Int.pow_add, Int.pow_succ] at hc
    have hp := two_pos j
    have e : (2 : Int) ^ j * (2 * q + 1) = 2 ^ j * (2 * (2 ^ d * c)) := by
      rw [Int.mul_comm, hc]
      simp only [Int.mul_assoc]
    have := Int.eq_of_mul_eq_mul_left (by omega) e
    omega
  · rw [decide_eq_false (by omega)]
    refine (decide_eq_false ?_).symm
    intro hz
    apply hz
    obtain ⟨d, hd⟩ : ∃ d, j = k + d := ⟨j - k, by omega⟩
    rw [hq, hd, Int.pow_add, Int.mul_comm, Int.mul_assoc]
    exact Int.mul_emod_right _ _
set_option maxRecDepth 100000 in
set_option maxHeartbeats 1000000 in
theorem scaled_low (ao : Option Addr) (n ca : Nat) (a : Nat → Int) (k : Nat) (w : World) (ha : Row w ao n ca a) (na : Nrm a n) (hn : n ≤ 5000) (hk0 : 0 < k) (hk : k ≤ 1000000) (h0 : 0 < val a n) (hT : Tab w) :
    Calls Tryz.prog 165 #[.slice ao n ca, .int .i64 (-(k : Int))] w fun e w' => ∃ v, e = .returned (.tuple #[v, .bool (decide (val a n % 2 ^ k ≠ 0))]) ∧ Ans w w' (val a n / 2 ^ k) v := by
  have CL : Hid (∀ W, Below w.heap.size w W → _) := fun W hb => lower_any ao n ca k a W (ha.keeps hb) na.1 (by omega) (by omega)
  have CW : Hid (∀ W, Below w.heap.size w W → _) := fun W hb => lowest_any ao n ca a W (ha.keeps hb) na.1 (by omega) (hT.keeps hb)
  have HM : Hid (∀ l, LowA (val a n) l → decide (l < (k : Int)) = decide (val a n % 2 ^ k ≠ 0)) := fun l h => low_mod h h0 k
  generalize decide (val a n % 2 ^ k ≠ 0) = R at HM ⊢
  generalize val a n / 2 ^ k = Q at CL ⊢
  have w1 : IntKind.i64.wrap (k : Int) = (k : Int) := by rw [wrap_i64_eq]; omega
  go_enter Tryz.func165, Tryz.ntmps165
  go_wp2_with fail
  refine (CL.out _ (bel_refl _)).mono ?_
  rintro _ w2 ⟨v, rfl, hA⟩
  have hb2 := hA.below
  have HA : Hid (Ans w w2 Q v) := hA
  obtain ⟨so, sn, sc, rfl⟩ := hA.num.shape
  clear hA CL
  go_wp2_with fail
  refine (CW.out _ hb2).mono ?_
  rintro _ w3 ⟨l, rfl, hl, rfl⟩
  have hr := HM.out l hl
  go_wp2
  all_goals refine bodyPost_ret (v := .tuple #[.slice so sn sc, .bool R]) (by simp [results, Tryz.results165, go_sem]) rfl ⟨_, rfl, HA.out⟩
set_option maxRecDepth 100000 in
set_option maxHeartbeats 1000000 in
theorem scaled_zero (ao : Option Addr) (n ca : Nat) (a : Nat → Int) (w : World) (ha : Row w ao n ca a) (na : Nrm a n) (hn : n ≤ 5000) :
    Calls Tryz.prog 165 #[.slice ao n ca, .int .i64 0] w fun e w' => ∃ v, e = .returned (.tuple #[v, .bool false]) ∧ Ans w w' (val a n) v := by
  have CR : Hid (Calls Tryz.prog 169 #[.slice ao n ca, .int .i64 0] w fun e w' => ∃ v, e = .returned v ∧ Ans w w' (val a n) v) := by
    have h := raise_any ao n ca 0 a w ha na.1 (by omega) (by omega)
    rw [Int.pow_zero, Int.mul_one] at h
    exact h
  go_enter Tryz.func165, Tryz.ntmps165
  go_wp2_with fail
  refine CR.out.mono ?_
  rintro _ w2 ⟨v, rfl, hA⟩
  have HA : Hid (Ans w w2 (val a n) v) := hA
  obtain ⟨so, sn, sc, rfl⟩ := hA.num.shape
  clear hA CR
  go_wp2
  all_goals refine bodyPost_ret (v := .tuple #[.slice so sn sc, .bool false]) (by simp [results, Tryz.results165, go_sem]) rfl ⟨_, rfl, HA.out⟩
theorem keep3R {W w' : World} {b g o0 o1 o2 : Nat} {x y z : Value} (h : W.cell? ⟨b, o0, none⟩ = some x ∧ W.cell? ⟨b, o1, none⟩ = some y ∧ W.cell? ⟨b, o2, none⟩ = some z) (hw : Wr g W w') (hg : b ≠ g) :
    w'.cell? ⟨b, o0, none⟩ = some x ∧ w'.cell? ⟨b, o1, none⟩ = some y ∧ w'.cell? ⟨b, o2, none⟩ = some z :=
  ⟨(hw.cell (World.block_lt_of_cell? W _ h.1) hg).trans h.1, (hw.cell (World.block_lt_of_cell? W _ h.2.1) hg).trans h.2.1, (hw.cell (World.block_lt_of_cell? W _ h.2.2) hg).trans h.2.2⟩
theorem wr5 (W : World) (g : Nat) (a b c d e : Value) : Wr g W (((((W.setCell ⟨g, 0, none⟩ a).setCell ⟨g, 1, none⟩ b).setCell ⟨g, 2, none⟩ c).setCell ⟨g, 3, none⟩ d).setCell ⟨g, 4, none⟩ e) := (((((Wr.refl g W).setCell 0 a).setCell 1 b).setCell 2 c).setCell 3 d).setCell 4 e
/-- What is cut off a whole number of more than 62 bits. -/
def vK (M : Int) : Nat := blen M - 62
theorem vK_small {M : Int} (h : 0 ≤ M) : 0 ≤ M / 2 ^ vK M ∧ M / 2 ^ vK M < 4611686018427387904 := by
  have hp := two_pos (vK M)
  refine ⟨Int.ediv_nonneg h (by omega), ?_⟩
  have h1 := blen_lt M
  have h2 : (2 : Int) ^ blen M ≤ 2 ^ (62 + vK M) := two_le (by unfold vK; omega)
  have e : (2 : Int) ^ (62 + vK M) = 4611686018427387904 * 2 ^ vK M := by rw [Int.pow_add]; rfl
  exact Int.ediv_lt_of_lt_mul hp (by omega)
theorem blen_nrm {a : Nat → Int} {n : Nat} (na : Nrm a n) : blen (val a n) ≤ 30 * n := by
  cases n with
  | zero => show blen 0 ≤ _; rw [blen_zero]; omega
  | succ m =>
    rw [blen_val na]
    have h : blen (a m) ≤ 30 := blen_le (by show a m < 1073741824; exact (na.1 m (by omega)).2)
    omega
set_option maxRecDepth 100000 in
set_option maxHeartbeats 2000000 in
theorem valueOf_any (ng : Bool) (ao : Option Addr) (n ca : Nat) (a : Nat → Int) (e : Int) (w : World) (ha : Row w ao n ca a) (na : Nrm a n) (hn : n ≤ 5000) (he : -1100000 ≤ e ∧ e ≤ 1100000) (hT : Tab w) :
    Calls Tryz.prog 157 #[.agg #[.bool ng, .slice ao n ca, .int .i64 e]] w fun r w' => r = .returned (valV ng (val a n / 2 ^ vK (val a n)).toNat (e + vK (val a n)) (decide (val a n % 2 ^ vK (val a n) ≠ 0)) false) ∧ Below w.heap.size w w' := by
  have hv0 := val_nonneg na.1
  have hbl : blen (val a n) ≤ 150000 := by have := blen_nrm na; omega
  have CB : Hid (∀ W, Below w.heap.size w W → _) := fun W hb => bitLength_any ao n ca a W (ha.keeps hb) na (by omega)
  obtain ⟨k, hk⟩ : ∃ k, vK (val a n) = k := ⟨_, rfl⟩
  have hsm := vK_small hv0
  rw [hk] at hsm ⊢
  have CS : Hid (∀ W, Below w.heap.size w W → Calls Tryz.prog 165 #[.slice ao n ca, .int .i64 (-(k : Int))] W fun e w' => ∃ v, e = .returned (.tuple #[v, .bool (decide (val a n % 2 ^ k ≠ 0))]) ∧ Ans W w' (val a n / 2 ^ k) v) := fun W hb => by
    by_cases h0 : k = 0
    · subst h0
      have h := scaled_zero ao n ca a W (ha.keeps hb) na hn
      simpa using h
    · have hp : 0 < val a n := by
        rcases Int.lt_or_eq_of_le hv0 with h | h
        · exact h
        · exfalso; rw [← h] at hk; apply h0; rw [← hk]; decide
      exact scaled_low ao n ca a k W (ha.keeps hb) na hn (by omega) (by unfold vK at hk; omega) hp (hT.keeps hb)
  have hbk : min (62 - (blen (val a n) : Int)) 0 = -(k : Int) := by unfold vK at hk; omega
  obtain ⟨B, hB⟩ : ∃ B : Int, (blen (val a n) : Int) = B := ⟨_, rfl⟩
  have hB0 : 0 ≤ B ∧ B ≤ 150000 := by omega
  rw [hB] at CB hbk
  have hk2 : k ≤ 150000 := by unfold vK at hk; omega
  generalize decide (val a n % 2 ^ k ≠ 0) = R at CS ⊢
  obtain ⟨Q, hQ⟩ : ∃ Q : Nat, val a n / 2 ^ k = (Q : Int) := Int.eq_ofNat_of_zero_le hsm.1
  rw [hQ] at CS hsm ⊢
  rw [Int.toNat_natCast]
  have CM : Hid (∀ (W' : World) so sn sc, Num W' (.slice so sn sc) (Q : Int) → Calls Tryz.prog 166 #[.slice so sn sc] W' fun e w' => e = .returned (.int .i64 (Q : Int)) ∧ w' = W') := fun W' so sn sc hA => by
    obtain ⟨ao', n', ca', d', hs, hR, hN, hV, hl⟩ := hA.parts (k := 3) (by rw [show P 3 = 1237940039285380274899124224 by decide]; omega)
    simp only [Value.slice.injEq] at hs
    obtain ⟨rfl, rfl, rfl⟩ := hs
    rw [← hV]
    exact small_any _ _ _ _ _ hR hN.1 hl (by omega)
  have w1 : IntKind.i64.wrap (62 - B) = 62 - B := by rw [wrap_i64_eq]; omega
  have w2 : IntKind.i64.wrap (e + k) = e + k := by rw [wrap_i64_eq]; omega
  have w3 : IntKind.u64.wrap (Q : Int) = (Q : Int) := by rw [IntKind.wrap_u64]; omega
  have hmin : ∀ (ts : Array TypeId) (t : TypeId) (x y : Int) (w : World), (Builtin.min_ ts t #[.int .i64 x, .int .i64 y]).run Tryz.prog w = .ok (.int .i64 (min x y)) w := fun ts t x y w => by rw [run_min_int2]; congr 2; omega
  have q0 := heap_a2 w (.cells #[.bool ng, .slice ao n ca, .int .i64 e] 37) (.cells #[.bool false, .int .u64 0, .int .i64 0, .bool false, .bool false] 170)
  have q1 := heap_b2 w (.cells #[.bool ng, .slice ao n ca, .int .i64 e] 37) (.cells #[.bool false, .int .u64 0, .int .i64 0, .bool false, .bool false] 170)
  have hb1 := bel_alloc2 w (.cells #[.bool ng, .slice ao n ca, .int .i64 e] 37) (.cells #[.bool false, .int .u64 0, .int .i64 0, .bool false, .bool false] 170)
  clear hQ hk hB hbl hv0 hsm hT
  unfold valV
  go_enter Tryz.func157, Tryz.ntmps157
  go_wp2_with fail
  generalize (w.alloc (.cells #[.bool ng, .slice ao n ca, .int .i64 e] 37)).alloc (.cells #[.bool false, .int .u64 0, .int .i64 0, .bool false, .bool false] 170) = wx at q0 q1 hb1 ⊢
  refine (CB.out _ hb1).mono ?_
  rintro _ _ ⟨rfl, rfl⟩
  have k1 := blkC q0 1 rfl
  go_wp2_with fail
  refine (CS.out _ hb1).mono ?_
  rintro _ w4 ⟨v, rfl, hA⟩
  have hb4 := hA.below
  obtain ⟨so, sn, sc, rfl⟩ := hA.num.shape
  have CM1 : Hid (Calls Tryz.prog 166 #[.slice so sn sc] w4.drew fun e w' => e = .returned (.int .i64 (Q : Int)) ∧ w' = w4.drew) := CM.out w4.drew so sn sc (hA.num.keeps (bel_refl w4).drew)
  have hbw := bel_trans hb1 hb4
  have p0 := (hb4.block _ (Array.getElem?_eq_some_iff.1 q0).1).trans q0
  have p1 := (hb4.block _ (Array.getElem?_eq_some_iff.1 q1).1).trans q1
  clear CB CS k1 hA CM
  have c0 := blkC p0 0 rfl
  have c2 := blkC p0 2 rfl
  have x0 := blkC p1 0 rfl
  have x1 := blkC p1 1 rfl
  have x2 := blkC p1 2 rfl
  have x3 := blkC p1 3 rfl
  have x4 := blkC p1 4 rfl
  have z0 := blkF p1 0
  have z1 := blkF p1 1
  have z2 := blkF p1 2
  have z3 := blkF p1 3
  have z4 := blkF p1 4
  go_wp2_with fail
  have c1 := blkC p0 1 rfl
  go_region_with (go_at_call 166; refine CM1.out.mono ?_; rintro _ _ ⟨rfl, rfl⟩)
  all_goals go_wp2
  all_goals refine bodyPost_ret (v := .agg #[.bool ng, .int .u64 Q, .int .i64 (e + k), .bool R, .bool false]) (by simp [results, Tryz.results157, go_sem, x0, x1, x2, x3, x4]) rfl ⟨rfl, ?_⟩
  all_goals exact ((wr5 w4 (w.heap.size + 1) _ _ _ _ _).below hbw hbw.size (Nat.le_succ _)).drew
end Go.Proofs.YtcpjdgfnblkfpaaGreatDoor
