/-
  Parts of the proof, one behind another.
-/
import Derived.Test.YtfgmhmkbilkfbaaGreatDoorPart8
import Derived.Test.YtfgmhmkbilkfbaaGreatDoorPart7
import Derived.Test.YtfgmhmkbilkfbaaGreatDoorPart6
import Derived.Laws.Externs
import Derived.Laws.Cover2
import Derived.Test.YtfgmhmkbilkfbaaGreatDoorPart3
import Derived.Test.YtfgmhmkbilkfbaaGreatDoorPart1
import Derived.Test.YtfgmhmkbilkfbaaGreatDoorPart5
import Derived.Deep.RegionHeld3
/-
  Package round: itself, rounded, To, by their contracts.
-/
namespace Go.Proofs.YtfgmhmkbilkfbaaGreatDoor
open Go Go.RowKit Go.Proofs.YtfgmhmkbilkfbaaGreatDoor.M
set_option linter.unusedSimpArgs false
set_option linter.unusedVariables false

set_option maxRecDepth 100000 in
set_option maxHeartbeats 1000000 in
/-- One number, as it is. -/
theorem itself_any (p : Nat) (off cap len : Nat) (ng : Bool) (ao : Option Addr) (n ca : Nat) (a : Nat → Int) (e : Int) (w : World) (c0 : w.cell? ⟨p, off, none⟩ = some (.bool ng)) (c1 : w.cell? ⟨p, off + 1, none⟩ = some (.slice ao n ca)) (c2 : w.cell? ⟨p, off + 2, none⟩ = some (.int .i64 e)) (hl : 0 < len) (ha : Row w ao n ca a) (na : Nrm a n) (hn : n ≤ 5000) (he : -1100000 ≤ e ∧ e ≤ 1100000) (hT : Tab w) :
    Calls Tryz.prog 152 #[.slice (some ⟨p, off, none⟩) len cap] w fun r w' => r = .returned (.tuple #[valV ng (val a n / 2 ^ vK (val a n)).toNat (e + vK (val a n)) (decide (val a n % 2 ^ vK (val a n) ≠ 0)) false, .int .i64 0]) ∧ Below w.heap.size w w' := by
  have CV : Hid (∀ W, Below w.heap.size w W → _) := fun W hb => valueOf_any ng ao n ca a e W (ha.keeps hb) na hn he (hT.keeps hb)
  unfold valV at *
  generalize (val a n / 2 ^ vK (val a n)).toNat = Q at CV ⊢
  generalize e + vK (val a n) = E at CV ⊢
  generalize decide (val a n % 2 ^ vK (val a n) ≠ 0) = R at CV ⊢
  have q0 := heap_alloc_new w (.cells #[.bool false, .int .u64 0, .int .i64 0, .bool false, .bool false] 157)
  have hb1 := bel_alloc w (.cells #[.bool false, .int .u64 0, .int .i64 0, .bool false, .bool false] 157)
  have d0 := cell_keeps c0 hb1
  have d1 := cell_keeps c1 hb1
  have d2 := cell_keeps c2 hb1
  go_enter Tryz.func152, Tryz.ntmps152
  go_wp2_with fail
  refine (CV.out _ hb1).mono ?_
  rintro _ w2 ⟨rfl, hb2⟩
  have p1 := (hb2.block _ (Array.getElem?_eq_some_iff.1 q0).1).trans q0
  have hbw := bel_trans hb1 hb2
  clear d0 d1 d2 c0 c1 c2 CV
  have x0 := blkC p1 0 rfl
  have x1 := blkC p1 1 rfl
  have x2 := blkC p1 2 rfl
  have x3 := blkC p1 3 rfl
  have x4 := blkC p1 4 rfl
  have z0 := blkF p1 0
  have z1 := blkF p1 1
  have z2 := blkF p1 2
  have z3 := blkF p1 3
  have z4 := blkF p1 4
  go_wp2
  all_goals refine bodyPost_ret (v := .tuple #[.agg #[.bool ng, .int .u64 Q, .int .i64 E, .bool R, .bool false], .int .i64 0]) (by simp [results, Tryz.results152, go_sem, x0, x1, x2, x3, x4]) rfl ⟨rfl, ?_⟩
  all_goals exact (wr5 w2 w.heap.size _ _ _ _ _).below hbw hbw.size (Nat.le_refl _)
set_option maxRecDepth 100000 in
set_option maxHeartbeats 1000000 in
theorem rounded_ok (way : Int) (hw : 0 ≤ way ∧ way ≤ 3) (F G : Nat) (lo : Option Addr) (ln lc : Nat) (r : Nat → NumR) (w : World) (hl : Nums w lo ln lc r) (ok : ∀ i, i < ln → okR (r i) = true) (ng : Bool) (mag : Nat) (exp : Int) (cut sd : Bool) (b : Int) (o : Bool)
    (hEF : ∀ (cap : Array Value) (w : World), (callFunc F cap).run Tryz.prog w = .ok (.enter F cap) w) (hEG : ∀ (cap : Array Value) (w : World), (callFunc G cap).run Tryz.prog w = .ok (.enter G cap) w)
    (hG : ∀ W, Below w.heap.size w W → Calls Tryz.prog G #[.slice lo ln lc] W fun e w' => e = .returned (.tuple #[valV ng mag exp cut sd, .int .i64 0]) ∧ Below W.heap.size W w')
    (hF : ∀ W, Below w.heap.size w W → Calls Tryz.prog F #[valV ng mag exp cut sd, wayV way] W fun e w' => e = .returned (.tuple #[.int .i64 b, .bool o]) ∧ Below W.heap.size W w') :
    Calls Tryz.prog 150 #[.int .i64 way, .func (.func F) #[] #[], .func (.func G) #[] #[], .slice lo ln lc] w fun e w' => e = .returned (.tuple #[.int .i64 b, .bool o, .int .i64 0]) ∧ Below w.heap.size w w' := by
  have hst : ∀ (p : Addr) (F : Nat) (m : Mode) (w : World), (store p (.func (.func F) #[] #[]) m).run Tryz.prog w = stored Tryz.prog w p (.func (.func F) #[] #[]) m := fun p F m w => run_store _ w p _ m rfl
  have hle := hl.le
  have hma := hl.max
  unfold valV wayV at *
  have CW := wayOf_any way w
  rw [if_pos hw, decide_eq_true hw] at CW
  unfold wayV at CW
  generalize wayF way = K at *
  go_enter Tryz.func150, Tryz.ntmps150
  go_wp2_with fail
  refine CW.mono ?_
  rintro _ w1 ⟨rfl, hb1⟩
  have q1 := heap_alloc_new w1 (.cells #[.nilFunc] 167)
  have y0 := blkC q1 0 rfl
  have y1 := blkF q1 0
  go_wp2_with fail
  have q2 := heap_alloc_new w1 (.cells #[.func (.func K) #[] #[]] 167)
  have hb2 := bel_trans hb1 (bel_alloc w1 (.cells #[.func (.func K) #[] #[]] 167))
  generalize w1.alloc (.cells #[.func (.func K) #[] #[]] 167) = w2 at q2 hb2 ⊢
  clear q1 y0 y1 CW
  go_loopw [28] (fun iv wr => ∃ k : Nat, iv = .int .i64 k ∧ k ≤ ln ∧ Hid (wr.heap[w1.heap.size]? = some (.cells #[.func (.func K) #[] #[]] 167 (0, 0))) ∧ Below w.heap.size w wr) (fun iv _ => ln - (intOf iv).toNat)
  case atStart => exact ⟨0, rfl, Nat.zero_le _, q2, hb2⟩
  case round =>
    clear q2 hb2
    obtain ⟨k, rfl, hk, HQ, hbw⟩ := hrel
    by_cases hlt : k < ln
    · obtain ⟨ba, oa, rfl, hba, hca⟩ := hl.spot (by omega)
      obtain ⟨c0, c1, c2, hR⟩ := (hca k hlt).keeps hbw hba
      have hok := ok k hlt
      have CV := fun W (hb : Below wr.heap.size wr W) => dvalid_any (r k).ng (r k).ao (r k).n (r k).cap (r k).d (r k).e W (hR.keeps hb)
      unfold okR at hok
      rw [hok] at CV
      clear hok hR hca
      generalize r k = x at c0 c1 c2 CV
      obtain ⟨x_g, x_o, x_n, x_c, x_d, x_e⟩ := x
      simp only at c0 c1 c2 CV
      have hb3 := bel_alloc wr (.cells #[.bool x_g, .slice x_o x_n x_c, .int .i64 x_e] 27)
      have HQ3 : Hid ((wr.alloc (.cells #[.bool x_g, .slice x_o x_n x_c, .int .i64 x_e] 27)).heap[w1.heap.size]? = some (.cells #[.func (.func K) #[] #[]] 167 (0, 0))) := (hb3.block _ (Array.getElem?_eq_some_iff.1 HQ.out).1).trans HQ.out
      go_wp2_with fail
      refine (CV _ hb3).mono ?_
      rintro _ w4 ⟨rfl, hb4⟩
      have HQ4 : Hid (w4.heap[w1.heap.size]? = some (.cells #[.func (.func K) #[] #[]] 167 (0, 0))) := (hb4.block _ (Array.getElem?_eq_some_iff.1 HQ3.out).1).trans HQ3.out
      have hbw4 := hbw.trans ((bel_trans hb3 hb4).mono hbw.size)
      clear CV HQ3 hb3 hb4 c0 c1 c2
      go_wp2
      go_roundw
      case rel => exact ⟨k + 1, by go_num, by omega, HQ4.out, hbw4⟩
      case measure => simp [intOf]; omega
    · obtain rfl : k = ln := by omega
      go_wp2_with fail
      refine (hG _ hbw).mono ?_
      rintro _ w4 ⟨rfl, hb4⟩
      have p4 := (hb4.block _ (Array.getElem?_eq_some_iff.1 HQ.out).1).trans HQ.out
      have hbw4 := hbw.trans (hb4.mono hbw.size)
      have hb5 := bel_alloc w4 (.cells #[.bool ng, .int .u64 mag, .int .i64 exp, .bool cut, .bool sd] 157)
      have kw := cell_keeps (blkC p4 0 rfl) hb5
      have hbw5 := hbw4.trans (hb5.mono hbw4.size)
      clear hG hb4
      go_wp2_with fail
      refine (hF _ hbw5).mono ?_
      rintro _ w6 ⟨rfl, hb6⟩
      go_wp2
      all_goals refine bodyPost_ret (v := .tuple #[.int .i64 b, .bool o, .int .i64 0]) (by simp [results, Tryz.results150, go_sem]) rfl ⟨rfl, hbw5.trans (hb6.mono hbw5.size)⟩
set_option maxRecDepth 100000 in
set_option maxHeartbeats 1000000 in
theorem to_ok (way : Int) (hw : 0 ≤ way ∧ way ≤ 3) (x : NumR) (w : World) (hx : Row w x.ao x.n x.cap x.d) (ok : okR x = true) (Ev : Env w) (hT : Tab w) :
    Calls Tryz.prog 126 #[x.v, .int .i64 way] w fun e w' => e = .returned (.tuple #[.int .i64 (r64 way x.ng false (val x.d x.n / 2 ^ vK (val x.d x.n)).toNat (x.e + vK (val x.d x.n)) (decide (val x.d x.n % 2 ^ vK (val x.d x.n) ≠ 0))).1, .bool (r64 way x.ng false (val x.d x.n / 2 ^ vK (val x.d x.n)).toNat (x.e + vK (val x.d x.n)) (decide (val x.d x.n % 2 ^ vK (val x.d x.n) ≠ 0))).2, .int .i64 0]) ∧ Below w.heap.size w w' := by
  have hS := okR_sane ok
  obtain ⟨na, hn, he0, he1⟩ := hS
  have hv0 := val_nonneg na.1
  have hbl : vK (val x.d x.n) ≤ 150000 := by have := blen_nrm na; unfold vK; omega
  have hsm := vK_small hv0
  have hEF : ∀ (cap : Array Value) (w : World), (callFunc 151 cap).run Tryz.prog w = .ok (.enter 151 cap) w := by
    intro cap w
    simp [go_sem]
  have hEG : ∀ (cap : Array Value) (w : World), (callFunc 152 cap).run Tryz.prog w = .ok (.enter 152 cap) w := by
    intro cap w
    simp [go_sem]
  have hmf : ∀ (fn : Fn) (first cap : Array Value) (w : World), (Instr.makeFunc fn first cap).run Tryz.prog w = .ok (.func fn first cap) w := fun _ _ _ _ => rfl
  have CR := fun W (hb : Below w.heap.size w W) (g : Nat) (hg : W.heap[g]? = some (.cells #[.bool x.ng, .slice x.ao x.n x.cap, .int .i64 x.e] 27 (0, 0))) => rounded_ok way hw 151 152 (some ⟨g, 0, none⟩) 1 1 (fun _ => x) W
    ⟨Nat.le_refl _, by decide, fun _ => ⟨g, 0, rfl, (Array.getElem?_eq_some_iff.1 hg).1, fun i hi => by
      obtain rfl : i = 0 := by omega
      exact ⟨blkC hg 0 rfl, blkC hg 1 rfl, blkC hg 2 rfl, hx.keeps hb⟩⟩⟩ (fun _ _ => ok) x.ng (val x.d x.n / 2 ^ vK (val x.d x.n)).toNat (x.e + vK (val x.d x.n)) (decide (val x.d x.n % 2 ^ vK (val x.d x.n) ≠ 0)) false _ _ hEF hEG
    (fun W2 hb2 => itself_any g 0 1 1 x.ng x.ao x.n x.cap x.d x.e W2 (cell_keeps (blkC hg 0 rfl) hb2) (cell_keeps (blkC hg 1 rfl) hb2) (cell_keeps (blkC hg 2 rfl) hb2) (by decide) ((hx.keeps hb).keeps hb2) na hn ⟨he0, he1⟩ ((hT.keeps hb).keeps hb2))
    (fun W2 hb2 => binary64_any way hw x.ng false _ _ _ W2 ((Ev.keeps hb).keeps hb2) (by omega) (by omega))
  generalize r64 way x.ng false (val x.d x.n / 2 ^ vK (val x.d x.n)).toNat (x.e + vK (val x.d x.n)) (decide (val x.d x.n % 2 ^ vK (val x.d x.n) ≠ 0)) = R at CR ⊢
  have HCR : Hid _ := CR
  unfold NumR.v
  clear ok hsm hbl hv0 he0 he1 hn na hx
  obtain ⟨x_g, x_o, x_n, x_c, x_d, x_e⟩ := x
  simp only at *
  clear HCR
  have hb2 := bel_alloc2 w (.cells #[.bool x_g, .slice x_o x_n x_c, .int .i64 x_e] 27) (.cells #[.bool x_g, .slice x_o x_n x_c, .int .i64 x_e] 27)
  have q1 := heap_b2 w (.cells #[.bool x_g, .slice x_o x_n x_c, .int .i64 x_e] 27) (.cells #[.bool x_g, .slice x_o x_n x_c, .int .i64 x_e] 27)
  go_enter Tryz.func126, Tryz.ntmps126
  go_wp2_with fail
  refine (CR _ hb2 _ q1).mono ?_
  rintro _ w2 ⟨rfl, hb3⟩
  go_wp2
  all_goals refine bodyPost_ret (v := .tuple #[.int .i64 R.1, .bool R.2, .int .i64 0]) (by simp [results, Tryz.results126, go_sem]) rfl ⟨rfl, bel_trans hb2 hb3⟩
end Go.Proofs.YtfgmhmkbilkfbaaGreatDoor

/-
  Package round: quotient, Quot, by their contracts.
-/
namespace Go.Proofs.YtfgmhmkbilkfbaaGreatDoor
open Go Go.RowKit Go.Proofs.YtfgmhmkbilkfbaaGreatDoor.M
set_option linter.unusedSimpArgs false
set_option linter.unusedVariables false

set_option maxRecDepth 100000 in
set_option maxHeartbeats 1000000 in
theorem scaled_high (ao : Option Addr) (n ca : Nat) (a : Nat → Int) (k : Nat) (w : World) (ha : Row w ao n ca a) (na : Nrm a n) (hn : n ≤ 5000) (hk : k ≤ 1000000) :
    Calls Tryz.prog 186 #[.slice ao n ca, .int .i64 (k : Int)] w fun e w' => ∃ v, e = .returned (.tuple #[v, .bool false]) ∧ Ans w w' (val a n * 2 ^ k) v := by
  have CR : Hid (Calls Tryz.prog 191 #[.slice ao n ca, .int .i64 (k : Int)] w fun e w' => ∃ v, e = .returned v ∧ Ans w w' (val a n * 2 ^ k) v) := raise_any ao n ca k a w ha na.1 (by omega) hk
  generalize val a n * 2 ^ k = Q at CR ⊢
  go_enter Tryz.func186, Tryz.ntmps186
  go_wp2_with fail
  refine CR.out.mono ?_
  rintro _ w2 ⟨v, rfl, hA⟩
  have HA : Hid (Ans w w2 Q v) := hA
  obtain ⟨so, sn, sc, rfl⟩ := hA.num.shape
  clear hA CR
  go_wp2
  all_goals refine bodyPost_ret (v := .tuple #[.slice so sn sc, .bool false]) (by simp [results, Tryz.results186, go_sem]) rfl ⟨_, rfl, HA.out⟩
/-- A number times 2^k, as far as it is whole. -/
def scV (A k : Int) : Int := if 0 ≤ k then A * 2 ^ k.toNat else A / 2 ^ (-k).toNat
def scC (A k : Int) : Bool := if 0 ≤ k then false else decide (A % 2 ^ (-k).toNat ≠ 0)
theorem scaled_any (ao : Option Addr) (n ca : Nat) (a : Nat → Int) (k : Int) (w : World) (ha : Row w ao n ca a) (na : Nrm a n) (hn : n ≤ 5000) (hk : -1000000 ≤ k ∧ k ≤ 1000000) (h0 : k < 0 → 0 < val a n) (hT : Tab w) :
    Calls Tryz.prog 186 #[.slice ao n ca, .int .i64 k] w fun e w' => ∃ v, e = .returned (.tuple #[v, .bool (scC (val a n) k)]) ∧ Ans w w' (scV (val a n) k) v := by
  unfold scV scC
  by_cases h : 0 ≤ k
  · rw [if_pos h, if_pos h]
    have := scaled_high ao n ca a k.toNat w ha na hn (by omega)
    rwa [Int.toNat_of_nonneg h] at this
  · rw [if_neg h, if_neg h]
    have := scaled_low ao n ca a (-k).toNat w ha na hn (by omega) (by omega) (h0 (by omega)) hT
    rwa [Int.toNat_of_nonneg (by omega), Int.neg_neg] at this
theorem num_len0 {w : World} {so : Option Addr} {sn sc : Nat} {M : Int} (h : Num w (.slice so sn sc) M) : decide (M ≠ 0) = decide ((0 : Int) < (sn : Int)) := by
  obtain ⟨ao, n, ca, d, hs, hR, hN, hV⟩ := h
  simp only [Value.slice.injEq] at hs
  obtain ⟨rfl, rfl, rfl⟩ := hs
  by_cases h0 : sn = 0
  · subst h0
    rw [← hV]
    rfl
  · have := val_pos hN (by omega)
    rw [decide_eq_true (by omega), decide_eq_true (by omega)]
/-- The bits that a quotient's dividend is brought to. -/
def qK (A B : Int) : Int := 62 + (blen B : Int) - (blen A : Int)
theorem qK_small {A B : Int} (hA : 0 ≤ A) (hB : 0 < B) : 0 ≤ scV A (qK A B) ∧ scV A (qK A B) < B * 9223372036854775808 ∧ 0 ≤ scV A (qK A B) / B ∧ scV A (qK A B) / B < 9223372036854775808 := by
  have b1 := blen_lt A
  have b2 := blen_pos hB
  have hs : 0 ≤ scV A (qK A B) ∧ scV A (qK A B) < 2 ^ (62 + blen B) := by
    unfold scV qK
    by_cases h : 0 ≤ 62 + (blen B : Int) - (blen A : Int)
    · rw [if_pos h]
      have hp := two_pos (62 + (blen B : Int) - (blen A : Int)).toNat
      refine ⟨Int.mul_nonneg hA (by omega), ?_⟩
      have e : (2 : Int) ^ (62 + blen B) = 2 ^ blen A * 2 ^ (62 + (blen B : Int) - (blen A : Int)).toNat := by rw [← Int.pow_add]; congr 1; omega
      rw [e]
      exact Int.mul_lt_mul_of_pos_right b1 hp
    · rw [if_neg h]
      have hp := two_pos (-(62 + (blen B : Int) - (blen A : Int))).toNat
      refine ⟨Int.ediv_nonneg hA (by omega), ?_⟩
      apply Int.ediv_lt_of_lt_mul hp
      rw [← Int.pow_add]
      rw [show 62 + blen B + (-(62 + (blen B : Int) - (blen A : Int))).toNat = blen A by omega]
      exact b1
  have e2 : (2 : Int) ^ (62 + blen B) = 2 ^ (blen B - 1) * 9223372036854775808 := by
    rw [show (9223372036854775808 : Int) = 2 ^ 63 by decide, ← Int.pow_add]; congr 1; omega
  have h3 : (2 : Int) ^ (blen B - 1) * 9223372036854775808 ≤ B * 9223372036854775808 := Int.mul_le_mul_of_nonneg_right b2.2 (by decide)
  refine ⟨hs.1, by omega, Int.ediv_nonneg hs.1 (by omega), ?_⟩
  apply Int.ediv_lt_of_lt_mul hB
  rw [Int.mul_comm]
  omega
theorem cells4_set {a b g o : Nat} {v : Value} {x0 x1 x2 x3 : Value} {W : World} (ha : a ≠ g) (hb : b ≠ g) (h : W.cell? ⟨a, 0, none⟩ = some x0 ∧ W.cell? ⟨a, 2, none⟩ = some x1 ∧ W.cell? ⟨b, 0, none⟩ = some x2 ∧ W.cell? ⟨b, 2, none⟩ = some x3) :
    (W.setCell ⟨g, o, none⟩ v).cell? ⟨a, 0, none⟩ = some x0 ∧ (W.setCell ⟨g, o, none⟩ v).cell? ⟨a, 2, none⟩ = some x1 ∧ (W.setCell ⟨g, o, none⟩ v).cell? ⟨b, 0, none⟩ = some x2 ∧ (W.setCell ⟨g, o, none⟩ v).cell? ⟨b, 2, none⟩ = some x3 := by
  have hw : Wr g W (W.setCell ⟨g, o, none⟩ v) := (Wr.refl g W).setCell o v
  obtain ⟨a0, a1, a2, a3⟩ := h
  exact ⟨(hw.cell (World.block_lt_of_cell? W _ a0) ha).trans a0, (hw.cell (World.block_lt_of_cell? W _ a1) ha).trans a1, (hw.cell (World.block_lt_of_cell? W _ a2) hb).trans a2, (hw.cell (World.block_lt_of_cell? W _ a3) hb).trans a3⟩
theorem cells4_drew {a b : Nat} {x0 x1 x2 x3 : Value} {W : World} (h : W.cell? ⟨a, 0, none⟩ = some x0 ∧ W.cell? ⟨a, 2, none⟩ = some x1 ∧ W.cell? ⟨b, 0, none⟩ = some x2 ∧ W.cell? ⟨b, 2, none⟩ = some x3) :
    W.drew.cell? ⟨a, 0, none⟩ = some x0 ∧ W.drew.cell? ⟨a, 2, none⟩ = some x1 ∧ W.drew.cell? ⟨b, 0, none⟩ = some x2 ∧ W.drew.cell? ⟨b, 2, none⟩ = some x3 := h
theorem cells6_alloc {p B : Nat} {x0 x1 x2 x3 x4 x5 : Value} {W : World} (o : Obj) (h : p < B ∧ B ≤ W.heap.size ∧ W.cell? ⟨p, 0, none⟩ = some x0 ∧ W.cell? ⟨p, 1, none⟩ = some x1 ∧ W.cell? ⟨p, 2, none⟩ = some x2 ∧ W.cell? ⟨p, 3, none⟩ = some x3 ∧ W.cell? ⟨p, 4, none⟩ = some x4 ∧ W.cell? ⟨p, 5, none⟩ = some x5) :
    p < B ∧ B ≤ (W.alloc o).heap.size ∧ (W.alloc o).cell? ⟨p, 0, none⟩ = some x0 ∧ (W.alloc o).cell? ⟨p, 1, none⟩ = some x1 ∧ (W.alloc o).cell? ⟨p, 2, none⟩ = some x2 ∧ (W.alloc o).cell? ⟨p, 3, none⟩ = some x3 ∧ (W.alloc o).cell? ⟨p, 4, none⟩ = some x4 ∧ (W.alloc o).cell? ⟨p, 5, none⟩ = some x5 := by
  have hb := bel_alloc W o
  obtain ⟨h1, h2, a0, a1, a2, a3, a4, a5⟩ := h
  exact ⟨h1, Nat.le_trans h2 hb.size, cell_keeps a0 hb, cell_keeps a1 hb, cell_keeps a2 hb, cell_keeps a3 hb, cell_keeps a4 hb, cell_keeps a5 hb⟩
theorem cells6_set {p B g o : Nat} {v : Value} {x0 x1 x2 x3 x4 x5 : Value} {W : World} (hg : B ≤ g) (h : p < B ∧ B ≤ W.heap.size ∧ W.cell? ⟨p, 0, none⟩ = some x0 ∧ W.cell? ⟨p, 1, none⟩ = some x1 ∧ W.cell? ⟨p, 2, none⟩ = some x2 ∧ W.cell? ⟨p, 3, none⟩ = some x3 ∧ W.cell? ⟨p, 4, none⟩ = some x4 ∧ W.cell? ⟨p, 5, none⟩ = some x5) :
    p < B ∧ B ≤ (W.setCell ⟨g, o, none⟩ v).heap.size ∧ (W.setCell ⟨g, o, none⟩ v).cell? ⟨p, 0, none⟩ = some x0 ∧ (W.setCell ⟨g, o, none⟩ v).cell? ⟨p, 1, none⟩ = some x1 ∧ (W.setCell ⟨g, o, none⟩ v).cell? ⟨p, 2, none⟩ = some x2 ∧ (W.setCell ⟨g, o, none⟩ v).cell? ⟨p, 3, none⟩ = some x3 ∧ (W.setCell ⟨g, o, none⟩ v).cell? ⟨p, 4, none⟩ = some x4 ∧ (W.setCell ⟨g, o, none⟩ v).cell? ⟨p, 5, none⟩ = some x5 := by
  have hw : Wr g W (W.setCell ⟨g, o, none⟩ v) := (Wr.refl g W).setCell o v
  obtain ⟨h1, h2, a0, a1, a2, a3, a4, a5⟩ := h
  have hp : p < W.heap.size := by omega
  have hne : p ≠ g := by omega
  exact ⟨h1, Nat.le_trans h2 hw.size, (hw.cell hp hne).trans a0, (hw.cell hp hne).trans a1, (hw.cell hp hne).trans a2, (hw.cell hp hne).trans a3, (hw.cell hp hne).trans a4, (hw.cell hp hne).trans a5⟩
end Go.Proofs.YtfgmhmkbilkfbaaGreatDoor

/-
  Package round: quotient, by its contract. (Written by tools/r_quot2.py.)
-/
namespace Go.Proofs.YtfgmhmkbilkfbaaGreatDoor
open Go Go.RowKit Go.Proofs.YtfgmhmkbilkfbaaGreatDoor.M
set_option linter.unusedSimpArgs false
set_option linter.unusedVariables false

end Go.Proofs.YtfgmhmkbilkfbaaGreatDoor

/-
  Package round: Quot, by its contract.
-/
namespace Go.Proofs.YtfgmhmkbilkfbaaGreatDoor
open Go Go.RowKit Go.Proofs.YtfgmhmkbilkfbaaGreatDoor.M
set_option linter.unusedSimpArgs false
set_option linter.unusedVariables false

/-- What Quot answers at numbers that are valid, the second not 0. -/
def qR64 (way : Int) (a b : NumR) : Int × Bool := r64 way (a.ng != b.ng) false (scV (val a.d a.n) (qK (val a.d a.n) (val b.d b.n)) / val b.d b.n).toNat (a.e - b.e - qK (val a.d a.n) (val b.d b.n)) (scC (val a.d a.n) (qK (val a.d a.n) (val b.d b.n)) || decide (scV (val a.d a.n) (qK (val a.d a.n) (val b.d b.n)) % val b.d b.n ≠ 0))
end Go.Proofs.YtfgmhmkbilkfbaaGreatDoor

/-
  Package round: sums to the nearest, by their contracts.
-/
namespace Go.Proofs.YtfgmhmkbilkfbaaGreatDoor
open Go Go.RowKit Go.Proofs.YtfgmhmkbilkfbaaGreatDoor.M
set_option linter.unusedSimpArgs false
set_option linter.unusedVariables false

set_option maxRecDepth 100000 in
set_option maxHeartbeats 1000000 in
theorem operate_near (F G : Value) (hF : ∃ f, F = .func f #[] #[]) (hG : ∃ f, G = .func f #[] #[]) (near : Int) (R : Value) (o : Option Addr) (n c : Nat) (w : World) :
    Calls Tryz.prog 175 #[.agg #[F, G], .int .i64 near, .int .i64 0, R, .slice o n c] w fun e w' => e = .returned (.tuple #[.int .i64 near, .int .i64 0]) ∧ Below w.heap.size w w' := by
  obtain ⟨f, rfl⟩ := hF
  obtain ⟨g, rfl⟩ := hG
  have CW := fun W => wayOf_any 0 W
  unfold wayV wayF at CW
  simp only [if_true] at CW
  have hst : ∀ (p : Addr) (F : Nat) (m : Mode) (w : World), (store p (.func (.func F) #[] #[]) m).run Tryz.prog w = stored Tryz.prog w p (.func (.func F) #[] #[]) m := fun p F m w => run_store _ w p _ m rfl
  go_enter Tryz.func175, Tryz.ntmps175
  go_wp2_with fail
  refine (CW _).mono ?_
  rintro _ w2 ⟨rfl, hb2⟩
  have hb1 := bel_alloc w (.cells #[.func f #[] #[], .func g #[] #[]] 177)
  have hbw := bel_trans hb1 hb2
  have q1 := heap_alloc_new w2 (.cells #[.nilFunc] 167)
  have y0 := blkC q1 0 rfl
  have y1 := blkF q1 0
  clear CW
  go_wp2
  all_goals refine bodyPost_ret (v := .tuple #[.int .i64 near, .int .i64 0]) (by simp [results, Tryz.results175, go_sem]) rfl ⟨rfl, ?_⟩
  all_goals exact bel_trans hbw (bel_alloc _ _)
set_option maxRecDepth 100000 in
theorem double_any (w : World) : Calls Tryz.prog 174 #[] w fun e w' => e = .returned (.agg #[.func (.func 48) #[] #[], .func (.func 151) #[] #[]]) ∧ Below w.heap.size w w' := by
  have hmf : ∀ (fn : Fn) (first cap : Array Value) (w : World), (Instr.makeFunc fn first cap).run Tryz.prog w = .ok (.func fn first cap) w := fun _ _ _ _ => rfl
  have hst : ∀ (p : Addr) (F : Nat) (m : Mode) (w : World), (store p (.func (.func F) #[] #[]) m).run Tryz.prog w = stored Tryz.prog w p (.func (.func F) #[] #[]) m := fun p F m w => run_store _ w p _ m rfl
  have q1 := heap_alloc_new w (.cells #[.nilFunc, .nilFunc] 177)
  have x0 := blkC q1 0 rfl
  have x1 := blkC q1 1 rfl
  have z0 := blkF q1 0
  have z1 := blkF q1 1
  go_enter Tryz.func174, Tryz.ntmps174
  go_wp2
  all_goals refine bodyPost_ret (v := .agg #[.func (.func 48) #[] #[], .func (.func 151) #[] #[]]) (by simp [results, Tryz.results174, go_sem]) rfl ⟨rfl, ?_⟩
  all_goals exact bel_alloc _ _
end Go.Proofs.YtfgmhmkbilkfbaaGreatDoor

/-
  Floats made of patterns; 'alive' of plumblaw1: it answers true, in every world that holds the two layouts.
-/
namespace Go.Proofs.YtfgmhmkbilkfbaaGreatDoor
open Go Go.RowKit Go.Proofs.YtfgmhmkbilkfbaaGreatDoor.M
set_option linter.unusedSimpArgs false
set_option linter.unusedVariables false

theorem run_from64 (n : Int) (w : World) : (callFunc 57 #[.int .u64 n]).run Tryz.prog w = .ok (.value (.float .f64 n.toNat)) w := by
  rw [run_callFunc_extern Tryz.func57 (by kernel_rfl) (by kernel_rfl) (by kernel_rfl) (e := Extern.MathFloatBits.float64frombits) (by kernel_rfl)]
  rfl
theorem ret_float {k : FloatKind} {a b : Nat} (h : a = b) : Ending.returned (.float k a) = .returned (.float k b) := by rw [h]
theorem bitsFloat (b : Int) (w : World) :
    Calls Tryz.prog 29 #[.int .i64 b] w fun e w' => e = .returned (.float .f64 (wd b)) ∧ w' = w := by
  have hd := run_from64
  go_enter Tryz.func29, Tryz.ntmps29
  go_wp2
  go_ret
  exact ⟨ret_float (by rw [IntKind.wrap_u64]; rfl), rfl⟩
end Go.Proofs.YtfgmhmkbilkfbaaGreatDoor

/-
  The document's own answers for chapter 1 (package plumbref1), but for Join: each call by a contract over the same plain functions as package bits'.
-/
namespace Go.Proofs.YtfgmhmkbilkfbaaGreatDoor
open Go Go.RowKit Go.Proofs.YtfgmhmkbilkfbaaGreatDoor.M
set_option linter.unusedSimpArgs false
set_option linter.unusedVariables false

theorem hideIt {p : Prop} (h : p) : Hid p := h

theorem refCut (b : Int) (w : World) (hb : rng b) :
    Calls Tryz.prog 87 #[.int .i64 b] w fun e w' => e = .returned (.tuple #[.bool (decide (b < 0)), .int .i64 (fld b), .int .i64 (frc b)]) ∧ w' = w := by
  unfold rng at hb
  by_cases h : b < 0
  all_goals
    go_enter Tryz.func87, Tryz.ntmps87
    go_wp2
    go_ret3
    exact ⟨ret_bii (by simp; try omega) (by unfold fld; omega) (by unfold frc; omega), rfl⟩
theorem refcls (f t most : Int) (w : World) (hf : 0 ≤ f) (ht : 0 ≤ t) :
    Calls Tryz.prog 117 #[.int .i64 f, .int .i64 t, .int .i64 most] w fun e w' => e = .returned (.int .i64 (rcls f t most)) ∧ w' = w := by
  by_cases h1 : f = most
  · subst h1
    by_cases h2 : t = 0
    all_goals
      go_enter Tryz.func117, Tryz.ntmps117
      go_wp2
      go_ret
      exact ⟨b_ret_int (by simp [rcls, h2]), rfl⟩
  · by_cases h2 : 0 < f <;> by_cases h3 : 0 < t
    all_goals
      go_enter Tryz.func117, Tryz.ntmps117
      go_wp2
      go_ret
      exact ⟨b_ret_int (by simp [rcls, h1]; omega), rfl⟩
theorem refClass (b : Int) (w : World) (hb : rng b) :
    Calls Tryz.prog 88 #[.int .i64 b] w fun e w' => e = .returned (.int .i64 (cls b)) ∧ w' = w := by
  have hf := fld_le b
  have ht := frc_le b
  go_enter Tryz.func88, Tryz.ntmps88
  go_wp2_with (first
    | (go_at_call 87; refine (refCut _ _ hb).mono ?_; rintro e w1 ⟨rfl, rfl⟩)
    | (go_at_call 117; refine (refcls _ _ _ _ hf.1 ht.1).mono ?_; rintro e w1 ⟨rfl, rfl⟩))
  go_ret
  exact ⟨b_ret_int (rcls_cls b), rfl⟩
theorem refParts (b : Int) (w : World) (hb : rng b) :
    Calls Tryz.prog 51 #[.int .i64 b] w fun e w' => e = .returned (.tuple #[.bool (pneg b), .int .i64 (pmag b), .int .i64 (pexp b), .bool (pok b)]) ∧ w' = w := by
  have hf := fld_le b
  have ht := frc_le b
  by_cases h0 : cls b = 0
  · have k := hideIt (parts_sub (.inl h0))
    go_enter Tryz.func51, Tryz.ntmps51
    go_wp2_with (first
      | (go_at_call 87; refine (refCut _ _ hb).mono ?_; rintro e w1 ⟨rfl, rfl⟩)
      | (go_at_call 88; refine (refClass _ _ hb).mono ?_; rintro e w1 ⟨rfl, rfl⟩))
    refine bodyPost_ret (v := .tuple #[.bool (decide (b < 0)), .int .i64 (frc b), .int .i64 (-1074), .bool true]) (by simp [results, Tryz.results51, go_sem]) rfl ⟨ret_ttt4 k.out.1 k.out.2.1 k.out.2.2.1 k.out.2.2.2, rfl⟩
  · by_cases h1 : cls b = 1
    · have k := hideIt (parts_sub (.inr h1))
      go_enter Tryz.func51, Tryz.ntmps51
      go_wp2_with (first
        | (go_at_call 87; refine (refCut _ _ hb).mono ?_; rintro e w1 ⟨rfl, rfl⟩)
        | (go_at_call 88; refine (refClass _ _ hb).mono ?_; rintro e w1 ⟨rfl, rfl⟩))
      refine bodyPost_ret (v := .tuple #[.bool (decide (b < 0)), .int .i64 (frc b), .int .i64 (-1074), .bool true]) (by simp [results, Tryz.results51, go_sem]) rfl ⟨ret_ttt4 k.out.1 k.out.2.1 k.out.2.2.1 k.out.2.2.2, rfl⟩
    · by_cases h2 : cls b = 2
      · have k := hideIt (parts_norm h2)
        go_enter Tryz.func51, Tryz.ntmps51
        go_wp2_with (first
          | (go_at_call 87; refine (refCut _ _ hb).mono ?_; rintro e w1 ⟨rfl, rfl⟩)
          | (go_at_call 88; refine (refClass _ _ hb).mono ?_; rintro e w1 ⟨rfl, rfl⟩))
        refine bodyPost_ret (v := .tuple #[.bool (decide (b < 0)), .int .i64 (4503599627370496 + frc b), .int .i64 (fld b - 1075), .bool true]) (by simp [results, Tryz.results51, go_sem]) rfl ⟨ret_ttt4 k.out.1 k.out.2.1 k.out.2.2.1 k.out.2.2.2, rfl⟩
      · have k := hideIt (parts_not h0 h1 h2)
        go_enter Tryz.func51, Tryz.ntmps51
        go_wp2_with (first
          | (go_at_call 87; refine (refCut _ _ hb).mono ?_; rintro e w1 ⟨rfl, rfl⟩)
          | (go_at_call 88; refine (refClass _ _ hb).mono ?_; rintro e w1 ⟨rfl, rfl⟩))
        refine bodyPost_ret (v := .tuple #[.bool false, .int .i64 0, .int .i64 0, .bool false]) (by simp [results, Tryz.results51, go_sem]) rfl ⟨ret_ttt4 k.out.1 k.out.2.1 k.out.2.2.1 k.out.2.2.2, rfl⟩
end Go.Proofs.YtfgmhmkbilkfbaaGreatDoor

/-
  The document's own answers for chapter 1, on: the calls of 32 bits, the neighbours, the signs, the order.
-/
namespace Go.Proofs.YtfgmhmkbilkfbaaGreatDoor
open Go Go.RowKit Go.Proofs.YtfgmhmkbilkfbaaGreatDoor.M
set_option linter.unusedSimpArgs false
set_option linter.unusedVariables false

end Go.Proofs.YtfgmhmkbilkfbaaGreatDoor

/-
  Float32, Of and Of32 of package bits, Told and Told32 of the document's own answer, by contracts.
-/
namespace Go.Proofs.YtfgmhmkbilkfbaaGreatDoor
open Go Go.RowKit Go.Proofs.YtfgmhmkbilkfbaaGreatDoor.M
set_option linter.unusedSimpArgs false
set_option linter.unusedVariables false

def told (b : Int) : Int := if cls b = 4 then 9221120237041090561 else b
def told32 (b : Int) : Int := if cls32 b = 4 then 2143289345 else b
def wd32 (b : Int) : Nat := if in32 b then b.toNat else 2143289345
theorem sSign : Ieee.single.signWeight = 2147483648 := by decide
theorem sInf : Ieee.single.infRung = 2139095040 := by decide
theorem sOk : Ieee.single.binade ≤ Ieee.single.infRung := by decide
theorem cls32_4 {b : Int} (h : in32 b = true) : cls32 b = 4 ↔ 2139095040 < b.toNat % 2147483648 := by
  have hb := of_decide_eq_true h
  unfold cls32; rw [if_neg (by omega)]
  unfold fld32 frc32; repeat' split
  all_goals omega
theorem no64 {b : Int} (hb : rng b) : (FloatKind.f64.format.order (wd b) (wd b) != some .eq) = decide (cls b = 4) := by
  have := same_order hb hb
  unfold bne
  rw [this]; unfold same
  by_cases h : cls b = 4 <;> simp [h]
theorem no32 (b : Int) : (FloatKind.f32.format.order (wd32 b) (wd32 b) != some .eq) = decide (cls32 b = 4) := by
  by_cases hi : in32 b = true
  · have e : wd32 b = b.toNat := by unfold wd32; rw [if_pos hi]
    rw [e]
    by_cases h : cls32 b = 4
    · have hn := order_nan Ieee.single sOk b.toNat b.toNat (.inl (by rw [sSign, sInf]; exact (cls32_4 hi).1 h))
      have hn' : FloatKind.f32.format.order b.toNat b.toNat = none := hn
      rw [hn']; simp [h]
    · have hle : b.toNat % Ieee.single.signWeight ≤ Ieee.single.infRung := by
        rw [sSign, sInf]; exact Nat.le_of_not_lt fun k => h ((cls32_4 hi).2 k)
      have ho := order_all Ieee.single sOk b.toNat b.toNat hle hle
      rw [compare_eq rfl] at ho
      have ho' : FloatKind.f32.format.order b.toNat b.toNat = some .eq := ho
      rw [ho']; simp [h]
  · have hn : b < 0 ∨ 4294967296 ≤ b := by simp [in32] at hi; omega
    have e : wd32 b = 2143289345 := by unfold wd32; rw [if_neg hi]
    have h4 : cls32 b = 4 := by unfold cls32; rw [if_pos hn]
    have ho : FloatKind.f32.format.order 2143289345 2143289345 = none := by decide +kernel
    rw [e, ho]; simp [h4]
theorem run_bits64 (n : Nat) (w : World) : (callFunc 58 #[.float .f64 n]).run Tryz.prog w = .ok (.value (.int .u64 n)) w := by
  rw [run_callFunc_extern Tryz.func58 (by kernel_rfl) (by kernel_rfl) (by kernel_rfl) (e := Extern.MathFloatBits.float64bits) (by kernel_rfl)]
  rfl
theorem bitsOf (b : Int) (w : World) (hb : rng b) :
    Calls Tryz.prog 62 #[.float .f64 (wd b)] w fun e w' => e = .returned (.int .i64 (told b)) ∧ w' = w := by
  have hd := run_bits64
  have hn := no64 hb
  have hw : Hid (wrap64 (wd b : Int) = b) := by unfold Hid wrap64 wd; unfold rng at hb; omega
  by_cases h : cls b = 4
  · have hn' : (FloatKind.f64.format.order (wd b) (wd b) != some .eq) = true := by rw [hn]; simp [h]
    clear hn
    go_enter Tryz.func62, Tryz.ntmps62
    go_wp2
    go_ret
    exact ⟨b_ret_int (by simp [told, h]), rfl⟩
  · have hn' : (FloatKind.f64.format.order (wd b) (wd b) != some .eq) = false := by rw [hn]; simp [h]
    clear hn
    go_enter Tryz.func62, Tryz.ntmps62
    go_wp2
    go_ret
    exact ⟨b_ret_int (by rw [hw.out]; simp [told, h]), rfl⟩
end Go.Proofs.YtfgmhmkbilkfbaaGreatDoor

/-
  Package round: sums of constants, by their contracts.
-/
namespace Go.Proofs.YtfgmhmkbilkfbaaGreatDoor
open Go Go.RowKit Go.Proofs.YtfgmhmkbilkfbaaGreatDoor.M
set_option linter.unusedSimpArgs false
set_option linter.unusedVariables false

theorem wd_one : wd 4607182418800017408 = 4607182418800017408 := by decide
theorem wd_two : wd 4611686018427387904 = 4611686018427387904 := by decide
theorem told_two : told 4611686018427387904 = 4611686018427387904 := by decide
theorem wd_one32 : wd32 1065353216 = 1065353216 := by decide
theorem wd_two32 : wd32 1073741824 = 1073741824 := by decide
theorem told_two32 : told32 1073741824 = 1073741824 := by decide
end Go.Proofs.YtfgmhmkbilkfbaaGreatDoor

/-
  plumblaw4.alive, by its contract.
-/
namespace Go.Proofs.YtfgmhmkbilkfbaaGreatDoor
open Go Go.RowKit Go.Proofs.YtfgmhmkbilkfbaaGreatDoor.M
set_option linter.unusedSimpArgs false
set_option linter.unusedVariables false

/-- A small odd number in a list of one. -/
def litR (g : Nat) (x : Int) : NumR := ⟨false, some ⟨g, 0, none⟩, 1, 1, fun _ => x, 0⟩
theorem litR_ok (g : Nat) {x : Int} (h0 : 0 < x) (h1 : x < 1073741824) (ho : x % 2 = 1) : okR (litR g x) = true :=
  decide_eq_true (.inr ⟨Nat.one_pos, ⟨show 1 ≤ 2000 by decide, fun i hi => ⟨show (0 : Int) ≤ x by omega, h1⟩, .inr (show x ≠ 0 by omega)⟩, ho, show (-1048576 : Int) ≤ 0 by decide, show (0 : Int) ≤ 1048576 by decide⟩)
theorem third (g k : Nat) : qR64 0 (litR g 1) (litR k 3) = (4599676419421066581, true) := by
  have e : qR64 0 (litR g 1) (litR k 3) = qR64 0 (litR 0 1) (litR 0 3) := rfl
  rw [e]
  decide +kernel
end Go.Proofs.YtfgmhmkbilkfbaaGreatDoor

/-
  Package dyadic: Sub, by its contract.
-/
namespace Go.Proofs.YtfgmhmkbilkfbaaGreatDoor
open Go Go.RowKit Go.Proofs.YtfgmhmkbilkfbaaGreatDoor.M
set_option linter.unusedSimpArgs false
set_option linter.unusedVariables false

/-- The number with the other sign (0 too). -/
def NumR.neg (r : NumR) : NumR := ⟨!r.ng, r.ao, r.n, r.cap, r.d, r.e⟩
theorem NumR.neg_V (r : NumR) : r.neg.V = -r.V := by
  show sg (!r.ng) _ * _ = _
  rw [sg_not, Int.neg_mul]; rfl
theorem NumR.neg_sane {r : NumR} (h : Sane r) : Sane r.neg := h
set_option maxRecDepth 100000 in
set_option maxHeartbeats 1000000 in
theorem sub1_any (x y : NumR) (g h : Nat) (w : World) (cg : w.heap[g]? = some (.cells #[.bool x.ng, .slice x.ao x.n x.cap, .int .i64 x.e] 27 (0, 0))) (ch : w.heap[h]? = some (.cells #[.bool y.ng, .slice y.ao y.n y.cap, .int .i64 y.e] 27 (0, 0)))
    (hx : Row w x.ao x.n x.cap x.d) (hy : Row w y.ao y.n y.cap y.d) (sx : Sane x) (sy : Sane y) (hT : Tab w) :
    Calls Tryz.prog 49 #[.pointer (some ⟨g, 0, none⟩), .pointer (some ⟨h, 0, none⟩)] w (DOut w (x.V + y.V)) := by
  obtain ⟨an, ao, n, ca, a, e⟩ := x
  obtain ⟨bn, bo, m, cb, b, f⟩ := y
  simp only at cg ch hx hy
  have hb := bel_alloc w (.cells #[.bool false, .slice none 0 0, .int .i64 0] 27)
  have g0 := heap_past (.cells #[.bool false, .slice none 0 0, .int .i64 0] 27) cg
  have g1 := heap_past (.cells #[.bool false, .slice none 0 0, .int .i64 0] 27) ch
  have k0 := blkC g0 0 rfl
  have k1 := blkC g0 1 rfl
  have k2 := blkC g0 2 rfl
  have j0 := blkC g1 0 rfl
  have j1 := blkC g1 1 rfl
  have j2 := blkC g1 2 rfl
  have hN := fun q => nums2 (w := (w.alloc (.cells #[.bool false, .slice none 0 0, .int .i64 0] 27)).alloc (.cells #[.bool an, .slice ao n ca, .int .i64 e, .bool bn, .slice bo m cb, .int .i64 f] 27)) (g := w.heap.size + 1) (x := ⟨an, ao, n, ca, a, e⟩) (y := ⟨bn, bo, m, cb, b, f⟩) (t := 27) q (hx.keeps (bel_alloc2 _ _ _)) (hy.keeps (bel_alloc2 _ _ _))
  go_enter Tryz.func49, Tryz.ntmps49
  go_wp2_with fail
  refine (total_any _ _ _ _ _ (hN (heap_b2 _ _ _)) (fun i hi => ?_) (by omega) (hT.keeps (bel_alloc2 _ _ _))).mono ?_
  · match i, hi with
    | 0, _ => exact sx
    | 1, _ => exact sy
  rw [sumV2]
  rintro r w7 (⟨hok, v, rfl, hD⟩ | ⟨hno, rfl, hb7⟩)
  · have hb7 := hD.below
    obtain ⟨ng', s', m', e', rfl, hyy, hA⟩ := id hD
    obtain ⟨so, sn, sc, rfl⟩ := hA.num.shape
    have q0 := (hb7.block w.heap.size (by rw [size2]; omega)).trans (heap_a2 _ _ _)
    have x0 := blkC q0 0 rfl
    have x1 := blkC q0 1 rfl
    have x2 := blkC q0 2 rfl
    have z0 := blkF q0 0
    have z1 := blkF q0 1
    have z2 := blkF q0 2
    go_wp2
    refine bodyPost_ret (v := .agg #[.bool ng', .slice so sn sc, .int .i64 e']) (by simp [results, Tryz.results49, go_sem, x0, x1, x2]) rfl ?_
    exact .inl ⟨hok, _, rfl, dans_res3 (g := w.heap.size) hD (bel_alloc2 _ _ _) (Nat.le_refl _) (by rw [size2]; omega) _ _ _⟩
  · exact ⟨rfl, .inr ⟨hno, rfl, bel_trans (bel_alloc2 _ _ _) hb7⟩⟩
set_option maxRecDepth 100000 in
set_option maxHeartbeats 1000000 in
theorem dsub_bad (x y : NumR) (w : World) (hx : Row w x.ao x.n x.cap x.d) (hy : Row w y.ao y.n y.cap y.d) (ok : (okR x && okR y) = false) :
    Calls Tryz.prog 23 #[x.v, y.v] w fun r w' => r = .returned (.tuple #[zeroV, .int .i64 11]) ∧ Below w.heap.size w w' := by
  have hmf : ∀ (fn : Fn) (first cap : Array Value) (w : World), (Instr.makeFunc fn first cap).run Tryz.prog w = .ok (.func fn first cap) w := fun _ _ _ _ => rfl
  have hA := allOk2 x y
  rw [ok] at hA
  have hN := fun W q hb => nums2 (w := W) (g := w.heap.size + 3) (x := x) (y := y) (t := 27) q (hx.keeps hb) (hy.keeps hb)
  generalize pair2 x y = pr at hA hN
  obtain ⟨an, ao, n, ca, a, e⟩ := x
  obtain ⟨bn, bo, m, cb, b, f⟩ := y
  unfold NumR.v
  simp only at hx hy hN ⊢
  go_enter Tryz.func23, Tryz.ntmps23
  go_wp2_with fail
  refine (dvalids_any _ _ _ _ _ (hN _ (h4_3 _ _ _ _ _) (bel_a4 _ _ _ _ _))).mono ?_
  rw [hA]
  rintro r w1 ⟨rfl, hb1⟩
  have q0 := (hb1.block (w.heap.size + 2) (by rw [size4]; omega)).trans (h4_2 _ _ _ _ _)
  have x0 := blkC q0 0 rfl
  have x1 := blkC q0 1 rfl
  have x2 := blkC q0 2 rfl
  have z0 := blkF q0 0
  have z1 := blkF q0 1
  have z2 := blkF q0 2
  go_wp2
  refine bodyPost_ret (v := .tuple #[zeroV, .int .i64 11]) (by simp [results, Tryz.results23, go_sem, zeroV, x0, x1, x2]) rfl ⟨rfl, ?_⟩
  exact bel_set3 (bel_trans (bel_a4 _ _ _ _ _) hb1) (by omega) _ _ _
set_option maxRecDepth 100000 in
set_option maxHeartbeats 1000000 in
theorem dsub_ok (x y : NumR) (w : World) (hx : Row w x.ao x.n x.cap x.d) (hy : Row w y.ao y.n y.cap y.d) (ox : okR x = true) (oy : okR y = true) (hT : Tab w) :
    Calls Tryz.prog 23 #[x.v, y.v] w fun r w' => ∃ v er, r = .returned (.tuple #[v, .int .i64 er]) ∧ DFit w w' (x.V - y.V) v er := by
  have hmf : ∀ (fn : Fn) (first cap : Array Value) (w : World), (Instr.makeFunc fn first cap).run Tryz.prog w = .ok (.func fn first cap) w := fun _ _ _ _ => rfl
  have hE : ∀ (cap : Array Value) (w : World), (callFunc 49 cap).run Tryz.prog w = .ok (.enter 49 cap) w := by
    intro cap w
    simp [go_sem]
  have hA := allOk2 x y
  rw [ox, oy] at hA
  have hN := fun W q hb => nums2 (w := W) (g := w.heap.size + 3) (x := x) (y := y) (t := 27) q (hx.keeps hb) (hy.keeps hb)
  have hC := fun W hb cg ch => sub1_any x y.neg w.heap.size (w.heap.size + 1) W cg ch (hx.keeps hb) (hy.keeps hb) (okR_sane ox) (NumR.neg_sane (okR_sane oy)) (hT.keeps hb)
  generalize pair2 x y = pr at hA hN
  rw [show x.V - y.V = x.V + y.neg.V by rw [NumR.neg_V]; omega]
  generalize x.V + y.neg.V = V at hC ⊢
  clear ox oy
  obtain ⟨an, ao, n, ca, a, e⟩ := x
  obtain ⟨bn, bo, m, cb, b, f⟩ := y
  unfold NumR.v
  unfold NumR.neg at hC
  simp only at hx hy hN hC ⊢
  go_enter Tryz.func23, Tryz.ntmps23
  go_wp2_with fail
  refine (dvalids_any _ _ _ _ _ (hN _ (h4_3 _ _ _ _ _) (bel_a4 _ _ _ _ _))).mono ?_
  rw [hA]
  rintro r w1 ⟨rfl, hb1⟩
  have hbw := bel_trans (bel_a4 w _ _ _ _) hb1
  have g0 := (hb1.block w.heap.size (by rw [size4]; omega)).trans (h4_0 _ _ _ _ _)
  have g1 := (hb1.block (w.heap.size + 1) (by rw [size4]; omega)).trans (h4_1 _ _ _ _ _)
  have g2 := (hb1.block (w.heap.size + 2) (by rw [size4]; omega)).trans (h4_2 _ _ _ _ _)
  have hs4 : w.heap.size + 4 ≤ w1.heap.size := by have := hb1.size; rw [size4] at this; exact this
  have y0 := blkC g1 0 rfl
  have y1 := blkF g1 0
  go_wp2_with fail
  have hbw' : Below w.heap.size w (w1.setCell ⟨w.heap.size + 1, 0, none⟩ (.bool (!bn))) := hbw.setCell (p := ⟨w.heap.size + 1, 0, none⟩) (Nat.le_succ _) _
  have u0 := (Below.heap_setCell w1 ⟨w.heap.size + 1, 0, none⟩ (.bool (!bn)) w.heap.size (by show w.heap.size ≠ w.heap.size + 1; omega)).trans g0
  have u2 := (Below.heap_setCell w1 ⟨w.heap.size + 1, 0, none⟩ (.bool (!bn)) (w.heap.size + 2) (by show w.heap.size + 2 ≠ w.heap.size + 1; omega)).trans g2
  have u1 := heap_set g1 0 (.bool (!bn))
  have us : (w1.setCell ⟨w.heap.size + 1, 0, none⟩ (.bool (!bn))).heap.size = w1.heap.size := by simp [World.setCell]
  generalize w1.setCell ⟨w.heap.size + 1, 0, none⟩ (.bool (!bn)) = w9 at hbw' u0 u1 u2 us ⊢
  clear hbw g0 g1 g2 hb1 y0 y1
  have hbw := hbw'
  have g0 := u0
  have g1 : w9.heap[w.heap.size + 1]? = some (.cells #[.bool (!bn), .slice bo m cb, .int .i64 f] 27 (0, 0)) := u1
  have g2 := u2
  refine (told_any (V := V) (hE _) (fun W hW => hC W (bel_trans hbw hW) ((hW.block _ (by omega)).trans g0) ((hW.block _ (by omega)).trans g1))).mono ?_
  rintro r w2 ⟨v, er, rfl, hF⟩
  obtain ⟨ng', so, sn, sc, e', rfl⟩ := hF.shape
  have q0 := (hF.1.block (w.heap.size + 2) (by omega)).trans g2
  have x0 := blkC q0 0 rfl
  have x1 := blkC q0 1 rfl
  have x2 := blkC q0 2 rfl
  have z0 := blkF q0 0
  have z1 := blkF q0 1
  have z2 := blkF q0 2
  go_wp2
  refine bodyPost_ret (v := .tuple #[.agg #[.bool ng', .slice so sn sc, .int .i64 e'], .int .i64 er]) (by simp [results, Tryz.results23, go_sem, x0, x1, x2]) rfl ⟨_, _, rfl, ?_⟩
  exact dfit_res (g := w.heap.size + 2) hF hbw (by omega) (by omega) _ _ _
end Go.Proofs.YtfgmhmkbilkfbaaGreatDoor

/-
  Package dyadic: product, Mul, by contracts.
-/
namespace Go.Proofs.YtfgmhmkbilkfbaaGreatDoor
open Go Go.RowKit Go.Proofs.YtfgmhmkbilkfbaaGreatDoor.M
set_option linter.unusedSimpArgs false
set_option linter.unusedVariables false

/-- A product's worth. -/
def mulV (x y : NumR) : Int := sg (x.ng != y.ng) (val x.d x.n * val y.d y.n) * pw (x.e + y.e)
theorem mulV_eq {x y : NumR} (hx : -2097152 ≤ x.e) (hy : -2097152 ≤ y.e) : mulV x y * 2 ^ 4194304 = x.V * y.V := by
  unfold mulV NumR.V
  rw [Int.mul_assoc, ← pw_mul hx hy, ← sg_mul]; grind
set_option maxRecDepth 100000 in
set_option maxHeartbeats 2000000 in
theorem dproduct_any (x y : NumR) (w : World) (hx : Row w x.ao x.n x.cap x.d) (hy : Row w y.ao y.n y.cap y.d) (sx : Sane x) (sy : Sane y) :
    Calls Tryz.prog 47 #[x.v, y.v] w fun r w' => ∃ s, r = .returned (.agg #[.bool (x.ng != y.ng), s, .int .i64 (x.e + y.e)]) ∧ Ans w w' (val x.d x.n * val y.d y.n) s := by
  obtain ⟨an, ao, n, ca, a, e⟩ := x
  obtain ⟨bn, bo, m, cb, b, f⟩ := y
  obtain ⟨s1, s2, s3, s4⟩ := sx
  obtain ⟨t1, t2, t3, t4⟩ := sy
  unfold NumR.v
  simp only at *
  have hw : IntKind.i64.wrap (e + f) = e + f := by rw [wrap_i64_eq]; omega
  have hb3 := bel_a3 w (.cells #[.bool an, .slice ao n ca, .int .i64 e] 27) (.cells #[.bool bn, .slice bo m cb, .int .i64 f] 27) (.cells #[.bool false, .slice none 0 0, .int .i64 0] 27)
  have g0 := h3_0 w (.cells #[.bool an, .slice ao n ca, .int .i64 e] 27) (.cells #[.bool bn, .slice bo m cb, .int .i64 f] 27) (.cells #[.bool false, .slice none 0 0, .int .i64 0] 27)
  have g1 := h3_1 w (.cells #[.bool an, .slice ao n ca, .int .i64 e] 27) (.cells #[.bool bn, .slice bo m cb, .int .i64 f] 27) (.cells #[.bool false, .slice none 0 0, .int .i64 0] 27)
  have g2 := h3_2 w (.cells #[.bool an, .slice ao n ca, .int .i64 e] 27) (.cells #[.bool bn, .slice bo m cb, .int .i64 f] 27) (.cells #[.bool false, .slice none 0 0, .int .i64 0] 27)
  have hs3 := size3 w (.cells #[.bool an, .slice ao n ca, .int .i64 e] 27) (.cells #[.bool bn, .slice bo m cb, .int .i64 f] 27) (.cells #[.bool false, .slice none 0 0, .int .i64 0] 27)
  go_enter Tryz.func47, Tryz.ntmps47
  go_wp2_with fail
  have HX := hx.keeps hb3
  have HY := hy.keeps hb3
  generalize ((w.alloc (.cells #[.bool an, .slice ao n ca, .int .i64 e] 27)).alloc (.cells #[.bool bn, .slice bo m cb, .int .i64 f] 27)).alloc (.cells #[.bool false, .slice none 0 0, .int .i64 0] 27) = wx at hb3 g0 g1 g2 hs3 HX HY ⊢
  have k0 := blkC g0 0 rfl
  have k1 := blkC g0 1 rfl
  have k2 := blkC g0 2 rfl
  have j0 := blkC g1 0 rfl
  have j1 := blkC g1 1 rfl
  have j2 := blkC g1 2 rfl
  have hb1 := bel_refl wx
  have C1 : ∀ W, Below wx.heap.size wx W → Calls Tryz.prog 81 #[.slice ao n ca, .slice bo m cb] W fun r w' => ∃ so sn sc, r = .returned (.slice so sn sc) ∧ Ans W w' (val a n * val b m) (.slice so sn sc) ∧ Below W.heap.size W w' := fun W h => by
    refine (product_any ao bo n m ca cb a b W (HX.keeps h) (HY.keeps h) s1.1 t1.1 (by omega) (by omega)).mono ?_
    rintro r w' ⟨v, rfl, hA⟩
    obtain ⟨so, sn, sc, rfl⟩ := hA.num.shape
    exact ⟨so, sn, sc, rfl, hA, hA.below⟩
  go_region_held3 (fun W => (W.cell? ⟨w.heap.size, 0, none⟩ = some (.bool an) ∧ W.cell? ⟨w.heap.size, 1, none⟩ = some (.slice ao n ca) ∧ W.cell? ⟨w.heap.size, 2, none⟩ = some (.int .i64 e)) ∧ W.cell? ⟨w.heap.size + 1, 0, none⟩ = some (.bool bn) ∧ W.cell? ⟨w.heap.size + 1, 1, none⟩ = some (.slice bo m cb) ∧ W.cell? ⟨w.heap.size + 1, 2, none⟩ = some (.int .i64 f))
    (first | assumption | exact ⟨⟨k0, k1, k2⟩, j0, j1, j2⟩ | exact ⟨keepB (W := wx.drew) ⟨k0, k1, k2⟩ hbv1, keepB (W := wx.drew) ⟨j0, j1, j2⟩ hbv1⟩ | exact ⟨keepS (keepB (W := wx.drew) ⟨k0, k1, k2⟩ hbv1) (by omega) _ _ _, keepS (keepB (W := wx.drew) ⟨j0, j1, j2⟩ hbv1) (by omega) _ _ _⟩)
    (first | (go_at_call 81; refine (C1 _ hb1.drew).mono ?_; rintro y w3 ⟨so, sn, sc, rfl, hv, hbv1⟩; have q0 := (hbv1.block (w.heap.size + 2) (by show _ < wx.heap.size; omega)).trans g2; have x0 := blkC q0 0 rfl; have x1 := blkC q0 1 rfl; have x2 := blkC q0 2 rfl; have z0 := blkF q0 0; have z1 := blkF q0 1; have z2 := blkF q0 2) | fail)
  all_goals go_wp2
  all_goals
    refine bodyPost_ret (v := .agg #[.bool (!(an == bn)), .slice so sn sc, .int .i64 (e + f)]) (by simp [results, Tryz.results47, go_sem, x0, x1, x2]) rfl ⟨_, rfl, ?_⟩
    exact ans_res (g := w.heap.size + 2) (hv.from hb1.drew) hb3 (by omega) (by omega) _ _ _
set_option maxRecDepth 100000 in
set_option maxHeartbeats 1000000 in
theorem mul1_any (x y : NumR) (g h : Nat) (w : World) (cg : w.heap[g]? = some (.cells #[.bool x.ng, .slice x.ao x.n x.cap, .int .i64 x.e] 27 (0, 0))) (ch : w.heap[h]? = some (.cells #[.bool y.ng, .slice y.ao y.n y.cap, .int .i64 y.e] 27 (0, 0)))
    (hx : Row w x.ao x.n x.cap x.d) (hy : Row w y.ao y.n y.cap y.d) (sx : Sane x) (sy : Sane y) (hT : Tab w) :
    Calls Tryz.prog 45 #[.pointer (some ⟨g, 0, none⟩), .pointer (some ⟨h, 0, none⟩)] w (DOut w (mulV x y)) := by
  have hP := fun W hb => dproduct_any x y W (hx.keeps hb) (hy.keeps hb) sx sy
  have hV : mulV x y = sg (x.ng != y.ng) (val x.d x.n * val y.d y.n) * pw (x.e + y.e) := rfl
  have he : -4194304 ≤ x.e + y.e := by have := sx.2.2.1; have := sy.2.2.1; omega
  have hlen : val x.d x.n * val y.d y.n < P 10000 := by
    have a1 := val_lt sx.1.1
    have a2 := val_lt sy.1.1
    have b1 := val_nonneg sx.1.1
    have b2 := val_nonneg sy.1.1
    have c1 : val x.d x.n * val y.d y.n ≤ P x.n * val y.d y.n := Int.mul_le_mul_of_nonneg_right (by omega) b2
    have c2 : P x.n * val y.d y.n < P x.n * P y.n := Int.mul_lt_mul_of_pos_left a2 (P_pos _)
    rw [← P_add] at c2
    have := P_le (show x.n + y.n ≤ 10000 by have := sx.2.1; have := sy.2.1; omega)
    omega
  generalize mulV x y = V at hV ⊢
  unfold NumR.v at hP
  obtain ⟨an, ao, n, ca, a, e⟩ := x
  obtain ⟨bn, bo, m, cb, b, f⟩ := y
  simp only at cg ch hx hy hP hV he hlen
  have hb := bel_alloc w (.cells #[.bool false, .slice none 0 0, .int .i64 0] 27)
  have g0 := heap_past (.cells #[.bool false, .slice none 0 0, .int .i64 0] 27) cg
  have g1 := heap_past (.cells #[.bool false, .slice none 0 0, .int .i64 0] 27) ch
  have k0 := blkC g0 0 rfl
  have k1 := blkC g0 1 rfl
  have k2 := blkC g0 2 rfl
  have j0 := blkC g1 0 rfl
  have j1 := blkC g1 1 rfl
  have j2 := blkC g1 2 rfl
  clear sx sy
  have HV : Hid (V = sg (an != bn) (val a n * val b m) * pw (e + f)) := hV
  clear hV
  go_enter Tryz.func45, Tryz.ntmps45
  go_wp2_with fail
  refine (hP _ hb).mono ?_
  rintro r w3 ⟨s, rfl, hA⟩
  obtain ⟨so, sn, sc, d, rfl, hR, hN, hv⟩ := hA.num
  have hsn : sn ≤ 10000 := hA.num.len hlen
  have hb3 := bel_trans hb hA.below
  go_wp2_with fail
  refine (settle_any (V := V) hR hN.1 (by omega) (hT.keeps hb3) he (by rw [hv]; exact HV.out)).mono ?_
  rintro r w7 (⟨hok, v, rfl, hD⟩ | ⟨hno, rfl, hb7⟩)
  · have hb7 := hD.below
    obtain ⟨ng', s', m', e', rfl, hyy, hA2⟩ := id hD
    obtain ⟨so', sn', sc', rfl⟩ := hA2.num.shape
    have q0 := ((bel_trans hA.below hb7).block w.heap.size (by rw [size1]; omega)).trans (heap_a1 _ _)
    have x0 := blkC q0 0 rfl
    have x1 := blkC q0 1 rfl
    have x2 := blkC q0 2 rfl
    have z0 := blkF q0 0
    have z1 := blkF q0 1
    have z2 := blkF q0 2
    go_wp2
    refine bodyPost_ret (v := .agg #[.bool ng', .slice so' sn' sc', .int .i64 e']) (by simp [results, Tryz.results45, go_sem, x0, x1, x2]) rfl ?_
    exact .inl ⟨hok, _, rfl, dans_res3 (g := w.heap.size) hD hb3 (Nat.le_refl _) (Nat.lt_of_lt_of_le (by rw [size1]; omega) hA.below.size) _ _ _⟩
  · exact ⟨rfl, .inr ⟨hno, rfl, bel_trans hb3 hb7⟩⟩
set_option maxRecDepth 100000 in
set_option maxHeartbeats 1000000 in
theorem dmul_bad (x y : NumR) (w : World) (hx : Row w x.ao x.n x.cap x.d) (hy : Row w y.ao y.n y.cap y.d) (ok : (okR x && okR y) = false) :
    Calls Tryz.prog 21 #[x.v, y.v] w fun r w' => r = .returned (.tuple #[zeroV, .int .i64 11]) ∧ Below w.heap.size w w' := by
  have hmf : ∀ (fn : Fn) (first cap : Array Value) (w : World), (Instr.makeFunc fn first cap).run Tryz.prog w = .ok (.func fn first cap) w := fun _ _ _ _ => rfl
  have hA := allOk2 x y
  rw [ok] at hA
  have hN := fun W q hb => nums2 (w := W) (g := w.heap.size + 3) (x := x) (y := y) (t := 27) q (hx.keeps hb) (hy.keeps hb)
  generalize pair2 x y = pr at hA hN
  obtain ⟨an, ao, n, ca, a, e⟩ := x
  obtain ⟨bn, bo, m, cb, b, f⟩ := y
  unfold NumR.v
  simp only at hx hy hN ⊢
  go_enter Tryz.func21, Tryz.ntmps21
  go_wp2_with fail
  refine (dvalids_any _ _ _ _ _ (hN _ (h4_3 _ _ _ _ _) (bel_a4 _ _ _ _ _))).mono ?_
  rw [hA]
  rintro r w1 ⟨rfl, hb1⟩
  have q0 := (hb1.block (w.heap.size + 2) (by rw [size4]; omega)).trans (h4_2 _ _ _ _ _)
  have x0 := blkC q0 0 rfl
  have x1 := blkC q0 1 rfl
  have x2 := blkC q0 2 rfl
  have z0 := blkF q0 0
  have z1 := blkF q0 1
  have z2 := blkF q0 2
  go_wp2
  refine bodyPost_ret (v := .tuple #[zeroV, .int .i64 11]) (by simp [results, Tryz.results21, go_sem, zeroV, x0, x1, x2]) rfl ⟨rfl, ?_⟩
  exact bel_set3 (bel_trans (bel_a4 _ _ _ _ _) hb1) (by omega) _ _ _
set_option maxRecDepth 100000 in
set_option maxHeartbeats 1000000 in
theorem dmul_ok (x y : NumR) (w : World) (hx : Row w x.ao x.n x.cap x.d) (hy : Row w y.ao y.n y.cap y.d) (ox : okR x = true) (oy : okR y = true) (hT : Tab w) :
    Calls Tryz.prog 21 #[x.v, y.v] w fun r w' => ∃ v er, r = .returned (.tuple #[v, .int .i64 er]) ∧ DFit w w' (mulV x y) v er := by
  have hmf : ∀ (fn : Fn) (first cap : Array Value) (w : World), (Instr.makeFunc fn first cap).run Tryz.prog w = .ok (.func fn first cap) w := fun _ _ _ _ => rfl
  have hE : ∀ (cap : Array Value) (w : World), (callFunc 45 cap).run Tryz.prog w = .ok (.enter 45 cap) w := by
    intro cap w
    simp [go_sem]
  have hA := allOk2 x y
  rw [ox, oy] at hA
  have hN := fun W q hb => nums2 (w := W) (g := w.heap.size + 3) (x := x) (y := y) (t := 27) q (hx.keeps hb) (hy.keeps hb)
  have hC := fun W hb cg ch => mul1_any x y w.heap.size (w.heap.size + 1) W cg ch (hx.keeps hb) (hy.keeps hb) (okR_sane ox) (okR_sane oy) (hT.keeps hb)
  generalize pair2 x y = pr at hA hN
  generalize mulV x y = V at hC ⊢
  clear ox oy
  obtain ⟨an, ao, n, ca, a, e⟩ := x
  obtain ⟨bn, bo, m, cb, b, f⟩ := y
  unfold NumR.v
  simp only at hx hy hN hC ⊢
  go_enter Tryz.func21, Tryz.ntmps21
  go_wp2_with fail
  refine (dvalids_any _ _ _ _ _ (hN _ (h4_3 _ _ _ _ _) (bel_a4 _ _ _ _ _))).mono ?_
  rw [hA]
  rintro r w1 ⟨rfl, hb1⟩
  have hbw := bel_trans (bel_a4 w _ _ _ _) hb1
  have g0 := (hb1.block w.heap.size (by rw [size4]; omega)).trans (h4_0 _ _ _ _ _)
  have g1 := (hb1.block (w.heap.size + 1) (by rw [size4]; omega)).trans (h4_1 _ _ _ _ _)
  have g2 := (hb1.block (w.heap.size + 2) (by rw [size4]; omega)).trans (h4_2 _ _ _ _ _)
  have hs4 : w.heap.size + 4 ≤ w1.heap.size := by have := hb1.size; rw [size4] at this; exact this
  go_wp2_with fail
  refine (told_any (V := V) (hE _) (fun W hW => hC W (bel_trans hbw hW) ((hW.block _ (by omega)).trans g0) ((hW.block _ (by omega)).trans g1))).mono ?_
  rintro r w2 ⟨v, er, rfl, hF⟩
  obtain ⟨ng', so, sn, sc, e', rfl⟩ := hF.shape
  have q0 := (hF.1.block (w.heap.size + 2) (by omega)).trans g2
  have x0 := blkC q0 0 rfl
  have x1 := blkC q0 1 rfl
  have x2 := blkC q0 2 rfl
  have z0 := blkF q0 0
  have z1 := blkF q0 1
  have z2 := blkF q0 2
  go_wp2
  refine bodyPost_ret (v := .tuple #[.agg #[.bool ng', .slice so sn sc, .int .i64 e'], .int .i64 er]) (by simp [results, Tryz.results21, go_sem, x0, x1, x2]) rfl ⟨_, _, rfl, ?_⟩
  exact dfit_res (g := w.heap.size + 2) hF hbw (by omega) (by omega) _ _ _
end Go.Proofs.YtfgmhmkbilkfbaaGreatDoor

/-
  Package dyadic: Neg, Abs, Sign, Scale, by contracts.
-/
namespace Go.Proofs.YtfgmhmkbilkfbaaGreatDoor
open Go Go.RowKit Go.Proofs.YtfgmhmkbilkfbaaGreatDoor.M
set_option linter.unusedSimpArgs false
set_option linter.unusedVariables false

set_option maxRecDepth 100000 in
set_option maxHeartbeats 1000000 in
theorem dsignF_any (x : NumR) (w : World) (hx : Row w x.ao x.n x.cap x.d) :
    Calls Tryz.prog 41 #[x.v] w fun r w' => r = .returned (.tuple #[.int .i64 (if okR x then sgn x.ng x.n else 0), .int .i64 (if okR x then 0 else 11)]) ∧ Below w.heap.size w w' := by
  have hV := fun W hb => dvalid_any x.ng x.ao x.n x.cap x.d x.e W (hx.keeps hb)
  have hS := fun W => dsign_any x.ng x.ao x.n x.cap x.e W (by have := hx.le; have := hx.max; omega)
  have hk : okN x.ng x.d x.n x.e = okR x := rfl
  rw [hk] at hV
  unfold NumR.v
  generalize okR x = ok at *
  obtain ⟨an, ao, n, ca, a, e⟩ := x
  simp only at *
  cases ok
  · go_enter Tryz.func41, Tryz.ntmps41
    go_wp2_with fail
    refine (hV _ (bel_alloc _ _)).mono ?_
    rintro r w1 ⟨rfl, hb1⟩
    go_wp2
    go_ret2
    exact ⟨rfl, bel_trans (bel_alloc _ _) hb1⟩
  · go_enter Tryz.func41, Tryz.ntmps41
    go_wp2_with fail
    refine (hV _ (bel_alloc _ _)).mono ?_
    rintro r w1 ⟨rfl, hb1⟩
    have g0 := (hb1.block w.heap.size (by rw [size1]; omega)).trans (heap_a1 _ _)
    have k0 := blkC g0 0 rfl
    have k1 := blkC g0 1 rfl
    have k2 := blkC g0 2 rfl
    go_wp2_with fail
    refine (hS _).mono ?_
    rintro r w2 ⟨rfl, hb2⟩
    go_wp2
    go_ret2
    exact ⟨rfl, bel_trans (bel_trans (bel_alloc _ _) hb1) hb2⟩
theorem neg_dy {x : NumR} (h : okR x = true) : Dy (-x.V) (!x.ng && decide (0 < x.n)) (val x.d x.n) x.e := by
  have hd := (okR_dy h).1
  by_cases h0 : 0 < x.n
  · have hv := val_pos (okR_sane h).1 h0
    have := hd.neg hv
    simpa [h0] using this
  · rcases of_decide_eq_true h with ⟨h1, h2, h3⟩ | ⟨h1, _⟩
    · have hv : val x.d x.n = 0 := by rw [h1]; rfl
      have := hd.eq_zero.2 hv
      rw [this, hv, h3]
      simpa [h0] using Dy.zero
    · omega
theorem abs_dy {x : NumR} (h : okR x = true) : Dy (x.V.natAbs : Int) (false && decide (0 < x.n)) (val x.d x.n) x.e := by
  have hd := (okR_dy h).1.abs
  simpa using hd
end Go.Proofs.YtfgmhmkbilkfbaaGreatDoor
