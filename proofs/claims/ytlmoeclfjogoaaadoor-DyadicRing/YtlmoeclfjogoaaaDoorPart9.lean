/-
  Parts of the proof, one behind another.
-/
import Derived.Test.YtlmoeclfjogoaaaDoorPart8
import Derived.Test.YtlmoeclfjogoaaaDoorPart2
import Derived.Test.YtlmoeclfjogoaaaDoorPart3
import Derived.Deep.AppendLies
import Derived.Deep.RegionHeld3
import Derived.Deep.RegionLaw
/-
  Package plumblaw3: alive.
-/
namespace Go.Proofs.YtlmoeclfjogoaaaDoor
open Go Go.RowKit Go.Proofs.YtlmoeclfjogoaaaDoor.M
set_option linter.unusedSimpArgs false
set_option linter.unusedVariables false

/-- A small number's form. -/
theorem dy_lit (ng : Bool) {m e : Int} (h0 : 0 < m) (h1 : m % 2 = 1) (he : -4194304 ≤ e) : Dy (sg ng m * pw e) ng m e := ⟨rfl, he, .inr ⟨h0, h1⟩⟩
theorem dok_lit {ng : Bool} {m e : Int} (h0 : 0 < m) (h1 : m % 2 = 1) (h2 : m < 1073741824) (he : -1048576 ≤ e) (he1 : e ≤ 1048576) : Dok (sg ng m * pw e) :=
  (dy_lit ng h0 h1 (by omega)).ok.2 ⟨by have := P2000_big2; omega, he, he1⟩
theorem dnum_lit {w : World} {g : Nat} (ng : Bool) {m e : Int} (h0 : 0 < m) (h1 : m % 2 = 1) (h2 : m < 1073741824) (he : -4194304 ≤ e) (hg : w.heap[g]? = some (.cells #[.int .i64 m] 3 (0, 0))) :
    DNum w (.agg #[.bool ng, .slice (some ⟨g, 0, none⟩) 1 1, .int .i64 e]) (sg ng m * pw e) := by
  refine ⟨ng, _, m, e, rfl, dy_lit ng h0 h1 he, _, 1, 1, fun _ => m, rfl, ?_, ⟨fun i _ => by show 0 ≤ m ∧ m < 1073741824; omega, .inr (by show m ≠ 0; omega)⟩, by show 0 + m * 1 = m; omega⟩
  exact ⟨Nat.le_refl _, by omega, fun h => by simp at h, fun _ => ⟨g, 0, rfl, (Array.getElem?_eq_some_iff.1 hg).1, fun i hi => by
    obtain rfl : i = 0 := by omega
    exact blkC hg 0 rfl⟩⟩
theorem pw_step {e k : Int} {l : Nat} (h : -4194304 ≤ e) (hk : k = e + l) : pw k = pw e * 2 ^ l := by rw [hk, pw_add h]
theorem pw_0 : pw 0 = pw (-1) * 2 := (pw_step (e := -1) (l := 1) (by omega) (by omega)).trans (by rw [Int.pow_succ, Int.pow_zero, Int.one_mul])
theorem live_x : mkV true 6 (-1) = sg true 3 * pw 0 := by
  unfold mkV
  rw [if_neg (by decide), if_neg (by decide), pw_0]
  generalize pw (-1) = p
  show -6 * p = -3 * (p * 2)
  omega
theorem live_y : pok 4609434218613702656 = true ∧ sg (pneg 4609434218613702656) (pmag 4609434218613702656) * pw (pexp 4609434218613702656) = sg false 3 * pw (-1) := by
  refine ⟨by decide, ?_⟩
  rw [show pneg 4609434218613702656 = false by decide, show pmag 4609434218613702656 = 6755399441055744 by decide, show pexp 4609434218613702656 = -52 by decide, pw_step (e := -52) (k := -1) (l := 51) (by omega) (by omega)]
  generalize pw (-52) = p
  show 6755399441055744 * p = 3 * (p * 2 ^ 51)
  rw [show (2 : Int) ^ 51 = 2251799813685248 by decide]
  omega
theorem live_s : sg true 3 * pw 0 + sg false 3 * pw (-1) = sg true 3 * pw (-1) := by
  rw [pw_0]
  generalize pw (-1) = p
  show -3 * (p * 2) + 3 * p = -3 * p
  omega
theorem sameD_yes {w : World} {x y : Value} {A : Int} (hx : DNum w x A) (hy : DNum w y A) :
    Calls Tryd.prog 19 #[x, y] w fun r w' => r = .returned (.bool true) ∧ Below w.heap.size w w' := by
  have := same_D hx hy
  rwa [decide_eq_true (rfl : A = A)] at this
set_option maxRecDepth 100000 in
set_option maxHeartbeats 2000000 in
theorem dalive_any (w : World) (L : Lay64 w) (hT : Tab w) : Calls Tryd.prog 8 #[] w fun r w' => r = .returned (.bool true) ∧ Below w.heap.size w w' := by
  have lx : ∀ {w : World} {g : Nat}, w.heap[g]? = some (.cells #[.int .i64 3] 3 (0, 0)) → DNum w (.agg #[.bool true, .slice (some ⟨g, 0, none⟩) 1 1, .int .i64 0]) (sg true 3 * pw 0) := fun h => dnum_lit true (by decide) (by decide) (by decide) (by decide) h
  have ly : ∀ {w : World} {g : Nat}, w.heap[g]? = some (.cells #[.int .i64 3] 3 (0, 0)) → DNum w (.agg #[.bool false, .slice (some ⟨g, 0, none⟩) 1 1, .int .i64 (-1)]) (sg false 3 * pw (-1)) := fun h => dnum_lit false (by decide) (by decide) (by decide) (by decide) h
  have ls : ∀ {w : World} {g : Nat}, w.heap[g]? = some (.cells #[.int .i64 3] 3 (0, 0)) → DNum w (.agg #[.bool true, .slice (some ⟨g, 0, none⟩) 1 1, .int .i64 (-1)]) (sg true 3 * pw (-1)) := fun h => dnum_lit true (by decide) (by decide) (by decide) (by decide) h
  have vx := live_x
  have vy := live_y
  have vs := live_s
  have ox : Dok (sg true 3 * pw 0) := dok_lit (by decide) (by decide) (by decide) (by decide) (by decide)
  have oy : Dok (sg false 3 * pw (-1)) := dok_lit (by decide) (by decide) (by decide) (by decide) (by decide)
  have os : Dok (sg true 3 * pw (-1)) := dok_lit (by decide) (by decide) (by decide) (by decide) (by decide)
  generalize sg true 3 * pw 0 = A at *
  generalize sg false 3 * pw (-1) = B at *
  generalize sg true 3 * pw (-1) = C at *
  go_enter Tryd.func8, Tryd.ntmps8
  go_wp2_with fail
  refine (make_D true (-1) (num1 w 6 (by decide) (by decide) rfl) (by have := P2000_big2; omega) (hT.keeps (bel_alloc _ _))).mono ?_
  rw [vx]
  rintro r w1 ⟨v, er, rfl, hF⟩
  obtain ⟨rfl, hDx⟩ := hF.yes ox
  obtain ⟨ng, so, sn, sc, e, rfl⟩ := hF.shape
  have hb1 := bel_trans (bel_alloc w _) hDx.below
  have hX := hDx.num
  clear hF hDx
  go_wp2_with fail
  generalize hwx : w1.alloc (.cells #[.bool ng, .slice so sn sc, .int .i64 e] 31) = wx
  have g0 : wx.heap[w1.heap.size]? = some (.cells #[.bool ng, .slice so sn sc, .int .i64 e] 31 (0, 0)) := by rw [← hwx]; exact heap_a1 _ _
  have hbx : Below w.heap.size w wx := by rw [← hwx]; exact bel_trans hb1 (bel_alloc _ _)
  have hXx : DNum wx (.agg #[.bool ng, .slice so sn sc, .int .i64 e]) A := by rw [← hwx]; exact hX.keeps (bel_alloc _ _)
  clear hwx hX hb1
  refine (dof_any _ _ (L.keeps hbx) (hT.keeps hbx)).mono ?_
  rw [vy.1, vy.2]
  rintro r w2 ⟨v, er, rfl, hb2, (⟨_, rfl, hDy⟩ | ⟨h, _⟩)⟩
  · obtain ⟨ng2, s2, m2, e2, rfl, hy2, hA2⟩ := id hDy
    obtain ⟨so2, sn2, sc2, rfl⟩ := hA2.num.shape
    have hY := hDy.num
    have hX2 := hXx.keeps hb2
    have g0' := (hb2.block w1.heap.size (Array.getElem?_eq_some_iff.1 g0).1).trans g0
    have hb2' := bel_trans hbx hb2
    clear hDy hA2 hy2 hXx hbx hb2 g0
    have k0 := blkC (heap_past (.cells #[.bool ng2, .slice so2 sn2 sc2, .int .i64 e2] 31) g0') 0 rfl
    have k1 := blkC (heap_past (.cells #[.bool ng2, .slice so2 sn2 sc2, .int .i64 e2] 31) g0') 1 rfl
    have k2 := blkC (heap_past (.cells #[.bool ng2, .slice so2 sn2 sc2, .int .i64 e2] 31) g0') 2 rfl
    go_wp2_with fail
    have g1 := heap_a1 w2 (.cells #[.bool ng2, .slice so2 sn2 sc2, .int .i64 e2] 31)
    have g0 := heap_past (.cells #[.bool ng2, .slice so2 sn2 sc2, .int .i64 e2] 31) g0'
    have hb3 := bel_trans hb2' (bel_alloc w2 (.cells #[.bool ng2, .slice so2 sn2 sc2, .int .i64 e2] 31))
    have hX3 := hX2.keeps (bel_alloc w2 (.cells #[.bool ng2, .slice so2 sn2 sc2, .int .i64 e2] 31))
    have hY3 := hY.keeps (bel_alloc w2 (.cells #[.bool ng2, .slice so2 sn2 sc2, .int .i64 e2] 31))
    generalize w2.alloc (.cells #[.bool ng2, .slice so2 sn2 sc2, .int .i64 e2] 31) = w3 at g0 g1 hb3 hX3 hY3 ⊢
    clear k0 k1 k2 hX2 hY g0' hb2'
    refine (add_D hX3 hY3 ox oy (hT.keeps hb3)).mono ?_
    rw [vs]
    rintro r w4 ⟨v, er, rfl, hF⟩
    obtain ⟨rfl, hDs⟩ := hF.yes os
    obtain ⟨ng4, so4, sn4, sc4, e4, rfl⟩ := hF.shape
    have hS4 := hDs.num
    have hX4 := hX3.keeps hDs.below
    have hY4 := hY3.keeps hDs.below
    have p0 := (hDs.below.block _ (Array.getElem?_eq_some_iff.1 g0).1).trans g0
    have p1 := (hDs.below.block _ (Array.getElem?_eq_some_iff.1 g1).1).trans g1
    have hb4 := bel_trans hb3 hDs.below
    clear hF hDs hX3 hY3 g0 g1 hb3
    have hX5 := hX4.keeps (bel_alloc w4 (.cells #[.bool ng4, .slice so4 sn4 sc4, .int .i64 e4] 31))
    have hY5 := hY4.keeps (bel_alloc w4 (.cells #[.bool ng4, .slice so4 sn4 sc4, .int .i64 e4] 31))
    have hS5 := hS4.keeps (bel_alloc w4 (.cells #[.bool ng4, .slice so4 sn4 sc4, .int .i64 e4] 31))
    have hb5 := bel_trans hb4 (bel_alloc w4 (.cells #[.bool ng4, .slice so4 sn4 sc4, .int .i64 e4] 31))
    have a0 := heap_past (.cells #[.bool ng4, .slice so4 sn4 sc4, .int .i64 e4] 31) p0
    have a1 := heap_past (.cells #[.bool ng4, .slice so4 sn4 sc4, .int .i64 e4] 31) p1
    have a2 := heap_a1 w4 (.cells #[.bool ng4, .slice so4 sn4 sc4, .int .i64 e4] 31)
    have hs5 := size1 w4 (.cells #[.bool ng4, .slice so4 sn4 sc4, .int .i64 e4] 31)
    have x0 := blkC a0 0 rfl
    have x1 := blkC a0 1 rfl
    have x2 := blkC a0 2 rfl
    go_wp2_with fail
    generalize w4.alloc (.cells #[.bool ng4, .slice so4 sn4 sc4, .int .i64 e4] 31) = w5 at hX5 hY5 hS5 hb5 a0 a1 a2 hs5 x0 x1 x2 ⊢
    clear hX4 hY4 hS4 hb4 p0 p1 x0 x1 x2
    have l6 := lx (heap_new (w := w5) (k := w4.heap.size + 1) (.cells #[.int .i64 3] 3) hs5.symm)
    refine (sameD_yes (hX5.keeps (bel_alloc w5 (.cells #[.int .i64 3] 3))) l6).mono ?_
    rintro r w6 ⟨rfl, hc6⟩
    have hd6 := bel_trans (bel_alloc w5 (.cells #[.int .i64 3] 3)) hc6
    have hY6 := hY5.keeps hd6
    have hS6 := hS5.keeps hd6
    have hb6 := bel_trans hb5 hd6
    have b1 := (hd6.block _ (Array.getElem?_eq_some_iff.1 a1).1).trans a1
    have b2 := (hd6.block _ (Array.getElem?_eq_some_iff.1 a2).1).trans a2
    have y0 := blkC b1 0 rfl
    have y1 := blkC b1 1 rfl
    have y2 := blkC b1 2 rfl
    clear hX5 hY5 hS5 hb5 a0 a1 a2 l6 hc6
    go_wp2_with fail
    have l7 := ly (heap_a1 w6 (.cells #[.int .i64 3] 3))
    refine (sameD_yes (hY6.keeps (bel_alloc w6 (.cells #[.int .i64 3] 3))) l7).mono ?_
    rintro r w7 ⟨rfl, hc7⟩
    have hd7 := bel_trans (bel_alloc w6 (.cells #[.int .i64 3] 3)) hc7
    have hS7 := hS6.keeps hd7
    have hb7 := bel_trans hb6 hd7
    have c2 := (hd7.block _ (Array.getElem?_eq_some_iff.1 b2).1).trans b2
    have z0 := blkC c2 0 rfl
    have z1 := blkC c2 1 rfl
    have z2 := blkC c2 2 rfl
    clear hY6 hS6 hb6 b1 b2 l7 hc7 y0 y1 y2
    go_wp2_with fail
    have l8 := ls (heap_a1 w7 (.cells #[.int .i64 3] 3))
    refine (sameD_yes (hS7.keeps (bel_alloc w7 (.cells #[.int .i64 3] 3))) l8).mono ?_
    rintro r w8 ⟨rfl, hc8⟩
    have hd8 := bel_trans (bel_alloc w7 (.cells #[.int .i64 3] 3)) hc8
    have hS8 := hS7.keeps hd8
    have hb8 := bel_trans hb7 hd8
    have d2 := (hd8.block _ (Array.getElem?_eq_some_iff.1 c2).1).trans c2
    have u0 := blkC d2 0 rfl
    have u1 := blkC d2 1 rfl
    have u2 := blkC d2 2 rfl
    clear hS7 hb7 c2 l8 hc8 z0 z1 z2
    go_wp2_with fail
    refine (valid_D hS8 os).mono ?_
    rintro r w9 ⟨rfl, hb9⟩
    go_wp2
    go_ret
    exact ⟨rfl, bel_trans hb8 hb9⟩
  · cases h
end Go.Proofs.YtlmoeclfjogoaaaDoor

/-
  The document's own answers (plumbref2): Shl, Shr, by contracts over the same values.
-/
namespace Go.Proofs.YtlmoeclfjogoaaaDoor
open Go Go.RowKit Go.Proofs.YtlmoeclfjogoaaaDoor.M
set_option linter.unusedSimpArgs false
set_option linter.unusedVariables false

set_option maxHeartbeats 1000000 in
theorem rshl_qp (ao : Option Addr) (n ca q p : Nat) (a : Nat → Int) (w : World) (ha : Row w ao n ca a) (da : Dig a n) (hn : n ≤ 100000) (hq : q ≤ 100000) (hp : p < 30) (k : Int) (hk : k = 30 * q + p) :
    Calls Tryd.prog 84 #[.slice ao n ca, .int .i64 k] w fun e w' => ∃ v, e = .returned v ∧ Ans w w' (P q * (2 ^ p * val a n)) v := by
  have hla := ha.le
  have hma := ha.max
  have e1 : k / 30 = q := by omega
  have e2 : k % 30 = p := by omega
  have hk0 : 0 ≤ k := by omega
  clear hk
  have hu := two_pos p
  have hu2 : (2 : Int) ^ p ≤ 2 ^ 29 := two_le (by omega)
  by_cases hn0 : n = 0
  · subst hn0
    have H0 : Hid (P q * (2 ^ p * val a 0) = 0) := by show _ = _; simp [val]
    go_enter Tryd.func84, Tryd.ntmps84
    go_wp2
    go_ret
    exact ⟨_, rfl, by rw [H0.out]; exact Ans.nil (bel_refl _)⟩
  · have en : ((n : Int) == 0) = false := by simp; omega
    go_enter Tryd.func84, Tryd.ntmps84
    go_wp2_with (at_make; refine wpList_mk rfl _ _ rfl _ _ q rfl rfl (by omega) (by omega) (by omega) ?_; intro w1 hB1 hb1)
    rw [e2]
    go_loopw [5, 7, 8] (fun l c i wr => ∃ (k : Nat) (c' : Int) (r : Nat → Int), k ≤ n ∧ i = .int .i64 k ∧ c = .int .i64 c' ∧ 0 ≤ c' ∧ c' < 2 ^ p ∧ Out w.heap.size wr l (q + k) r ∧ Dig r (q + k) ∧ Hid (∀ i, i < q → r i = 0) ∧ Hid (val (fun i => r (q + i)) k + c' * P k = 2 ^ p * val a k) ∧ Below w.heap.size w wr) (fun _ _ i _ => n - (intOf i).toNat)
    case atStart => exact ⟨0, 0, fun _ => 0, Nat.zero_le _, rfl, rfl, by omega, hu, hB1.out (Nat.le_refl _) (Nat.le_refl _) (by omega), zero_dig _, fun _ _ => rfl, by show _ = _; show (0 : Int) + 0 * 1 = 2 ^ p * 0; omega, hb1⟩
    case round =>
      obtain ⟨k, c, r, hk, rfl, rfl, hc0, hc1, hO, hD, HZ, HV, hbw⟩ := hrel
      by_cases hlt : k < n
      · obtain ⟨ba, fa, rfl, hba, hca⟩ := ha.spot (by omega)
        have c1 := (hbw.cell (p := ⟨ba, fa + k, none⟩) hba).trans (hca k hlt)
        have dk := da k hlt
        obtain ⟨s0, s1, s2⟩ := shl_dig dk (show p ≤ 30 by omega)
        have hc2 : (a k * 2 ^ p + c) / 1073741824 < 2 ^ p := by omega
        go_wp2_with (at_builtin; refine wpList_app rfl _ _ rfl w.heap.size _ (q + k) r rfl (hO.stays (bel_alloc _ _)) _ 1 1 (fun _ => (a k * 2 ^ p + c) % 1073741824) rfl (row1 _ _ rfl) (by omega) (by have := hbw.size; simp; omega) ?_; intro v' w1 hO1 hg1)
        have hb1 : Below w.heap.size w w1 := (hbw.alloc hbw.size _).grown hg1 (by have := hbw.size; simp; omega) (own_ge hO)
        have hs := sum_step (x := a k * 2 ^ p) HV.out
        rw [Int.add_comm c] at hs
        go_roundw
        case rel => exact ⟨k + 1, (a k * 2 ^ p + c) / 1073741824, upd r (q + k) ((a k * 2 ^ p + c) % 1073741824), by omega, by go_num, rfl, by omega, hc2, hO1.congr (cat_upd r (q + k) _), dig_upd2 hD (mod_dig _), fun i hi => by rw [upd_other r _ (by omega)]; exact HZ.out i hi, by show _ = _; rw [upd_shift, hs, val_succ]; grind, hb1⟩
        case measure => simp [intOf]; omega
      · obtain rfl : k = n := by omega
        go_wp2_with (at_builtin; refine wpList_app rfl _ _ rfl w.heap.size _ (q + k) r rfl (hO.stays (bel_alloc _ _)) _ 1 1 (fun _ => c) rfl (row1 _ _ rfl) (by omega) (by have := hbw.size; simp; omega) ?_; intro v' w1 hO1 hg1)
        have hb1 : Below w.heap.size w w1 := (hbw.alloc hbw.size _).grown hg1 (by have := hbw.size; simp; omega) (own_ge hO)
        have D2 : Dig (upd r (q + k) c) (q + k + 1) := dig_upd2 hD ⟨hc0, by omega⟩
        refine (rtrim_ans (hO1.congr (cat_upd r (q + k) c)) D2 hb1).mono ?_
        rintro e w3 ⟨v', rfl, hA, rfl⟩
        go_wp2
        go_ret
        refine ⟨_, rfl, ?_⟩
        rw [Nat.add_assoc, val_shift0 _ _ _ (fun i hi => by rw [upd_other r _ (by omega)]; exact HZ.out i hi), upd_shift, val_succ, upd_same, val_upd_ge _ _ (Nat.le_refl _), HV.out] at hA
        exact hA
theorem rshl_any (ao : Option Addr) (n ca k : Nat) (a : Nat → Int) (w : World) (ha : Row w ao n ca a) (da : Dig a n) (hn : n ≤ 100000) (hk : k ≤ 1000000) :
    Calls Tryd.prog 84 #[.slice ao n ca, .int .i64 k] w fun e w' => ∃ v, e = .returned v ∧ Ans w w' (val a n * 2 ^ k) v := by
  refine (rshl_qp ao n ca (k / 30) (k % 30) a w ha da hn (by omega) (by omega) k (by omega)).mono ?_
  rintro e w' ⟨v, he, h⟩
  refine ⟨v, he, ?_⟩
  rw [two_split k]
  rwa [show val a n * (P (k / 30) * 2 ^ (k % 30)) = P (k / 30) * (2 ^ (k % 30) * val a n) by grind]

set_option maxRecDepth 100000 in
set_option maxHeartbeats 1000000 in
theorem rshr_qp (ao : Option Addr) (n ca q p : Nat) (a : Nat → Int) (w : World) (ha : Row w ao n ca a) (da : Dig a n) (hn : n ≤ 100000) (hp : p < 30) (k : Int) (hk : k = 30 * q + p) (hkm : k ≤ 4000000) :
    Calls Tryd.prog 105 #[.slice ao n ca, .int .i64 k] w fun e w' => ∃ v, e = .returned v ∧ Ans w w' (val a n / P q / 2 ^ p) v := by
  have hla := ha.le
  have hma := ha.max
  have e1 : k / 30 = q := by omega
  have e2 : k % 30 = p := by omega
  have hk0 : 0 ≤ k := by omega
  have hq1 : q ≤ 200000 := by omega
  clear hk
  have hu := two_pos p
  have hu2 : (2 : Int) ^ p ≤ 2 ^ 29 := two_le (by omega)
  have huv : (2 : Int) ^ p * 2 ^ (30 - p) = 1073741824 := by rw [← Int.pow_add, show p + (30 - p) = 30 by omega]; rfl
  have HU : Hid ((2 : Int) ^ p * 2 ^ (30 - p) = 1073741824) := huv
  have hdv : (1073741824 : Int) / 2 ^ p = 2 ^ (30 - p) := by rw [← huv]; exact Int.mul_ediv_cancel_left _ (by omega)
  have hz : ((2 : Int) ^ p == 0) = false := by simp; omega
  clear huv
  by_cases hqn : n ≤ q
  · have H0 : Hid (val a n / P q / 2 ^ p = 0) := by
      show _ = _
      rw [Int.ediv_eq_zero_of_lt (val_nonneg da) (by have := val_lt da; have := P_le hqn; omega)]; exact Int.zero_ediv _
    go_enter Tryd.func105, Tryd.ntmps105
    go_wp2
    go_ret
    exact ⟨_, rfl, by rw [H0.out]; exact Ans.nil (bel_refl _)⟩
  · obtain ⟨ba, fa, rfl, hba, hca⟩ := ha.spot (by omega)
    obtain ⟨N, hN⟩ : ∃ N, n = q + N := ⟨n - q, by omega⟩
    have HN : Hid (n = q + N) := hN
    have hn1 : q + N ≤ n := by omega
    have hn2 : n ≤ q + N := by omega
    have hN0 : 0 < N := by omega
    clear hN
    go_enter Tryd.func105, Tryd.ntmps105
    go_wp2
    rw [e1, e2]
    go_loopw [5, 7] (fun l i wr => ∃ (k : Nat) (r : Nat → Int), k ≤ N ∧ i = .int .i64 ((q : Int) + k) ∧ Out w.heap.size wr l k r ∧ Hid (∀ i, i < k → r i = low (fun j => ext a n (q + j)) (2 ^ p) (2 ^ (30 - p)) i) ∧ Below w.heap.size w wr) (fun _ i _ => n - (intOf i).toNat)
    case atStart => exact ⟨0, fun _ => 0, Nat.zero_le _, by simp, Out.nil _ _ _, fun i hi => by omega, bel_refl _⟩
    case round =>
      obtain ⟨k, r, hk, rfl, hO, HV, hbw⟩ := hrel
      by_cases hlt : k < N
      · have c1 := (hbw.cell (p := ⟨ba, fa + (q + k), none⟩) hba).trans (hca (q + k) (by omega))
        have dx := da (q + k) (by omega)
        by_cases hl2 : q + k + 1 < n
        · have dy := da (q + k + 1) (by omega)
          obtain ⟨s0, s1, s2, s3, s4⟩ := shr_part dx dy hp
          have s5 : 0 ≤ a (q + k + 1) % 2 ^ p * 2 ^ (30 - p) := Int.mul_nonneg s3 (Int.le_of_lt (two_pos _))
          have s6 : (2 : Int) ^ (30 - p) ≤ 2 ^ 30 := two_le (by omega)
          have c2 := (hbw.cell (p := ⟨ba, fa + (q + k + 1), none⟩) hba).trans (hca (q + k + 1) (by omega))
          clear s2
          go_wp2
          go_quiet (fail)
          go_wp2_with (at_builtin; refine wpList_app rfl _ _ rfl w.heap.size _ k r rfl ((hO.stays (bDrewN (bel_refl _) _)).stays (bel_alloc _ _)) _ 1 1 (fun _ => (a (q + k) / 2 ^ p + a (q + k + 1) % 2 ^ p * 2 ^ (30 - p))) rfl (row1 _ _ rfl) (by omega) (by have := hbw.size; simp [World.drewN]; omega) ?_; intro v' w1 hO1 hg1)
          have hb1 : Below w.heap.size w w1 := ((bDrewN hbw _).alloc hbw.size _).grown hg1 (by have := hbw.size; simp [World.drewN]; omega) (own_ge hO)
          go_roundw
          case rel => exact ⟨k + 1, upd r k (a (q + k) / 2 ^ p + a (q + k + 1) % 2 ^ p * 2 ^ (30 - p)), by omega, by go_num, hO1.congr (cat_upd r k _), fun i hi => by
              by_cases e : i = k
              · rw [e, upd_same]
                show _ = ext a n (q + k) / 2 ^ p + ext a n (q + (k + 1)) % 2 ^ p * 2 ^ (30 - p)
                rw [ext_lt a (by omega), ext_lt a (by omega), Nat.add_assoc]
              · rw [upd_other _ _ e]; exact HV.out i (by omega), hb1⟩
          case measure => simp [intOf]; omega
        · obtain ⟨s0, s1, _, _, _⟩ := shr_part dx dx hp
          have s6 : (2 : Int) ^ (30 - p) ≤ 2 ^ 30 := two_le (by omega)
          go_wp2_with (at_builtin; refine wpList_app rfl _ _ rfl w.heap.size _ k r rfl (hO.stays (bel_alloc _ _)) _ 1 1 (fun _ => (a (q + k) / 2 ^ p)) rfl (row1 _ _ rfl) (by omega) (by have := hbw.size; simp; omega) ?_; intro v' w1 hO1 hg1)
          have hb1 : Below w.heap.size w w1 := (hbw.alloc hbw.size _).grown hg1 (by have := hbw.size; simp; omega) (own_ge hO)
          go_roundw
          case rel => exact ⟨k + 1, upd r k (a (q + k) / 2 ^ p), by omega, by go_num, hO1.congr (cat_upd r k _), fun i hi => by
              by_cases e : i = k
              · rw [e, upd_same, low_last (s := fun j => ext a n (q + j)) (ext_ge a (by omega)), ext_lt a (by omega)]
              · rw [upd_other r _ e]; exact HV.out i (by omega), hb1⟩
          case measure => simp [intOf]; omega
      · obtain rfl : k = N := by omega
        have DS : Dig (fun j => ext a n (q + j)) (k + 1) := fun i hi => ext_dig da (q + k + 1) (q + i) (by omega)
        have D2 : Dig r k := (low_dig hu HU.out DS).congr fun i hi => (HV.out i hi).symm
        have HD2 : Hid (Dig r k) := D2
        clear D2 DS
        go_wp2_with fail
        refine (rtrim_ans hO HD2.out hbw).mono ?_
        rintro e w3 ⟨v', rfl, hA, rfl⟩
        go_wp2
        go_ret
        refine ⟨_, rfl, ?_⟩
        rw [val_congr HV.out, low_eq (s := fun j => ext a n (q + j)) hu HU.out (ext_ge a (by omega))] at hA
        have e3 := val_drop a (show q ≤ n by omega) da
        rw [← e3, show n - q = k by omega]
        rw [show val (fun j => ext a n (q + j)) k = val (fun i => a (q + i)) k from val_congr fun i hi => ext_lt a (by omega)] at hA
        exact hA
theorem rshr_any (ao : Option Addr) (n ca k : Nat) (a : Nat → Int) (w : World) (ha : Row w ao n ca a) (da : Dig a n) (hn : n ≤ 100000) (hk : k ≤ 4000000) :
    Calls Tryd.prog 105 #[.slice ao n ca, .int .i64 k] w fun e w' => ∃ v, e = .returned v ∧ Ans w w' (val a n / 2 ^ k) v := by
  refine (rshr_qp ao n ca (k / 30) (k % 30) a w ha da hn (by omega) k (by omega) (by omega)).mono ?_
  rintro e w' ⟨v, he, h⟩
  refine ⟨v, he, ?_⟩
  rw [two_split k, ← Int.ediv_ediv_of_nonneg (Int.le_of_lt (P_pos _))]
  exact h
end Go.Proofs.YtlmoeclfjogoaaaDoor

/-
  plumblaw2's Keep: lists of answers that are kept, in memory: what it is (Kp), Add, by its contract.
-/
namespace Go.Proofs.YtlmoeclfjogoaaaDoor
open Go Go.RowKit Go.Proofs.YtlmoeclfjogoaaaDoor.M
set_option linter.unusedSimpArgs false
set_option linter.unusedVariables false

/-- One put in another's place. -/
def updV {α : Type} (v : Nat → α) (i : Nat) (x : α) : Nat → α := fun j => if j = i then x else v j
theorem updV_same {α : Type} (v : Nat → α) (i : Nat) (x : α) : updV v i x i = x := by simp [updV]
theorem updV_other {α : Type} (v : Nat → α) {i j : Nat} (x : α) (h : j ≠ i) : updV v i x j = v j := by simp [updV, h]
/-- The first m of v. -/
def valsV (v : Nat → Value) (m : Nat) : List Value := (List.range m).map v
theorem valsV_length (v : Nat → Value) (m : Nat) : (valsV v m).length = m := by simp [valsV]
theorem valsV_get (v : Nat → Value) {m i : Nat} (h : i < m) : (valsV v m)[i]? = some (v i) := by simp [valsV, h]
theorem valsV_snoc (v : Nat → Value) (m : Nat) (x : Value) : valsV v m ++ [x] = valsV (updV v m x) (m + 1) := by
  apply List.ext_getElem?
  intro i
  by_cases h : i < m
  · rw [List.getElem?_append_left (by rw [valsV_length]; exact h), valsV_get v h, valsV_get _ (by omega), updV_other v x (by omega)]
  · by_cases e : i = m
    · subst e; rw [List.getElem?_append_right (by rw [valsV_length]; omega), valsV_length, valsV_get _ (by omega), updV_same]; simp
    · rw [List.getElem?_eq_none (by simp [valsV_length]; omega), List.getElem?_eq_none (by rw [valsV_length]; omega)]
/-- A list of slices that is the call's own. -/
def OutV (B : Nat) (w : World) (x : Value) (m : Nat) (v : Nat → Value) : Prop := w.ownsRow B 22 1 x m (valsV v m)
theorem OutV.shape {B : Nat} {w : World} {x : Value} {m : Nat} {v : Nat → Value} (h : OutV B w x m v) : ∃ xo xc, x = .slice xo m xc ∧ m ≤ xc ∧ xc ≤ 9223372036854775807 ∧ (0 < m → ∃ g, xo = some ⟨g, 0, none⟩) := by
  rcases h.2 with ⟨rfl, rfl⟩ | ⟨g, cap, cur, rfl, hb, hg, hn, hm, _⟩
  · exact ⟨none, 0, rfl, Nat.le_refl _, by decide, fun h => by omega⟩
  · exact ⟨_, cap, rfl, hn, by unfold maxLen at hm; exact hm, fun _ => ⟨g, rfl⟩⟩
theorem OutV.of_block {B : Nat} {w w' : World} {x : Value} {m : Nat} {v : Nat → Value} (h : OutV B w x m v) (hb : ∀ g, x.ownBlock = some g → w'.heap[g]? = w.heap[g]?) : OutV B w' x m v := by
  refine ⟨h.1, ?_⟩
  rcases h.2 with hn | ⟨g, cap, cur, rfl, hbb, hg, rest⟩
  · exact .inl hn
  · exact .inr ⟨g, cap, cur, rfl, hbb, (hb g rfl).trans hg, rest⟩
theorem Out.of_block {B : Nat} {w w' : World} {x : Value} {n : Nat} {d : Nat → Int} (h : Out B w x n d) (hb : ∀ g, x.ownBlock = some g → w'.heap[g]? = w.heap[g]?) : Out B w' x n d := by
  refine ⟨h.1, ?_⟩
  rcases h.2 with hn | ⟨g, cap, cur, rfl, hbb, hg, rest⟩
  · exact .inl hn
  · exact .inr ⟨g, cap, cur, rfl, hbb, (hb g rfl).trans hg, rest⟩
theorem Out.typed {B : Nat} {w : World} {x : Value} {n : Nat} {d : Nat → Int} (h : Out B w x n d) {g : Nat} (hg : x.ownBlock = some g) : ∃ cur z, w.heap[g]? = some (.cells cur 3 z) := by
  rcases h.2 with ⟨rfl, _⟩ | ⟨g', cap, cur, rfl, hbb, hg', rest⟩
  · simp [Value.ownBlock] at hg
  · simp only [Value.ownBlock, Option.some.injEq] at hg; subst hg; exact ⟨cur, _, hg'⟩
theorem OutV.typed {B : Nat} {w : World} {x : Value} {n : Nat} {v : Nat → Value} (h : OutV B w x n v) {g : Nat} (hg : x.ownBlock = some g) : ∃ cur z, w.heap[g]? = some (.cells cur 22 z) := by
  rcases h.2 with ⟨rfl, _⟩ | ⟨g', cap, cur, rfl, hbb, hg', rest⟩
  · simp [Value.ownBlock] at hg
  · simp only [Value.ownBlock, Option.some.injEq] at hg; subst hg; exact ⟨cur, _, hg'⟩
theorem OutV.ge {B : Nat} {w : World} {x : Value} {n : Nat} {v : Nat → Value} (h : OutV B w x n v) {g : Nat} (hg : x.ownBlock = some g) : B ≤ g ∧ g < w.heap.size := by
  rcases h.2 with ⟨rfl, _⟩ | ⟨g', cap, cur, rfl, hbb, hg', rest⟩
  · simp [Value.ownBlock] at hg
  · simp only [Value.ownBlock, Option.some.injEq] at hg; subst hg; exact ⟨hbb, (Array.getElem?_eq_some_iff.1 hg').1⟩
theorem Out.ge {B : Nat} {w : World} {x : Value} {n : Nat} {v : Nat → Int} (h : Out B w x n v) {g : Nat} (hg : x.ownBlock = some g) : B ≤ g ∧ g < w.heap.size := by
  rcases h.2 with ⟨rfl, _⟩ | ⟨g', cap, cur, rfl, hbb, hg', rest⟩
  · simp [Value.ownBlock] at hg
  · simp only [Value.ownBlock, Option.some.injEq] at hg; subst hg; exact ⟨hbb, (Array.getElem?_eq_some_iff.1 hg').1⟩
/-- All blocks are left as they are but those of lists of slices and of Keep itself. -/
structure Ik (B : Nat) (w w' : World) : Prop where
  below : Below B w w'
  block : ∀ (g : Nat) (cur : Array Value) (t : TypeId) z, t ≠ 22 → t ≠ 26 → w.heap[g]? = some (Obj.cells cur t z) → w'.heap[g]? = w.heap[g]?
theorem Ik.refl (B : Nat) (w : World) : Ik B w w := ⟨Below.refl _ _, fun _ _ _ _ _ _ _ => rfl⟩
theorem Ik.trans {B : Nat} {a b c : World} (h : Ik B a b) (k : Ik B b c) : Ik B a c :=
  ⟨h.below.trans k.below, fun g cur t z t1 t2 hg => (k.block g cur t z t1 t2 ((h.block g cur t z t1 t2 hg).trans hg)).trans (h.block g cur t z t1 t2 hg)⟩
theorem Ik.of {B : Nat} {a b : World} (h : Below a.heap.size a b) (hB : B ≤ a.heap.size) : Ik B a b :=
  ⟨h.mono hB, fun g cur t z _ _ hg => h.block g (Array.getElem?_eq_some_iff.1 hg).1⟩
theorem Out.ik {B B' : Nat} {w w' : World} {x : Value} {n : Nat} {d : Nat → Int} (h : Out B w x n d) (k : Ik B' w w') : Out B w' x n d :=
  h.of_block fun g hg => by obtain ⟨cur, z, hc⟩ := h.typed hg; exact k.block g cur _ z (by decide) (by decide) hc
/-- Blocks that were there are left, but those of lists of slices and of Keep itself. -/
def Fr (w w' : World) : Prop := ∀ (g : Nat) (cur : Array Value) (t : TypeId) z, t ≠ 22 → t ≠ 26 → w.heap[g]? = some (Obj.cells cur t z) → w'.heap[g]? = w.heap[g]?
theorem Ik.fr {B : Nat} {w w' : World} (h : Ik B w w') : Fr w w' := h.block
theorem Fr.of {w w' : World} (h : Below w.heap.size w w') : Fr w w' := fun g cur t z _ _ hg => h.block g (Array.getElem?_eq_some_iff.1 hg).1
theorem Fr.trans {a b c : World} (h : Fr a b) (k : Fr b c) : Fr a c := fun g cur t z t1 t2 hg => (k g cur t z t1 t2 ((h g cur t z t1 t2 hg).trans hg)).trans (h g cur t z t1 t2 hg)
theorem Fr.wr {w w' w'' : World} {g : Nat} (h : Fr w w') (hw : Wr g w' w'') (hg : w.heap.size ≤ g) (hs : w.heap.size ≤ w'.heap.size) : Fr w w'' := fun k cur t z t1 t2 hk => by
  have hlt := (Array.getElem?_eq_some_iff.1 hk).1
  exact (hw.block k (by omega) (by omega)).trans (h k cur t z t1 t2 hk)
/-- What is kept: m answers v, what they were (u), of n digits d. -/
structure Kp (B : Nat) (w : World) (k m : Nat) (v u : Nat → Value) (n : Nat → Nat) (d : Nat → Nat → Int) : Prop where
  blk : ∃ x y, w.heap[k]? = some (Obj.cells #[x, y] 26 (0, 0)) ∧ OutV B w x m v ∧ OutV B w y m u ∧ ∀ g, x.ownBlock = some g → y.ownBlock ≠ some g
  ge : B ≤ k
  ans : ∀ i, i < m → Out B w (v i) (n i) (d i)
  was : ∀ i, i < m → Out B w (u i) (n i) (d i)
  len : ∀ i, i < m → n i ≤ 100000
  apart : ∀ i j, i < m → j < m → i ≠ j → ∀ g, (v i).ownBlock = some g → (v j).ownBlock ≠ some g
theorem Kp.keeps {B : Nat} {w w' : World} {k m : Nat} {v u : Nat → Value} {n : Nat → Nat} {d : Nat → Nat → Int} (h : Kp B w k m v u n d) (hb : Below w.heap.size w w') : Kp B w' k m v u n d := by
  obtain ⟨⟨x, y, hk, hx, hy, hxy⟩, hge, hans, hwas, hlen, hapart⟩ := h
  exact ⟨⟨x, y, (hb.block k (Array.getElem?_eq_some_iff.1 hk).1).trans hk, hx.of_block fun g hg => hb.block g (hx.ge hg).2, hy.of_block fun g hg => hb.block g (hy.ge hg).2, hxy⟩, hge, fun i hi => (hans i hi).stays hb, fun i hi => (hwas i hi).stays hb, hlen, hapart⟩
theorem info_slice : (Tryd.prog.info? 22).map (fun i => (i.zero, i.size, i.bytes)) = some (some (.slice none 0 0), 1, 24) := by kernel_rfl
theorem cell_one (w : World) (x : Value) (t : TypeId) {g : Nat} (hg : g = w.heap.size) : (w.alloc (.cells #[x] t)).cell? ⟨g, 0, none⟩ = some x := by
  subst hg
  rw [cell_of_row _ _ 0 _ _ _ (heap_alloc_new w _)]; rfl
/-- 'append(xs, x)' of a list of slices. -/
theorem wpList_appV {w : World} {ops : Array Oper} {rest : List Oper} {o : Oper} {a : Act} {Q : Exit → Act → World → Prop} (hgd : o.guard = none) (s x : Operand)
    (ho : o.op = .call { callee := .builtin .append, args := #[s, x], argTypes := #[24, 24] }) (B : Nat) (v : Value) (m : Nat) (f : Nat → Value) (hs : a.eval s = v) (hO : OutV B w v m f)
    (g : Nat) (y : Value) (hx : a.eval x = .slice (some ⟨g, 0, none⟩) 1 1) (hy : w.cell? ⟨g, 0, none⟩ = some y) (h1 : y.oneCell' = true) (hlen : m ≤ 1000) (hB : B ≤ w.heap.size)
    (h : ∀ v' w', OutV B w' v' (m + 1) (updV f m y) → w.grownBy w' v.ownBlock → (v'.ownBlock = v.ownBlock ∨ v'.ownBlock = some w.heap.size) → wpList Tryd.prog ops Q rest (a.put o.dst v') w') : wpList Tryd.prog ops Q (o :: rest) a w := by
  obtain ⟨i0, hi, hz0, hz1, hz2⟩ := info_parts info_slice
  refine wpList_append_own_at w hgd s x 24 ho B 22 i0 (.slice none 0 0) 1 24 Tryd.underlying24 hi hz0 hz1 hz2 rfl (by decide) v m (valsV f m) hs hO ⟨g, 0, none⟩ 1 1 [y] hx rfl ?_ (by simpa using h1) (by unfold maxLen; omega) (by omega) hB ?_
  · intro j u hu
    have hj : j = 0 := by have := (List.getElem?_eq_some_iff.1 hu).1; simp at this; exact this
    subst hj
    simp at hu
    subst hu
    rw [add_none]; exact hy
  · intro v' w' h1 h2 _ h3
    rw [valsV_snoc] at h1
    exact h v' w' h1 h2 h3
theorem Ik.grownV {B : Nat} {a w w' : World} {row : Option Nat} (h : Ik B a w) (hg : w.grownBy w' row) (hB : B ≤ w.heap.size) (hr : ∀ g, row = some g → B ≤ g ∧ ∃ (cur : Array Value) (z : Nat × Nat), w.heap[g]? = some (Obj.cells cur 22 z)) : Ik B a w' := by
  refine ⟨h.below.grown hg hB fun k hk => (hr k hk).1, fun g cur t z t1 t2 hc => ?_⟩
  have e := (h.block g cur t z t1 t2 hc).trans hc
  refine (hg.block g (Array.getElem?_eq_some_iff.1 e).1 fun he => ?_).trans (h.block g cur t z t1 t2 hc)
  obtain ⟨_, cur', z', hc'⟩ := hr g he.symm
  rw [e] at hc'
  simp only [Option.some.injEq, Obj.cells.injEq] at hc'
  exact t1 hc'.2.1
theorem Ik.alloc {B : Nat} {a w : World} (h : Ik B a w) (hB : B ≤ w.heap.size) (o : Obj) : Ik B a (w.alloc o) :=
  ⟨h.below.alloc hB o, fun g cur t z t1 t2 hc => by
    have e := (h.block g cur t z t1 t2 hc).trans hc
    exact (Below.heap_alloc _ _ _ (Array.getElem?_eq_some_iff.1 e).1).trans (h.block g cur t z t1 t2 hc)⟩
theorem Ik.setK {B : Nat} {a w : World} (h : Ik B a w) {k : Nat} {cs : Array Value} {z : Nat × Nat} (hk : w.heap[k]? = some (Obj.cells cs 26 z)) (hB : B ≤ k) (o : Nat) (u : Value) : Ik B a (w.setCell ⟨k, o, none⟩ u) :=
  ⟨h.below.setCell hB u, fun g cur t z' t1 t2 hc => by
    have e := (h.block g cur t z' t1 t2 hc).trans hc
    refine (Below.heap_setCell _ _ _ _ fun he => ?_).trans (h.block g cur t z' t1 t2 hc)
    change g = k at he
    subst he
    rw [e] at hk
    simp only [Option.some.injEq, Obj.cells.injEq] at hk
    exact t2 hk.2.1⟩
theorem grown_out {B : Nat} {w w' : World} {row : Option Nat} {x : Value} {m : Nat} {v : Nat → Value} (h : OutV B w x m v) (hg : w.grownBy w' row) (hne : ∀ g, x.ownBlock = some g → row ≠ some g) : OutV B w' x m v :=
  h.of_block fun g hgx => hg.block g (h.ge hgx).2 fun e => hne g hgx e.symm
theorem OutV.alloc {B : Nat} {w : World} {x : Value} {m : Nat} {v : Nat → Value} (h : OutV B w x m v) (o : Obj) : OutV B (w.alloc o) x m v := h.of_block fun g hg => Below.heap_alloc _ _ _ (h.ge hg).2
theorem OutV.setK {B : Nat} {w : World} {x : Value} {m : Nat} {v : Nat → Value} (h : OutV B w x m v) {k : Nat} {cs : Array Value} {z : Nat × Nat} (hk : w.heap[k]? = some (Obj.cells cs 26 z)) (o : Nat) (u : Value) : OutV B (w.setCell ⟨k, o, none⟩ u) x m v :=
  h.of_block fun g hg => Below.heap_setCell _ _ _ _ fun he => by
    change g = k at he
    subst he
    obtain ⟨cur, z', hc⟩ := h.typed hg
    rw [hk] at hc
    simp at hc
theorem keep_at {w : World} {k : Nat} {x y : Value} (hk : w.heap[k]? = some (Obj.cells #[x, y] 26 (0, 0))) : w.cell? ⟨k, 0, none⟩ = some x ∧ w.cell? ⟨k, 1, none⟩ = some y ∧ w.frozen? ⟨k, 0, none⟩ = false ∧ w.frozen? ⟨k, 1, none⟩ = false :=
  ⟨by rw [cell_of_row w k 0 _ _ _ hk]; rfl, by rw [cell_of_row w k 1 _ _ _ hk]; rfl, frozen_of_row w k 0 _ _ hk, frozen_of_row w k 1 _ _ hk⟩

/-- The two lists of what is kept, as they lie: x of m, y of m'. -/
structure KX (B : Nat) (w : World) (k : Nat) (x y : Value) (m : Nat) (v : Nat → Value) (m' : Nat) (u : Nat → Value) : Prop where
  blk : w.heap[k]? = some (Obj.cells #[x, y] 26 (0, 0))
  ox : OutV B w x m v
  oy : OutV B w y m' u
  ne : ∀ g, x.ownBlock = some g → y.ownBlock ≠ some g
  ge : B ≤ k
theorem KX.keeps {B : Nat} {w w' : World} {k : Nat} {x y : Value} {m : Nat} {v : Nat → Value} {m' : Nat} {u : Nat → Value} (h : KX B w k x y m v m' u) (hb : Below w.heap.size w w') : KX B w' k x y m v m' u :=
  ⟨(hb.block k (Array.getElem?_eq_some_iff.1 h.blk).1).trans h.blk, h.ox.of_block fun g hg => hb.block g (h.ox.ge hg).2, h.oy.of_block fun g hg => hb.block g (h.oy.ge hg).2, h.ne, h.ge⟩
theorem KX.lt {B : Nat} {w : World} {k : Nat} {x y : Value} {m : Nat} {v : Nat → Value} {m' : Nat} {u : Nat → Value} (h : KX B w k x y m v m' u) : k < w.heap.size := (Array.getElem?_eq_some_iff.1 h.blk).1
theorem set_keep0 {w : World} {k : Nat} {x y x' : Value} (hk : w.heap[k]? = some (Obj.cells #[x, y] 26 (0, 0))) : (w.setCell ⟨k, 0, none⟩ x').heap[k]? = some (Obj.cells #[x', y] 26 (0, 0)) := by
  rw [heap_setCell_same w k 0 _ _ _ hk]; rfl
theorem set_keep1 {w : World} {k : Nat} {x y y' : Value} (hk : w.heap[k]? = some (Obj.cells #[x, y] 26 (0, 0))) : (w.setCell ⟨k, 1, none⟩ y').heap[k]? = some (Obj.cells #[x, y'] 26 (0, 0)) := by
  rw [heap_setCell_same w k 1 _ _ _ hk]; rfl
theorem KX.stepX {B : Nat} {w w2 : World} {k : Nat} {x y x' : Value} {m : Nat} {v v' : Nat → Value} {m' : Nat} {u : Nat → Value} (h : KX B w k x y m v m' u) (hB : B ≤ w.heap.size)
    (hg : w.grownBy w2 x.ownBlock) (hX : OutV B w2 x' (m + 1) v') (hat : x'.ownBlock = x.ownBlock ∨ x'.ownBlock = some w.heap.size) :
    w2.heap[k]? = some (Obj.cells #[x, y] 26 (0, 0)) ∧ KX B (w2.setCell ⟨k, 0, none⟩ x') k x' y (m + 1) v' m' u ∧ Ik B w (w2.setCell ⟨k, 0, none⟩ x') := by
  have hk2 : w2.heap[k]? = some (Obj.cells #[x, y] 26 (0, 0)) := (hg.block k h.lt fun e => by
    obtain ⟨cur, z, hc⟩ := h.ox.typed e.symm
    rw [h.blk] at hc
    simp at hc).trans h.blk
  have oy2 := grown_out h.oy hg fun g hgy e => h.ne g e hgy
  refine ⟨hk2, ⟨set_keep0 hk2, hX.setK hk2 _ _, oy2.setK hk2 _ _, fun g e => ?_, h.ge⟩, ((Ik.refl B w).grownV hg hB fun g e => ⟨(h.ox.ge e).1, h.ox.typed e⟩).setK hk2 h.ge _ _⟩
  rcases hat with q | q
  · exact h.ne g (q.symm.trans e)
  · intro hy'
    rw [e] at q
    have := (h.oy.ge hy').2
    simp at q
    omega
theorem KX.stepY {B : Nat} {w w2 : World} {k : Nat} {x y y' : Value} {m : Nat} {v : Nat → Value} {m' : Nat} {u u' : Nat → Value} (h : KX B w k x y m v m' u) (hB : B ≤ w.heap.size)
    (hg : w.grownBy w2 y.ownBlock) (hY : OutV B w2 y' (m' + 1) u') (hat : y'.ownBlock = y.ownBlock ∨ y'.ownBlock = some w.heap.size) :
    w2.heap[k]? = some (Obj.cells #[x, y] 26 (0, 0)) ∧ KX B (w2.setCell ⟨k, 1, none⟩ y') k x y' m v (m' + 1) u' ∧ Ik B w (w2.setCell ⟨k, 1, none⟩ y') := by
  have hk2 : w2.heap[k]? = some (Obj.cells #[x, y] 26 (0, 0)) := (hg.block k h.lt fun e => by
    obtain ⟨cur, z, hc⟩ := h.oy.typed e.symm
    rw [h.blk] at hc
    simp at hc).trans h.blk
  have ox2 := grown_out h.ox hg fun g hgx e => h.ne g hgx e
  refine ⟨hk2, ⟨set_keep1 hk2, ox2.setK hk2 _ _, hY.setK hk2 _ _, fun g e e' => ?_, h.ge⟩, ((Ik.refl B w).grownV hg hB fun g e => ⟨(h.oy.ge e).1, h.oy.typed e⟩).setK hk2 h.ge _ _⟩
  rcases hat with q | q
  · exact h.ne g e (q.symm.trans e')
  · rw [e'] at q
    have := (h.ox.ge e).2
    simp at q
    omega
/-- 'append' of ints, as it runs, and where the new slice lies. -/
theorem run_app {w : World} (ty : TypeId) (B : Nat) (v : Value) (n : Nat) (d : Nat → Int) (hO : Out B w v n d) (bo : Option Addr) (m cb : Nat) (e : Nat → Int) (hR : Row w bo m cb e) (hlen : n + m ≤ 1000000) (hB : B ≤ w.heap.size) :
    ∃ v' w', (Builtin.append_ #[22, 22] ty #[v, .slice bo m cb]).run Tryd.prog w = .ok v' w' ∧ Out B w' v' (n + m) (cat d n e) ∧ w.grownBy w' v.ownBlock ∧ (v'.ownBlock = v.ownBlock ∨ v'.ownBlock = some w.heap.size) := by
  obtain ⟨i0, hi, hz0, hz1, hz2⟩ := info_parts info_int
  cases bo with
  | none =>
    have hc := hR.nl rfl
    have hl := hR.le
    subst hc
    obtain rfl : m = 0 := by omega
    have hr := run_append_owned_none (P := Tryd.prog) w B 22 ty 3 i0 1 Tryd.underlying22 hi v n (vals d n) hO
    exact ⟨v, w, hr, hO.congr fun i hi => by simp [cat]; omega, ⟨rfl, rfl, rfl, Nat.le_refl _, fun _ _ _ => rfl⟩, .inl rfl⟩
  | some ad =>
    obtain ⟨v', w', hr, h2, h3, _, h5⟩ := run_append_own_at (P := Tryd.prog) w B 22 ty 3 i0 (.int .i64 0) 1 8 Tryd.underlying22 hi hz0 hz1 hz2 rfl (by decide) v n (vals d n) hO ad m cb (vals e m) (by rw [vals_length]; omega)
      (fun j u hu => by
        have hj : j < m := by have := (List.getElem?_eq_some_iff.1 hu).1; rwa [vals_length] at this
        obtain ⟨b, off, hb, _, hc⟩ := hR.spot (by omega)
        obtain rfl := Option.some.inj hb
        rw [vals_get e hj] at hu
        rw [add_none, hc j hj]; exact hu) (vals_one e m) (by unfold maxLen; omega) (by omega) hB
    rw [vals_cat] at h2
    exact ⟨v', w', hr, h2, h3, h5⟩
theorem wp_app {w : World} {o : Oper} {a : Act} {K : Act → World → Prop} {Q : Exit → Act → World → Prop} (s x : Operand) (ho : o.op = .call { callee := .builtin .append, args := #[s, x], argTypes := #[22, 22] })
    (B : Nat) (v : Value) (n : Nat) (d : Nat → Int) (hs : a.eval s = v) (hO : Out B w v n d) (bo : Option Addr) (m cb : Nat) (e : Nat → Int) (hx : a.eval x = .slice bo m cb) (hR : Row w bo m cb e) (hlen : n + m ≤ 1000000) (hB : B ≤ w.heap.size)
    (h : ∀ v' w', Out B w' v' (n + m) (cat d n e) → w.grownBy w' v.ownBlock → (v'.ownBlock = v.ownBlock ∨ v'.ownBlock = some w.heap.size) → K (a.put o.dst v') w') : o.wp Tryd.prog a w K Q := by
  obtain ⟨v', w', hr, h2, h3, h4⟩ := run_app o.type B v n d hO bo m cb e hR hlen hB
  unfold Oper.wp execOp
  simp only [ho, resolve, invoke, builtin, Sem.run_bind, Sem.run_pure, Result.andThen_ok, List.map_toArray, List.map_cons, List.map_nil, hs, hx, hr]
  exact h v' w' h2 h3 h4
theorem step_app {w : World} {ops : Array Oper} {o : Oper} {a : Act} {K : Act → World → Prop} {Q : Exit → Act → World → Prop} {E : Prop} (hgd : o.guard = none) (s x : Operand) (ho : o.op = .call { callee := .builtin .append, args := #[s, x], argTypes := #[22, 22] })
    (B : Nat) (v : Value) (n : Nat) (d : Nat → Int) (hs : a.eval s = v) (hO : Out B w v n d) (bo : Option Addr) (m cb : Nat) (e : Nat → Int) (hx : a.eval x = .slice bo m cb) (hR : Row w bo m cb e) (hlen : n + m ≤ 1000000) (hB : B ≤ w.heap.size)
    (h : ∀ v' w', Out B w' v' (n + m) (cat d n e) → w.grownBy w' v.ownBlock → (v'.ownBlock = v.ownBlock ∨ v'.ownBlock = some w.heap.size) → K (a.put o.dst v') w') : if Region.wanted o (yielded ops a.tmps) = true then Oper.wp Tryd.prog o a w K Q else E := by
  rw [if_pos (show Region.wanted o (yielded ops a.tmps) = true by simp [Region.wanted, hgd])]
  exact wp_app s x ho B v n d hs hO bo m cb e hx hR hlen hB h
theorem step_appV {w : World} {ops : Array Oper} {o : Oper} {a : Act} {K : Act → World → Prop} {Q : Exit → Act → World → Prop} {E : Prop} (hgd : o.guard = none) (s x : Operand)
    (ho : o.op = .call { callee := .builtin .append, args := #[s, x], argTypes := #[24, 24] }) (B : Nat) (v : Value) (m : Nat) (f : Nat → Value) (hs : a.eval s = v) (hO : OutV B w v m f)
    (g : Nat) (y : Value) (hx : a.eval x = .slice (some ⟨g, 0, none⟩) 1 1) (hy : w.cell? ⟨g, 0, none⟩ = some y) (h1 : y.oneCell' = true) (hlen : m ≤ 1000) (hB : B ≤ w.heap.size)
    (h : ∀ v' w', OutV B w' v' (m + 1) (updV f m y) → w.grownBy w' v.ownBlock → (v'.ownBlock = v.ownBlock ∨ v'.ownBlock = some w.heap.size) → K (a.put o.dst v') w') : if Region.wanted o (yielded ops a.tmps) = true then Oper.wp Tryd.prog o a w K Q else E := by
  rw [if_pos (show Region.wanted o (yielded ops a.tmps) = true by simp [Region.wanted, hgd])]
  obtain ⟨i0, hi, hz0, hz1, hz2⟩ := info_parts info_slice
  obtain ⟨v', w', hr, h2, h3, _, h5⟩ := run_append_own_at (P := Tryd.prog) w B 24 o.type 22 i0 (.slice none 0 0) 1 24 Tryd.underlying24 hi hz0 hz1 hz2 rfl (by decide) v m (valsV f m) hO ⟨g, 0, none⟩ 1 1 [y] rfl
    (fun j u hu => by
      have hj : j = 0 := by have := (List.getElem?_eq_some_iff.1 hu).1; simp at this; exact this
      subst hj
      simp at hu
      subst hu
      rw [add_none]; exact hy) (by simpa using h1) (by unfold maxLen; omega) (by omega) hB
  rw [valsV_snoc] at h2
  unfold Oper.wp execOp
  simp only [ho, resolve, invoke, builtin, Sem.run_bind, Sem.run_pure, Result.andThen_ok, List.map_toArray, List.map_cons, List.map_nil, hs, hx, hr]
  exact h v' w' h2 h3 h5

theorem Kp.more {B : Nat} {w w7 : World} {k m ln : Nat} {v u : Nat → Value} {n : Nat → Nat} {d : Nat → Nat → Int} {x y l c : Value} {ld : Nat → Int} (h : Kp B w k m v u n d) (hi : Ik B w w7)
    (hk : KX B w7 k x y (m + 1) (updV v m l) (m + 1) (updV u m c)) (hl : Out B w l ln ld) (hc : Out B w7 c ln ld) (hn : ln ≤ 100000) (hap : ∀ i, i < m → ∀ g, (v i).ownBlock = some g → l.ownBlock ≠ some g) :
    Kp B w7 k (m + 1) (updV v m l) (updV u m c) (updV n m ln) (updV d m ld) := by
  refine ⟨⟨x, y, hk.blk, hk.ox, hk.oy, hk.ne⟩, hk.ge, fun i hi' => ?_, fun i hi' => ?_, fun i hi' => ?_, fun i j hi' hj hij g => ?_⟩
  · by_cases e : i = m
    · subst e; simp only [updV_same]; exact hl.ik hi
    · rw [updV_other _ _ e, updV_other _ _ e, updV_other _ _ e]; exact (h.ans i (by omega)).ik hi
  · by_cases e : i = m
    · subst e; simp only [updV_same]; exact hc
    · rw [updV_other _ _ e, updV_other _ _ e, updV_other _ _ e]; exact (h.was i (by omega)).ik hi
  · by_cases e : i = m
    · subst e; simp only [updV_same]; exact hn
    · rw [updV_other _ _ e]; exact h.len i (by omega)
  · by_cases e : i = m
    · subst e
      rw [updV_same, updV_other _ _ (fun q => hij q.symm)]
      exact fun hg hg' => hap j (by omega) g hg' hg
    · rw [updV_other _ _ e]
      by_cases e' : j = m
      · subst e'; rw [updV_same]; exact hap i (by omega) g
      · rw [updV_other _ _ e']; exact h.apart i j (by omega) (by omega) hij g

set_option maxHeartbeats 4000000 in
set_option maxRecDepth 100000 in
theorem keepAdd_any (B k m : Nat) (v u : Nat → Value) (n : Nat → Nat) (d : Nat → Nat → Int) (w : World) (h : Kp B w k m v u n d)
    (lo : Option Addr) (ln lc : Nat) (ld : Nat → Int) (hl : Out B w (.slice lo ln lc) ln ld) (wo : Option Addr) (wc : Nat) (hw : Out B w (.slice wo ln wc) ln ld) (hn : ln ≤ 100000) (hB : B ≤ w.heap.size)
    (hap : ∀ i, i < m → ∀ g, (v i).ownBlock = some g → (Value.slice lo ln lc).ownBlock ≠ some g) :
    Calls Tryd.prog 26 #[.pointer (some ⟨k, 0, none⟩), .slice lo ln lc, .slice wo ln wc] w fun e w' => e = .returned (.bool true) ∧ Ik B w w' ∧
      ((m < 400 ∧ ∃ c, (∀ g, c.ownBlock = some g → w.heap.size ≤ g) ∧ Kp B w' k (m + 1) (updV v m (.slice lo ln lc)) (updV u m c) (updV n m ln) (updV d m ld)) ∨ Kp B w' k m v u n d) := by
  have HK : Hid (Kp B w k m v u n d) := h
  have HA : Hid (∀ i, i < m → ∀ g, (v i).ownBlock = some g → (Value.slice lo ln lc).ownBlock ≠ some g) := hap
  clear hap
  obtain ⟨x, y, hk, hx, hy, hxy⟩ := h.blk
  have HX : Hid (KX B w k x y m v m u) := ⟨hk, hx, hy, hxy, h.ge⟩
  obtain ⟨xo, xc, rfl, hxl, hxm, hxs⟩ := hx.shape
  obtain ⟨yo, yc, rfl, hyl, hym, hys⟩ := hy.shape
  obtain ⟨ck0, ck1, fk0, fk1⟩ := keep_at hk
  have HL : Hid (Out B w (.slice lo ln lc) ln ld) := hl
  have HW : Hid (Out B w (.slice wo ln wc) ln ld) := hw
  clear hk hxs hys hx hy hl hw h hxy
  by_cases h4 : m < 400
  · go_enter Tryd.func26, Tryd.ntmps26
    go_wp2_with (first
      | (at_builtin
         refine wpList_appV rfl _ _ rfl B _ m v rfl (HX.out.ox.alloc _) _ _ rfl (cell_one _ _ _ rfl) rfl (by omega) (by simp; omega) ?_
         intro x' w2 hX2 hg2 hat2
         obtain ⟨xo2, xc2, rfl, _, _, _⟩ := hX2.shape
         obtain ⟨hk2, HS2, hik2⟩ := (HX.out.keeps (bel_alloc _ _)).stepX (by simp; omega) hg2 hX2 hat2
         obtain ⟨ck20, ck21, fk20, fk21⟩ := keep_at hk2))
    replace hik2 := ((Ik.refl B w).alloc hB _).trans hik2
    clear ck0 ck1 fk0 fk1 hk2 hX2 hg2 hat2 fk20 fk21 ck20 ck21
    generalize w2.setCell ⟨k, 0, none⟩ (.slice xo2 (m + 1) xc2) = w3 at HS2 hik2 ⊢
    obtain ⟨ck0, ck1, fk0, fk1⟩ := keep_at HS2.blk
    have HS3 : Hid (KX B w3 k (.slice xo2 (m + 1) xc2) (.slice yo m yc) (m + 1) (updV v m (.slice lo ln lc)) m u) := HS2
    have HI3 : Hid (Ik B w w3) := hik2
    clear HS2 hik2
    obtain ⟨_, _, e1, r1⟩ := (HL.out.ik HI3.out).row
    obtain ⟨_, _, e2, r2⟩ := (HW.out.ik HI3.out).row
    simp only [Value.slice.injEq] at e1 e2
    obtain ⟨rfl, _, rfl⟩ := e1
    obtain ⟨rfl, _, rfl⟩ := e2
    have hB3 : B ≤ w3.heap.size := Nat.le_trans hB HI3.out.below.size
    go_region_law (first
        | ((have _t := ck4; refine step_appV (by rfl) _ _ (by rfl) B _ m u (by rfl) ((HX4.out.keeps (bel_alloc _ _)).oy) w4.heap.size (.slice co ln cc) (by rfl) (cell_one _ _ _ rfl) rfl (by omega) (by simp; omega) ?_; intro y' w6 hY6 hg6 hat6; obtain ⟨yo6, yc6, rfl, _, _, _⟩ := hY6.shape; obtain ⟨hk6, hx6, hik6⟩ := (HX4.out.keeps (bel_alloc _ _)).stepY (by simp; omega) hg6 hY6 hat6; obtain ⟨ck60, ck61, fk60, fk61⟩ := keep_at hk6))
        | ((refine step_app (by rfl) _ _ (by rfl) w3.heap.size _ 0 (fun _ => 0) (by rfl) (Out.nil _ _ _) wo ln wc ld (by rfl) (r2.keeps (bel_refl _).drew) (by omega) (Nat.le_refl _) ?_; intro c w4 hO4' hg4 _; have hO4 := hO4'.lower hB3; have hb4 := bel_trans (bel_refl w3).drew (grown_below hg4); have HX4 : Hid (KX B w4 k (.slice xo2 (m + 1) xc2) (.slice yo m yc) (m + 1) (updV v m (.slice lo ln lc)) m u) := HS3.out.keeps hb4; have ck4 := (keep_at HX4.out.blk).2.1; rw [Nat.zero_add] at hO4; have hB4 := Nat.le_trans hB3 hb4.size; obtain ⟨co, cc, rfl, rc⟩ := hO4.row; have HN4 : Hid (∀ g, (Value.slice co ln cc).ownBlock = some g → w3.heap.size ≤ g) := own_ge hO4'; have HB4 : Hid (Below w3.heap.size w3 w4) := hb4; have HO4 : Hid (Out B w4 (.slice co ln cc) ln (cat (fun _ => 0) 0 ld)) := hO4; have ck4a := (keep_at (HX4.out.keeps (bel_alloc _ (.cells #[.slice co ln cc] 22))).blk).2.1; clear hb4 hO4 hg4 hO4')))
    all_goals
      have hi7 := ((Ik.of HB4.out hB3).alloc hB4 _).trans hik6
      have hiw := HI3.out.trans hi7
      have kp := Kp.more HK.out hiw hx6 HL.out (((HO4.out.ik ((Ik.refl B w4).alloc hB4 _)).ik hik6).congr fun i hi => by simp [cat]) hn HA.out
      have HKP : Hid (Kp B (w6.setCell ⟨k, 1, none⟩ (.slice yo6 (m + 1) yc6)) k (m + 1) (updV v m (.slice lo ln lc)) (updV u m (.slice co ln cc)) (updV n m ln) (updV d m ld)) := kp
      have HIW : Hid (Ik B w (w6.setCell ⟨k, 1, none⟩ (.slice yo6 (m + 1) yc6))) := hiw
      obtain ⟨_, _, e1, s1⟩ := (HL.out.ik hiw).row
      obtain ⟨_, _, e2, s2⟩ := (HW.out.ik hiw).row
      simp only [Value.slice.injEq] at e1 e2
      obtain ⟨rfl, _, rfl⟩ := e1
      obtain ⟨rfl, _, rfl⟩ := e2
      clear kp hiw hi7 hx6 hik6 hk6 ck60 ck61 fk60 fk61 hY6 hg6 hat6 ck4 ck4a ck0 ck1 fk0 fk1
      generalize w6.setCell ⟨k, 1, none⟩ (.slice yo6 (m + 1) yc6) = w7 at HKP HIW s1 s2 ⊢
      go_wp2_with fail
      refine (same_any lo wo ln ln lc wc ld ld _ s1 s2).mono ?_
      rintro e w8 ⟨rfl, hb8⟩
      go_wp2
      go_ret
      exact ⟨ret_bool (decide_eq_true ⟨rfl, fun _ _ => rfl⟩), HIW.out.trans (Ik.of hb8 (Nat.le_trans hB HIW.out.below.size)), .inl ⟨h4, _, fun g hg => Nat.le_trans HI3.out.below.size (HN4.out g hg), HKP.out.keeps hb8⟩⟩
  · go_enter Tryd.func26, Tryd.ntmps26
    go_wp2_with fail
    obtain ⟨_, _, e1, r1⟩ := HL.out.row
    obtain ⟨_, _, e2, r2⟩ := HW.out.row
    simp only [Value.slice.injEq] at e1 e2
    obtain ⟨rfl, _, rfl⟩ := e1
    obtain ⟨rfl, _, rfl⟩ := e2
    refine (same_any lo wo ln ln lc wc ld ld w r1 r2).mono ?_
    rintro e w' ⟨rfl, hb⟩
    go_wp2
    go_ret
    exact ⟨ret_bool (decide_eq_true ⟨rfl, fun _ _ => rfl⟩), Ik.of hb hB, .inr (HK.out.keeps hb)⟩
end Go.Proofs.YtlmoeclfjogoaaaDoor
