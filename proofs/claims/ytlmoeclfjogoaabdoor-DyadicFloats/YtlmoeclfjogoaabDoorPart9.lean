/-
  Parts of the proof, one behind another.
-/
import Derived.Test.YtlmoeclfjogoaabDoorPart8
import Derived.Test.YtlmoeclfjogoaabDoorPart3
import Derived.Test.YtlmoeclfjogoaabDoorPart4
import Derived.Deep.AppendLies
import Derived.Deep.RegionHeld3
import Derived.Deep.RegionLaw
import Derived.Deep.LoopGhost
import Derived.Test.YtlmoeclfjogoaabDoorPart5
import Derived.Test.YtlmoeclfjogoaabDoorPart6
/-
  Package plumblaw3: alive.
-/
namespace Go.Proofs.YtlmoeclfjogoaabDoor
open Go Go.RowKit Go.Proofs.YtlmoeclfjogoaabDoor.M
set_option linter.unusedSimpArgs false
set_option linter.unusedVariables false

/-- A small number's form. -/
theorem dy_lit (ng : Bool) {m e : Int} (h0 : 0 < m) (h1 : m % 2 = 1) (he : -4194304 ≤ e) : Dy (sg ng m * pw e) ng m e := ⟨rfl, he, .inr ⟨h0, h1⟩⟩
theorem dok_lit {ng : Bool} {m e : Int} (h0 : 0 < m) (h1 : m % 2 = 1) (h2 : m < 1073741824) (he : -1048576 ≤ e) (he1 : e ≤ 1048576) : Dok (sg ng m * pw e) :=
  (dy_lit ng h0 h1 (by omega)).ok.2 ⟨by have := P2000_big2; omega, he, he1⟩
theorem dnum_lit {w : World} {g : Nat} (ng : Bool) {m e : Int} (h0 : 0 < m) (h1 : m % 2 = 1) (h2 : m < 1073741824) (he : -4194304 ≤ e) (hg : w.heap[g]? = some (.cells #[.int .i64 m] 3 (0, 0))) :
    DNum w (.agg #[.bool ng, .slice (some ⟨g, 0, none⟩) 1 1, .int .i64 e]) (sg ng m * pw e) := by
  refine ⟨ng, _, m, e, rfl, dy_lit ng h0 h1 he, _, 1, 1, fun _ => m, rfl, ?_, ⟨fun i _ => by show 0 ≤ m ∧ m < 1073741824; omega, .inr (by show m ≠ 0; omega)⟩, by show 0 + m * 1 = m; omega⟩
  exact ⟨Nat.le_refl _, by omega, fun h => by simp at h, fun _ => ⟨g, 0, rfl, (Array.getElem?_eq_some_iff.1 hg).1, fun i hi => by
    obtain rfl : i = 0 := by omega
    exact blkC hg 0 rfl⟩⟩
theorem pw_step {e k : Int} {l : Nat} (h : -4194304 ≤ e) (hk : k = e + l) : pw k = pw e * 2 ^ l := by rw [hk, pw_add h]
theorem pw_0 : pw 0 = pw (-1) * 2 := (pw_step (e := -1) (l := 1) (by omega) (by omega)).trans (by rw [Int.pow_succ, Int.pow_zero, Int.one_mul])
theorem live_x : mkV true 6 (-1) = sg true 3 * pw 0 := by
  unfold mkV
  rw [if_neg (by decide), if_neg (by decide), pw_0]
  generalize pw (-1) = p
  show -6 * p = -3 * (p * 2)
  omega
theorem live_y : pok 4609434218613702656 = true ∧ sg (pneg 4609434218613702656) (pmag 4609434218613702656) * pw (pexp 4609434218613702656) = sg false 3 * pw (-1) := by
  refine ⟨by decide, ?_⟩
  rw [show pneg 4609434218613702656 = false by decide, show pmag 4609434218613702656 = 6755399441055744 by decide, show pexp 4609434218613702656 = -52 by decide, pw_step (e := -52) (k := -1) (l := 51) (by omega) (by omega)]
  generalize pw (-52) = p
  show 6755399441055744 * p = 3 * (p * 2 ^ 51)
  rw [show (2 : Int) ^ 51 = 2251799813685248 by decide]
  omega
theorem live_s : sg true 3 * pw 0 + sg false 3 * pw (-1) = sg true 3 * pw (-1) := by
  rw [pw_0]
  generalize pw (-1) = p
  show -3 * (p * 2) + 3 * p = -3 * p
  omega
theorem sameD_yes {w : World} {x y : Value} {A : Int} (hx : DNum w x A) (hy : DNum w y A) :
    Calls Tryd.prog 15 #[x, y] w fun r w' => r = .returned (.bool true) ∧ Below w.heap.size w w' := by
  have := same_D hx hy
  rwa [decide_eq_true (rfl : A = A)] at this
set_option maxRecDepth 100000 in
set_option maxHeartbeats 2000000 in
theorem dalive_any (w : World) (L : Lay64 w) (hT : Tab w) : Calls Tryd.prog 14 #[] w fun r w' => r = .returned (.bool true) ∧ Below w.heap.size w w' := by
  have lx : ∀ {w : World} {g : Nat}, w.heap[g]? = some (.cells #[.int .i64 3] 3 (0, 0)) → DNum w (.agg #[.bool true, .slice (some ⟨g, 0, none⟩) 1 1, .int .i64 0]) (sg true 3 * pw 0) := fun h => dnum_lit true (by decide) (by decide) (by decide) (by decide) h
  have ly : ∀ {w : World} {g : Nat}, w.heap[g]? = some (.cells #[.int .i64 3] 3 (0, 0)) → DNum w (.agg #[.bool false, .slice (some ⟨g, 0, none⟩) 1 1, .int .i64 (-1)]) (sg false 3 * pw (-1)) := fun h => dnum_lit false (by decide) (by decide) (by decide) (by decide) h
  have ls : ∀ {w : World} {g : Nat}, w.heap[g]? = some (.cells #[.int .i64 3] 3 (0, 0)) → DNum w (.agg #[.bool true, .slice (some ⟨g, 0, none⟩) 1 1, .int .i64 (-1)]) (sg true 3 * pw (-1)) := fun h => dnum_lit true (by decide) (by decide) (by decide) (by decide) h
  have vx := live_x
  have vy := live_y
  have vs := live_s
  have ox : Dok (sg true 3 * pw 0) := dok_lit (by decide) (by decide) (by decide) (by decide) (by decide)
  have oy : Dok (sg false 3 * pw (-1)) := dok_lit (by decide) (by decide) (by decide) (by decide) (by decide)
  have os : Dok (sg true 3 * pw (-1)) := dok_lit (by decide) (by decide) (by decide) (by decide) (by decide)
  generalize sg true 3 * pw 0 = A at *
  generalize sg false 3 * pw (-1) = B at *
  generalize sg true 3 * pw (-1) = C at *
  go_enter Tryd.func14, Tryd.ntmps14
  go_wp2_with fail
  refine (make_D true (-1) (num1 w 6 (by decide) (by decide) rfl) (by have := P2000_big2; omega) (hT.keeps (bel_alloc _ _))).mono ?_
  rw [vx]
  rintro r w1 ⟨v, er, rfl, hF⟩
  obtain ⟨rfl, hDx⟩ := hF.yes ox
  obtain ⟨ng, so, sn, sc, e, rfl⟩ := hF.shape
  have hb1 := bel_trans (bel_alloc w _) hDx.below
  have hX := hDx.num
  clear hF hDx
  go_wp2_with fail
  generalize hwx : w1.alloc (.cells #[.bool ng, .slice so sn sc, .int .i64 e] 24) = wx
  have g0 : wx.heap[w1.heap.size]? = some (.cells #[.bool ng, .slice so sn sc, .int .i64 e] 24 (0, 0)) := by rw [← hwx]; exact heap_a1 _ _
  have hbx : Below w.heap.size w wx := by rw [← hwx]; exact bel_trans hb1 (bel_alloc _ _)
  have hXx : DNum wx (.agg #[.bool ng, .slice so sn sc, .int .i64 e]) A := by rw [← hwx]; exact hX.keeps (bel_alloc _ _)
  clear hwx hX hb1
  refine (dof_any _ _ (L.keeps hbx) (hT.keeps hbx)).mono ?_
  rw [vy.1, vy.2]
  rintro r w2 ⟨v, er, rfl, hb2, (⟨_, rfl, hDy⟩ | ⟨h, _⟩)⟩
  · obtain ⟨ng2, s2, m2, e2, rfl, hy2, hA2⟩ := id hDy
    obtain ⟨so2, sn2, sc2, rfl⟩ := hA2.num.shape
    have hY := hDy.num
    have hX2 := hXx.keeps hb2
    have g0' := (hb2.block w1.heap.size (Array.getElem?_eq_some_iff.1 g0).1).trans g0
    have hb2' := bel_trans hbx hb2
    clear hDy hA2 hy2 hXx hbx hb2 g0
    have k0 := blkC (heap_past (.cells #[.bool ng2, .slice so2 sn2 sc2, .int .i64 e2] 24) g0') 0 rfl
    have k1 := blkC (heap_past (.cells #[.bool ng2, .slice so2 sn2 sc2, .int .i64 e2] 24) g0') 1 rfl
    have k2 := blkC (heap_past (.cells #[.bool ng2, .slice so2 sn2 sc2, .int .i64 e2] 24) g0') 2 rfl
    go_wp2_with fail
    have g1 := heap_a1 w2 (.cells #[.bool ng2, .slice so2 sn2 sc2, .int .i64 e2] 24)
    have g0 := heap_past (.cells #[.bool ng2, .slice so2 sn2 sc2, .int .i64 e2] 24) g0'
    have hb3 := bel_trans hb2' (bel_alloc w2 (.cells #[.bool ng2, .slice so2 sn2 sc2, .int .i64 e2] 24))
    have hX3 := hX2.keeps (bel_alloc w2 (.cells #[.bool ng2, .slice so2 sn2 sc2, .int .i64 e2] 24))
    have hY3 := hY.keeps (bel_alloc w2 (.cells #[.bool ng2, .slice so2 sn2 sc2, .int .i64 e2] 24))
    generalize w2.alloc (.cells #[.bool ng2, .slice so2 sn2 sc2, .int .i64 e2] 24) = w3 at g0 g1 hb3 hX3 hY3 ⊢
    clear k0 k1 k2 hX2 hY g0' hb2'
    refine (add_D hX3 hY3 ox oy (hT.keeps hb3)).mono ?_
    rw [vs]
    rintro r w4 ⟨v, er, rfl, hF⟩
    obtain ⟨rfl, hDs⟩ := hF.yes os
    obtain ⟨ng4, so4, sn4, sc4, e4, rfl⟩ := hF.shape
    have hS4 := hDs.num
    have hX4 := hX3.keeps hDs.below
    have hY4 := hY3.keeps hDs.below
    have p0 := (hDs.below.block _ (Array.getElem?_eq_some_iff.1 g0).1).trans g0
    have p1 := (hDs.below.block _ (Array.getElem?_eq_some_iff.1 g1).1).trans g1
    have hb4 := bel_trans hb3 hDs.below
    clear hF hDs hX3 hY3 g0 g1 hb3
    have hX5 := hX4.keeps (bel_alloc w4 (.cells #[.bool ng4, .slice so4 sn4 sc4, .int .i64 e4] 24))
    have hY5 := hY4.keeps (bel_alloc w4 (.cells #[.bool ng4, .slice so4 sn4 sc4, .int .i64 e4] 24))
    have hS5 := hS4.keeps (bel_alloc w4 (.cells #[.bool ng4, .slice so4 sn4 sc4, .int .i64 e4] 24))
    have hb5 := bel_trans hb4 (bel_alloc w4 (.cells #[.bool ng4, .slice so4 sn4 sc4, .int .i64 e4] 24))
    have a0 := heap_past (.cells #[.bool ng4, .slice so4 sn4 sc4, .int .i64 e4] 24) p0
    have a1 := heap_past (.cells #[.bool ng4, .slice so4 sn4 sc4, .int .i64 e4] 24) p1
    have a2 := heap_a1 w4 (.cells #[.bool ng4, .slice so4 sn4 sc4, .int .i64 e4] 24)
    have hs5 := size1 w4 (.cells #[.bool ng4, .slice so4 sn4 sc4, .int .i64 e4] 24)
    have x0 := blkC a0 0 rfl
    have x1 := blkC a0 1 rfl
    have x2 := blkC a0 2 rfl
    go_wp2_with fail
    generalize w4.alloc (.cells #[.bool ng4, .slice so4 sn4 sc4, .int .i64 e4] 24) = w5 at hX5 hY5 hS5 hb5 a0 a1 a2 hs5 x0 x1 x2 ⊢
    clear hX4 hY4 hS4 hb4 p0 p1 x0 x1 x2
    have l6 := lx (heap_new (w := w5) (k := w4.heap.size + 1) (.cells #[.int .i64 3] 3) hs5.symm)
    refine (sameD_yes (hX5.keeps (bel_alloc w5 (.cells #[.int .i64 3] 3))) l6).mono ?_
    rintro r w6 ⟨rfl, hc6⟩
    have hd6 := bel_trans (bel_alloc w5 (.cells #[.int .i64 3] 3)) hc6
    have hY6 := hY5.keeps hd6
    have hS6 := hS5.keeps hd6
    have hb6 := bel_trans hb5 hd6
    have b1 := (hd6.block _ (Array.getElem?_eq_some_iff.1 a1).1).trans a1
    have b2 := (hd6.block _ (Array.getElem?_eq_some_iff.1 a2).1).trans a2
    have y0 := blkC b1 0 rfl
    have y1 := blkC b1 1 rfl
    have y2 := blkC b1 2 rfl
    clear hX5 hY5 hS5 hb5 a0 a1 a2 l6 hc6
    go_wp2_with fail
    have l7 := ly (heap_a1 w6 (.cells #[.int .i64 3] 3))
    refine (sameD_yes (hY6.keeps (bel_alloc w6 (.cells #[.int .i64 3] 3))) l7).mono ?_
    rintro r w7 ⟨rfl, hc7⟩
    have hd7 := bel_trans (bel_alloc w6 (.cells #[.int .i64 3] 3)) hc7
    have hS7 := hS6.keeps hd7
    have hb7 := bel_trans hb6 hd7
    have c2 := (hd7.block _ (Array.getElem?_eq_some_iff.1 b2).1).trans b2
    have z0 := blkC c2 0 rfl
    have z1 := blkC c2 1 rfl
    have z2 := blkC c2 2 rfl
    clear hY6 hS6 hb6 b1 b2 l7 hc7 y0 y1 y2
    go_wp2_with fail
    have l8 := ls (heap_a1 w7 (.cells #[.int .i64 3] 3))
    refine (sameD_yes (hS7.keeps (bel_alloc w7 (.cells #[.int .i64 3] 3))) l8).mono ?_
    rintro r w8 ⟨rfl, hc8⟩
    have hd8 := bel_trans (bel_alloc w7 (.cells #[.int .i64 3] 3)) hc8
    have hS8 := hS7.keeps hd8
    have hb8 := bel_trans hb7 hd8
    have d2 := (hd8.block _ (Array.getElem?_eq_some_iff.1 c2).1).trans c2
    have u0 := blkC d2 0 rfl
    have u1 := blkC d2 1 rfl
    have u2 := blkC d2 2 rfl
    clear hS7 hb7 c2 l8 hc8 z0 z1 z2
    go_wp2_with fail
    refine (valid_D hS8 os).mono ?_
    rintro r w9 ⟨rfl, hb9⟩
    go_wp2
    go_ret
    exact ⟨rfl, bel_trans hb8 hb9⟩
  · cases h
end Go.Proofs.YtlmoeclfjogoaabDoor

/-
  The document's own answers (plumbref2): Shl, Shr, by contracts over the same values.
-/
namespace Go.Proofs.YtlmoeclfjogoaabDoor
open Go Go.RowKit Go.Proofs.YtlmoeclfjogoaabDoor.M
set_option linter.unusedSimpArgs false
set_option linter.unusedVariables false

set_option maxRecDepth 100000 in
set_option maxHeartbeats 1000000 in
theorem rshr_qp (ao : Option Addr) (n ca q p : Nat) (a : Nat → Int) (w : World) (ha : Row w ao n ca a) (da : Dig a n) (hn : n ≤ 100000) (hp : p < 30) (k : Int) (hk : k = 30 * q + p) (hkm : k ≤ 4000000) :
    Calls Tryd.prog 66 #[.slice ao n ca, .int .i64 k] w fun e w' => ∃ v, e = .returned v ∧ Ans w w' (val a n / P q / 2 ^ p) v := by
  have hla := ha.le
  have hma := ha.max
  have e1 : k / 30 = q := by omega
  have e2 : k % 30 = p := by omega
  have hk0 : 0 ≤ k := by omega
  have hq1 : q ≤ 200000 := by omega
  clear hk
  have hu := two_pos p
  have hu2 : (2 : Int) ^ p ≤ 2 ^ 29 := two_le (by omega)
  have huv : (2 : Int) ^ p * 2 ^ (30 - p) = 1073741824 := by rw [← Int.pow_add, show p + (30 - p) = 30 by omega]; rfl
  have HU : Hid ((2 : Int) ^ p * 2 ^ (30 - p) = 1073741824) := huv
  have hdv : (1073741824 : Int) / 2 ^ p = 2 ^ (30 - p) := by rw [← huv]; exact Int.mul_ediv_cancel_left _ (by omega)
  have hz : ((2 : Int) ^ p == 0) = false := by simp; omega
  clear huv
  by_cases hqn : n ≤ q
  · have H0 : Hid (val a n / P q / 2 ^ p = 0) := by
      show _ = _
      rw [Int.ediv_eq_zero_of_lt (val_nonneg da) (by have := val_lt da; have := P_le hqn; omega)]; exact Int.zero_ediv _
    go_enter Tryd.func66, Tryd.ntmps66
    go_wp2
    go_ret
    exact ⟨_, rfl, by rw [H0.out]; exact Ans.nil (bel_refl _)⟩
  · obtain ⟨ba, fa, rfl, hba, hca⟩ := ha.spot (by omega)
    obtain ⟨N, hN⟩ : ∃ N, n = q + N := ⟨n - q, by omega⟩
    have HN : Hid (n = q + N) := hN
    have hn1 : q + N ≤ n := by omega
    have hn2 : n ≤ q + N := by omega
    have hN0 : 0 < N := by omega
    clear hN
    go_enter Tryd.func66, Tryd.ntmps66
    go_wp2
    rw [e1, e2]
    go_loopw [5, 7] (fun l i wr => ∃ (k : Nat) (r : Nat → Int), k ≤ N ∧ i = .int .i64 ((q : Int) + k) ∧ Out w.heap.size wr l k r ∧ Hid (∀ i, i < k → r i = low (fun j => ext a n (q + j)) (2 ^ p) (2 ^ (30 - p)) i) ∧ Below w.heap.size w wr) (fun _ i _ => n - (intOf i).toNat)
    case atStart => exact ⟨0, fun _ => 0, Nat.zero_le _, by simp, Out.nil _ _ _, fun i hi => by omega, bel_refl _⟩
    case round =>
      obtain ⟨k, r, hk, rfl, hO, HV, hbw⟩ := hrel
      by_cases hlt : k < N
      · have c1 := (hbw.cell (p := ⟨ba, fa + (q + k), none⟩) hba).trans (hca (q + k) (by omega))
        have dx := da (q + k) (by omega)
        by_cases hl2 : q + k + 1 < n
        · have dy := da (q + k + 1) (by omega)
          obtain ⟨s0, s1, s2, s3, s4⟩ := shr_part dx dy hp
          have s5 : 0 ≤ a (q + k + 1) % 2 ^ p * 2 ^ (30 - p) := Int.mul_nonneg s3 (Int.le_of_lt (two_pos _))
          have s6 : (2 : Int) ^ (30 - p) ≤ 2 ^ 30 := two_le (by omega)
          have c2 := (hbw.cell (p := ⟨ba, fa + (q + k + 1), none⟩) hba).trans (hca (q + k + 1) (by omega))
          clear s2
          go_wp2
          go_quiet (fail)
          go_wp2_with (at_builtin; refine wpList_app rfl _ _ rfl w.heap.size _ k r rfl ((hO.stays (bDrewN (bel_refl _) _)).stays (bel_alloc _ _)) _ 1 1 (fun _ => (a (q + k) / 2 ^ p + a (q + k + 1) % 2 ^ p * 2 ^ (30 - p))) rfl (row1 _ _ rfl) (by omega) (by have := hbw.size; simp [World.drewN]; omega) ?_; intro v' w1 hO1 hg1)
          have hb1 : Below w.heap.size w w1 := ((bDrewN hbw _).alloc hbw.size _).grown hg1 (by have := hbw.size; simp [World.drewN]; omega) (own_ge hO)
          go_roundw
          case rel => exact ⟨k + 1, upd r k (a (q + k) / 2 ^ p + a (q + k + 1) % 2 ^ p * 2 ^ (30 - p)), by omega, by go_num, hO1.congr (cat_upd r k _), fun i hi => by
              by_cases e : i = k
              · rw [e, upd_same]
                show _ = ext a n (q + k) / 2 ^ p + ext a n (q + (k + 1)) % 2 ^ p * 2 ^ (30 - p)
                rw [ext_lt a (by omega), ext_lt a (by omega), Nat.add_assoc]
              · rw [upd_other _ _ e]; exact HV.out i (by omega), hb1⟩
          case measure => simp [intOf]; omega
        · obtain ⟨s0, s1, _, _, _⟩ := shr_part dx dx hp
          have s6 : (2 : Int) ^ (30 - p) ≤ 2 ^ 30 := two_le (by omega)
          go_wp2_with (at_builtin; refine wpList_app rfl _ _ rfl w.heap.size _ k r rfl (hO.stays (bel_alloc _ _)) _ 1 1 (fun _ => (a (q + k) / 2 ^ p)) rfl (row1 _ _ rfl) (by omega) (by have := hbw.size; simp; omega) ?_; intro v' w1 hO1 hg1)
          have hb1 : Below w.heap.size w w1 := (hbw.alloc hbw.size _).grown hg1 (by have := hbw.size; simp; omega) (own_ge hO)
          go_roundw
          case rel => exact ⟨k + 1, upd r k (a (q + k) / 2 ^ p), by omega, by go_num, hO1.congr (cat_upd r k _), fun i hi => by
              by_cases e : i = k
              · rw [e, upd_same, low_last (s := fun j => ext a n (q + j)) (ext_ge a (by omega)), ext_lt a (by omega)]
              · rw [upd_other r _ e]; exact HV.out i (by omega), hb1⟩
          case measure => simp [intOf]; omega
      · obtain rfl : k = N := by omega
        have DS : Dig (fun j => ext a n (q + j)) (k + 1) := fun i hi => ext_dig da (q + k + 1) (q + i) (by omega)
        have D2 : Dig r k := (low_dig hu HU.out DS).congr fun i hi => (HV.out i hi).symm
        have HD2 : Hid (Dig r k) := D2
        clear D2 DS
        go_wp2_with fail
        refine (rtrim_ans hO HD2.out hbw).mono ?_
        rintro e w3 ⟨v', rfl, hA, rfl⟩
        go_wp2
        go_ret
        refine ⟨_, rfl, ?_⟩
        rw [val_congr HV.out, low_eq (s := fun j => ext a n (q + j)) hu HU.out (ext_ge a (by omega))] at hA
        have e3 := val_drop a (show q ≤ n by omega) da
        rw [← e3, show n - q = k by omega]
        rw [show val (fun j => ext a n (q + j)) k = val (fun i => a (q + i)) k from val_congr fun i hi => ext_lt a (by omega)] at hA
        exact hA
theorem rshr_any (ao : Option Addr) (n ca k : Nat) (a : Nat → Int) (w : World) (ha : Row w ao n ca a) (da : Dig a n) (hn : n ≤ 100000) (hk : k ≤ 4000000) :
    Calls Tryd.prog 66 #[.slice ao n ca, .int .i64 k] w fun e w' => ∃ v, e = .returned v ∧ Ans w w' (val a n / 2 ^ k) v := by
  refine (rshr_qp ao n ca (k / 30) (k % 30) a w ha da hn (by omega) k (by omega) (by omega)).mono ?_
  rintro e w' ⟨v, he, h⟩
  refine ⟨v, he, ?_⟩
  rw [two_split k, ← Int.ediv_ediv_of_nonneg (Int.le_of_lt (P_pos _))]
  exact h
end Go.Proofs.YtlmoeclfjogoaabDoor

/-
  plumblaw2's Keep: lists of answers that are kept, in memory: what it is (Kp), Add, by its contract.
-/
namespace Go.Proofs.YtlmoeclfjogoaabDoor
open Go Go.RowKit Go.Proofs.YtlmoeclfjogoaabDoor.M
set_option linter.unusedSimpArgs false
set_option linter.unusedVariables false

/-- One put in another's place. -/
def updV {α : Type} (v : Nat → α) (i : Nat) (x : α) : Nat → α := fun j => if j = i then x else v j
theorem updV_same {α : Type} (v : Nat → α) (i : Nat) (x : α) : updV v i x i = x := by simp [updV]
theorem updV_other {α : Type} (v : Nat → α) {i j : Nat} (x : α) (h : j ≠ i) : updV v i x j = v j := by simp [updV, h]
/-- The first m of v. -/
def valsV (v : Nat → Value) (m : Nat) : List Value := (List.range m).map v
theorem valsV_length (v : Nat → Value) (m : Nat) : (valsV v m).length = m := by simp [valsV]
theorem valsV_get (v : Nat → Value) {m i : Nat} (h : i < m) : (valsV v m)[i]? = some (v i) := by simp [valsV, h]
theorem valsV_snoc (v : Nat → Value) (m : Nat) (x : Value) : valsV v m ++ [x] = valsV (updV v m x) (m + 1) := by
  apply List.ext_getElem?
  intro i
  by_cases h : i < m
  · rw [List.getElem?_append_left (by rw [valsV_length]; exact h), valsV_get v h, valsV_get _ (by omega), updV_other v x (by omega)]
  · by_cases e : i = m
    · subst e; rw [List.getElem?_append_right (by rw [valsV_length]; omega), valsV_length, valsV_get _ (by omega), updV_same]; simp
    · rw [List.getElem?_eq_none (by simp [valsV_length]; omega), List.getElem?_eq_none (by rw [valsV_length]; omega)]
/-- A list of slices that is the call's own. -/
def OutV (B : Nat) (w : World) (x : Value) (m : Nat) (v : Nat → Value) : Prop := w.ownsRow B 22 1 x m (valsV v m)
theorem OutV.shape {B : Nat} {w : World} {x : Value} {m : Nat} {v : Nat → Value} (h : OutV B w x m v) : ∃ xo xc, x = .slice xo m xc ∧ m ≤ xc ∧ xc ≤ 9223372036854775807 ∧ (0 < m → ∃ g, xo = some ⟨g, 0, none⟩) := by
  rcases h.2 with ⟨rfl, rfl⟩ | ⟨g, cap, cur, rfl, hb, hg, hn, hm, _⟩
  · exact ⟨none, 0, rfl, Nat.le_refl _, by decide, fun h => by omega⟩
  · exact ⟨_, cap, rfl, hn, by unfold maxLen at hm; exact hm, fun _ => ⟨g, rfl⟩⟩
theorem OutV.of_block {B : Nat} {w w' : World} {x : Value} {m : Nat} {v : Nat → Value} (h : OutV B w x m v) (hb : ∀ g, x.ownBlock = some g → w'.heap[g]? = w.heap[g]?) : OutV B w' x m v := by
  refine ⟨h.1, ?_⟩
  rcases h.2 with hn | ⟨g, cap, cur, rfl, hbb, hg, rest⟩
  · exact .inl hn
  · exact .inr ⟨g, cap, cur, rfl, hbb, (hb g rfl).trans hg, rest⟩
theorem Out.of_block {B : Nat} {w w' : World} {x : Value} {n : Nat} {d : Nat → Int} (h : Out B w x n d) (hb : ∀ g, x.ownBlock = some g → w'.heap[g]? = w.heap[g]?) : Out B w' x n d := by
  refine ⟨h.1, ?_⟩
  rcases h.2 with hn | ⟨g, cap, cur, rfl, hbb, hg, rest⟩
  · exact .inl hn
  · exact .inr ⟨g, cap, cur, rfl, hbb, (hb g rfl).trans hg, rest⟩
theorem Out.typed {B : Nat} {w : World} {x : Value} {n : Nat} {d : Nat → Int} (h : Out B w x n d) {g : Nat} (hg : x.ownBlock = some g) : ∃ cur z, w.heap[g]? = some (.cells cur 3 z) := by
  rcases h.2 with ⟨rfl, _⟩ | ⟨g', cap, cur, rfl, hbb, hg', rest⟩
  · simp [Value.ownBlock] at hg
  · simp only [Value.ownBlock, Option.some.injEq] at hg; subst hg; exact ⟨cur, _, hg'⟩
theorem OutV.typed {B : Nat} {w : World} {x : Value} {n : Nat} {v : Nat → Value} (h : OutV B w x n v) {g : Nat} (hg : x.ownBlock = some g) : ∃ cur z, w.heap[g]? = some (.cells cur 22 z) := by
  rcases h.2 with ⟨rfl, _⟩ | ⟨g', cap, cur, rfl, hbb, hg', rest⟩
  · simp [Value.ownBlock] at hg
  · simp only [Value.ownBlock, Option.some.injEq] at hg; subst hg; exact ⟨cur, _, hg'⟩
theorem OutV.ge {B : Nat} {w : World} {x : Value} {n : Nat} {v : Nat → Value} (h : OutV B w x n v) {g : Nat} (hg : x.ownBlock = some g) : B ≤ g ∧ g < w.heap.size := by
  rcases h.2 with ⟨rfl, _⟩ | ⟨g', cap, cur, rfl, hbb, hg', rest⟩
  · simp [Value.ownBlock] at hg
  · simp only [Value.ownBlock, Option.some.injEq] at hg; subst hg; exact ⟨hbb, (Array.getElem?_eq_some_iff.1 hg').1⟩
theorem Out.ge {B : Nat} {w : World} {x : Value} {n : Nat} {v : Nat → Int} (h : Out B w x n v) {g : Nat} (hg : x.ownBlock = some g) : B ≤ g ∧ g < w.heap.size := by
  rcases h.2 with ⟨rfl, _⟩ | ⟨g', cap, cur, rfl, hbb, hg', rest⟩
  · simp [Value.ownBlock] at hg
  · simp only [Value.ownBlock, Option.some.injEq] at hg; subst hg; exact ⟨hbb, (Array.getElem?_eq_some_iff.1 hg').1⟩
theorem info_slice : (Tryd.prog.info? 22).map (fun i => (i.zero, i.size, i.bytes)) = some (some (.slice none 0 0), 1, 24) := by kernel_rfl
theorem cell_one (w : World) (x : Value) (t : TypeId) {g : Nat} (hg : g = w.heap.size) : (w.alloc (.cells #[x] t)).cell? ⟨g, 0, none⟩ = some x := by
  subst hg
  rw [cell_of_row _ _ 0 _ _ _ (heap_alloc_new w _)]; rfl
theorem grown_out {B : Nat} {w w' : World} {row : Option Nat} {x : Value} {m : Nat} {v : Nat → Value} (h : OutV B w x m v) (hg : w.grownBy w' row) (hne : ∀ g, x.ownBlock = some g → row ≠ some g) : OutV B w' x m v :=
  h.of_block fun g hgx => hg.block g (h.ge hgx).2 fun e => hne g hgx e.symm
theorem OutV.alloc {B : Nat} {w : World} {x : Value} {m : Nat} {v : Nat → Value} (h : OutV B w x m v) (o : Obj) : OutV B (w.alloc o) x m v := h.of_block fun g hg => Below.heap_alloc _ _ _ (h.ge hg).2
/-- 'append' of ints, as it runs, and where the new slice lies. -/
theorem run_app {w : World} (ty : TypeId) (B : Nat) (v : Value) (n : Nat) (d : Nat → Int) (hO : Out B w v n d) (bo : Option Addr) (m cb : Nat) (e : Nat → Int) (hR : Row w bo m cb e) (hlen : n + m ≤ 1000000) (hB : B ≤ w.heap.size) :
    ∃ v' w', (Builtin.append_ #[22, 22] ty #[v, .slice bo m cb]).run Tryd.prog w = .ok v' w' ∧ Out B w' v' (n + m) (cat d n e) ∧ w.grownBy w' v.ownBlock ∧ (v'.ownBlock = v.ownBlock ∨ v'.ownBlock = some w.heap.size) := by
  obtain ⟨i0, hi, hz0, hz1, hz2⟩ := info_parts info_int
  cases bo with
  | none =>
    have hc := hR.nl rfl
    have hl := hR.le
    subst hc
    obtain rfl : m = 0 := by omega
    have hr := run_append_owned_none (P := Tryd.prog) w B 22 ty 3 i0 1 Tryd.underlying22 hi v n (vals d n) hO
    exact ⟨v, w, hr, hO.congr fun i hi => by simp [cat]; omega, ⟨rfl, rfl, rfl, Nat.le_refl _, fun _ _ _ => rfl⟩, .inl rfl⟩
  | some ad =>
    obtain ⟨v', w', hr, h2, h3, _, h5⟩ := run_append_own_at (P := Tryd.prog) w B 22 ty 3 i0 (.int .i64 0) 1 8 Tryd.underlying22 hi hz0 hz1 hz2 rfl (by decide) v n (vals d n) hO ad m cb (vals e m) (by rw [vals_length]; omega)
      (fun j u hu => by
        have hj : j < m := by have := (List.getElem?_eq_some_iff.1 hu).1; rwa [vals_length] at this
        obtain ⟨b, off, hb, _, hc⟩ := hR.spot (by omega)
        obtain rfl := Option.some.inj hb
        rw [vals_get e hj] at hu
        rw [add_none, hc j hj]; exact hu) (vals_one e m) (by unfold maxLen; omega) (by omega) hB
    rw [vals_cat] at h2
    exact ⟨v', w', hr, h2, h3, h5⟩
theorem wp_app {w : World} {o : Oper} {a : Act} {K : Act → World → Prop} {Q : Exit → Act → World → Prop} (s x : Operand) (ho : o.op = .call { callee := .builtin .append, args := #[s, x], argTypes := #[22, 22] })
    (B : Nat) (v : Value) (n : Nat) (d : Nat → Int) (hs : a.eval s = v) (hO : Out B w v n d) (bo : Option Addr) (m cb : Nat) (e : Nat → Int) (hx : a.eval x = .slice bo m cb) (hR : Row w bo m cb e) (hlen : n + m ≤ 1000000) (hB : B ≤ w.heap.size)
    (h : ∀ v' w', Out B w' v' (n + m) (cat d n e) → w.grownBy w' v.ownBlock → (v'.ownBlock = v.ownBlock ∨ v'.ownBlock = some w.heap.size) → K (a.put o.dst v') w') : o.wp Tryd.prog a w K Q := by
  obtain ⟨v', w', hr, h2, h3, h4⟩ := run_app o.type B v n d hO bo m cb e hR hlen hB
  unfold Oper.wp execOp
  simp only [ho, resolve, invoke, builtin, Sem.run_bind, Sem.run_pure, Result.andThen_ok, List.map_toArray, List.map_cons, List.map_nil, hs, hx, hr]
  exact h v' w' h2 h3 h4
theorem step_app {w : World} {ops : Array Oper} {o : Oper} {a : Act} {K : Act → World → Prop} {Q : Exit → Act → World → Prop} {E : Prop} (hgd : o.guard = none) (s x : Operand) (ho : o.op = .call { callee := .builtin .append, args := #[s, x], argTypes := #[22, 22] })
    (B : Nat) (v : Value) (n : Nat) (d : Nat → Int) (hs : a.eval s = v) (hO : Out B w v n d) (bo : Option Addr) (m cb : Nat) (e : Nat → Int) (hx : a.eval x = .slice bo m cb) (hR : Row w bo m cb e) (hlen : n + m ≤ 1000000) (hB : B ≤ w.heap.size)
    (h : ∀ v' w', Out B w' v' (n + m) (cat d n e) → w.grownBy w' v.ownBlock → (v'.ownBlock = v.ownBlock ∨ v'.ownBlock = some w.heap.size) → K (a.put o.dst v') w') : if Region.wanted o (yielded ops a.tmps) = true then Oper.wp Tryd.prog o a w K Q else E := by
  rw [if_pos (show Region.wanted o (yielded ops a.tmps) = true by simp [Region.wanted, hgd])]
  exact wp_app s x ho B v n d hs hO bo m cb e hx hR hlen hB h
end Go.Proofs.YtlmoeclfjogoaabDoor

/-
  What is kept, with the blocks it lies in (Kept); Keep.Add and answer of a number (An); Lent and Back.
-/
namespace Go.Proofs.YtlmoeclfjogoaabDoor
open Go Go.RowKit Go.Proofs.YtlmoeclfjogoaabDoor.M
set_option linter.unusedSimpArgs false
set_option linter.unusedVariables false

/-- A number's list, from B on. -/
def An (B : Nat) (w : World) (v : Value) (V : Int) : Prop := ∃ t d, Out B w v t d ∧ Nrm d t ∧ val d t = V
theorem An.keeps {B : Nat} {w w' : World} {v : Value} {V : Int} (h : An B w v V) (k : Below w.heap.size w w') : An B w' v V := by
  obtain ⟨t, d, h1, h2⟩ := h
  exact ⟨t, d, h1.stays k, h2⟩
theorem An.lower {B B' : Nat} {w : World} {v : Value} {V : Int} (h : An B w v V) (hB : B' ≤ B) : An B' w v V := by
  obtain ⟨t, d, h1, h2⟩ := h
  exact ⟨t, d, h1.lower hB, h2⟩
theorem An.nil (B : Nat) (w : World) : An B w (.slice none 0 0) 0 := ⟨0, fun _ => 0, Out.nil _ _ _, ⟨fun i hi => by omega, .inl rfl⟩, rfl⟩
theorem Ans.an {w w' : World} {V : Int} {v : Value} (h : Ans w w' V v) : An w.heap.size w' v V := by
  obtain ⟨t, d, h1, h2, h3, h4⟩ := h
  exact ⟨t, d, h1, h2, h3⟩
theorem An.shape {B : Nat} {w : World} {v : Value} {V : Int} (h : An B w v V) : ∃ ao n cap, v = .slice ao n cap := by
  obtain ⟨t, d, h1, h2⟩ := h
  obtain ⟨ao, cap, e, _⟩ := h1.row
  exact ⟨ao, t, cap, e⟩
theorem An.num {B : Nat} {w : World} {v : Value} {V : Int} (h : An B w v V) : Num w v V := by
  obtain ⟨t, d, h1, h2, h3⟩ := h
  obtain ⟨ao, cap, rfl, hR⟩ := h1.row
  exact ⟨ao, t, cap, d, rfl, hR, h2, h3⟩
theorem An.ge {B : Nat} {w : World} {v : Value} {V : Int} (h : An B w v V) {g : Nat} (hg : v.ownBlock = some g) : B ≤ g ∧ g < w.heap.size := by
  obtain ⟨t, d, h1, h2, h3⟩ := h
  exact h1.ge hg
/-- The blocks behind an Add. -/
def S2 (S : Nat → Prop) (l : Value) (s : Nat) : Nat → Prop := fun g => S g ∨ l.ownBlock = some g ∨ s ≤ g
/-- A list and an error, of a number that may be too long. -/
def FitA (B : Nat) (w : World) (V : Int) (v : Value) (er : Int) : Prop := (V < P 2000 ∧ er = 0 ∧ An B w v V) ∨ (P 2000 ≤ V ∧ er = 2 ∧ v = .slice none 0 0)
theorem Fit.fitA {w w' : World} {V er : Int} {v : Value} (h : Fit w w' V v er) : FitA w.heap.size w' V v er := by
  rcases h.2 with ⟨h1, h2, h3⟩ | h
  · exact .inl ⟨h1, h2, h3.an⟩
  · exact .inr h
theorem FitA.keeps {B : Nat} {w w' : World} {v : Value} {V er : Int} (h : FitA B w V v er) (k : Below w.heap.size w w') : FitA B w' V v er := by
  rcases h with ⟨h1, h2, h3⟩ | h
  · exact .inl ⟨h1, h2, h3.keeps k⟩
  · exact .inr h
theorem FitA.lower {B B' : Nat} {w : World} {v : Value} {V er : Int} (h : FitA B w V v er) (hB : B' ≤ B) : FitA B' w V v er := by
  rcases h with ⟨h1, h2, h3⟩ | h
  · exact .inl ⟨h1, h2, h3.lower hB⟩
  · exact .inr h
theorem FitA.ge {B : Nat} {w : World} {v : Value} {V er : Int} (h : FitA B w V v er) {g : Nat} (hg : v.ownBlock = some g) : B ≤ g ∧ g < w.heap.size := by
  rcases h with ⟨h1, h2, h3⟩ | ⟨_, _, rfl⟩
  · exact h3.ge hg
  · simp [Value.ownBlock] at hg
theorem FitA.shape {B : Nat} {w : World} {v : Value} {V er : Int} (h : FitA B w V v er) : ∃ ao n cap, v = .slice ao n cap := by
  rcases h with ⟨h1, h2, h3⟩ | ⟨_, _, rfl⟩
  · exact h3.shape
  · exact ⟨_, _, _, rfl⟩
/-- A lent list: three marks behind it. -/
def lentD (a : Nat → Int) (n : Nat) : Nat → Int := cat a n (fun i => -71 - (i : Int))
theorem row3 (w : World) (x y z : Int) (f : Nat → Int) (h0 : f 0 = x) (h1 : f 1 = y) (h2 : f 2 = z) {g : Nat} (hg : g = w.heap.size) : Row (w.alloc (.cells #[.int .i64 x, .int .i64 y, .int .i64 z] 3)) (some ⟨g, 0, none⟩) 3 3 f := by
  subst hg
  refine (Blk.new w #[.int .i64 x, .int .i64 y, .int .i64 z] f (fun i hi => ?_)).row0 (Nat.le_refl _) (show 3 ≤ 9223372036854775807 by decide)
  match i, hi with
  | 0, _ => rw [h0]; rfl
  | 1, _ => rw [h1]; rfl
  | 2, _ => rw [h2]; rfl
theorem lentD_lt (a : Nat → Int) {n i : Nat} (h : i < n) : lentD a n i = a i := by simp [lentD, cat, h]
theorem lentD_marks (a : Nat → Int) (n : Nat) : lentD a n n = -71 ∧ lentD a n (n + 1) = -72 ∧ lentD a n (n + 2) = -73 := by
  refine ⟨by simp [lentD, cat], by simp [lentD, cat]; omega, by simp [lentD, cat]; omega⟩
/-- What Lent answers: a block of its own. -/
def LentA (w w' : World) (v : Value) (n : Nat) (a : Nat → Int) : Prop := ∃ g cap, v = .slice (some ⟨g, 0, none⟩) (n + 3) cap ∧ Out w.heap.size w' v (n + 3) (lentD a n) ∧ Below w.heap.size w w'
end Go.Proofs.YtlmoeclfjogoaabDoor

/-
  Lent lists: what is read of them, and Back.
-/
namespace Go.Proofs.YtlmoeclfjogoaabDoor
open Go Go.RowKit Go.Proofs.YtlmoeclfjogoaabDoor.M
set_option linter.unusedSimpArgs false
set_option linter.unusedVariables false

theorem LentA.below {w w' : World} {v : Value} {n : Nat} {a : Nat → Int} (h : LentA w w' v n a) : Below w.heap.size w w' := by
  obtain ⟨g, cap, _, _, hb⟩ := h
  exact hb
theorem LentA.parts {w w' : World} {v : Value} {n : Nat} {a : Nat → Int} (h : LentA w w' v n a) : ∃ g cap, v = .slice (some ⟨g, 0, none⟩) (n + 3) cap ∧ Out w.heap.size w' (.slice (some ⟨g, 0, none⟩) (n + 3) cap) (n + 3) (lentD a n) := by
  obtain ⟨g, cap, rfl, h, _⟩ := h
  exact ⟨g, cap, rfl, h⟩
theorem lent_cap {B : Nat} {w : World} {g n cap : Nat} {d : Nat → Int} (h : Out B w (.slice (some ⟨g, 0, none⟩) (n + 3) cap) (n + 3) d) : n + 3 ≤ cap ∧ cap ≤ 9223372036854775807 := by
  obtain ⟨_, _, e, hR⟩ := h.row
  simp only [Value.slice.injEq] at e
  obtain ⟨rfl, _, rfl⟩ := e
  exact ⟨hR.le, hR.max⟩
theorem lent_row {B : Nat} {w : World} {g n cap : Nat} {a : Nat → Int} (h : Out B w (.slice (some ⟨g, 0, none⟩) (n + 3) cap) (n + 3) (lentD a n)) : Row w (some ⟨g, 0, none⟩) n cap a := by
  obtain ⟨_, _, e, hR⟩ := (h.cut (show n ≤ n + 3 by omega)).row
  simp only [Value.slice.injEq] at e
  obtain ⟨rfl, _, rfl⟩ := e
  exact hR.congr fun i hi => lentD_lt a hi
theorem lent_two {B B' : Nat} {w : World} {g n cap g' m cap' : Nat} {a b : Nat → Int} (h : Out B w (.slice (some ⟨g, 0, none⟩) (n + 3) cap) (n + 3) (lentD a n)) (h' : Out B' w (.slice (some ⟨g', 0, none⟩) (m + 3) cap') (m + 3) (lentD b m)) :
    Two w (some ⟨g, 0, none⟩) (some ⟨g', 0, none⟩) n m cap cap' a b := ⟨lent_row h, lent_row h'⟩
theorem lent_numA {B : Nat} {w : World} {g n cap : Nat} {a : Nat → Int} (h : Out B w (.slice (some ⟨g, 0, none⟩) (n + 3) cap) (n + 3) (lentD a n)) (hN : Nrm a n) : Num w (.slice (some ⟨g, 0, none⟩) n cap) (val a n) :=
  ⟨_, _, _, _, rfl, lent_row h, hN, rfl⟩
theorem Row.num0 {w : World} {ao : Option Addr} {n cap : Nat} {a : Nat → Int} (h : Row w ao n cap a) (hN : Nrm a n) : Num w (.slice ao n cap) (val a n) := ⟨_, _, _, _, rfl, h, hN, rfl⟩
theorem RowX.of0 {g : Nat} {w0 w : World} {ao : Option Addr} {n cap : Nat} {d : Nat → Int} (h : Row w0 ao n cap d) (hb : Below w0.heap.size w0 w) (hg : w0.heap.size ≤ g) : RowX g w ao n cap d :=
  ⟨h.le, h.max, fun hn => by
    obtain ⟨b, off, rfl, hlt, hc⟩ := h.spot hn
    exact ⟨b, off, rfl, Nat.lt_of_lt_of_le hlt hb.size, by omega, fun i hi => (hb.cell (p := ⟨b, off + i, none⟩) hlt).trans (hc i hi)⟩⟩
end Go.Proofs.YtlmoeclfjogoaabDoor

/-
  Package nat: root, Root, by contracts: for every number.
-/
namespace Go.Proofs.YtlmoeclfjogoaabDoor
open Go Go.RowKit Go.Proofs.YtlmoeclfjogoaabDoor.M
set_option linter.unusedSimpArgs false
set_option linter.unusedVariables false

/-- The square root, cut: the greatest s with s s <= A. -/
def IsRoot (A s : Int) : Prop := 0 ≤ s ∧ s * s ≤ A ∧ A < (s + 1) * (s + 1)
theorem root_above {A s : Int} (hA : 0 ≤ A) (hs : 0 < s) (h : A < s * s) : ∀ r, r * r ≤ A → r < s := fun r hr => by
  rcases Int.lt_or_le r s with q | q
  · exact q
  · have := Int.mul_le_mul q q (by omega) (by omega)
    omega
/-- s is not below the root. -/
def Abv (A s : Int) : Prop := ∀ r, 0 ≤ r → r * r ≤ A → r ≤ s
theorem abv_start {A : Int} (hA : 0 ≤ A) {k : Nat} (h : A < 2 ^ (2 * k)) : Abv A (2 ^ k) := fun r h0 hr => by
  rcases Int.lt_or_le (2 ^ k) r with q | q
  · have h1 := Int.mul_le_mul (Int.le_of_lt q) (Int.le_of_lt q) (Int.le_of_lt (two_pos k)) h0
    rw [← Int.pow_add, ← Nat.two_mul] at h1
    omega
  · exact q
theorem abv_next {A s : Int} (hs : 0 < s) (h : Abv A s) : Abv A ((s + A / s) / 2) := fun r h0 hr => newton_above hs hr
theorem abv_done {A s : Int} (hs : 0 < s) (h : Abv A s) (hst : s ≤ (s + A / s) / 2) : IsRoot A s := by
  refine ⟨by omega, newton_stop hs hst, ?_⟩
  rcases Int.lt_or_le A ((s + 1) * (s + 1)) with q | q
  · exact q
  · have := h (s + 1) (by omega) q
    omega
theorem Num.parts {w : World} {v : Value} {V : Int} (h : Num w v V) {k : Nat} (hV : V < P k) : ∃ ao n cap d, v = .slice ao n cap ∧ Row w ao n cap d ∧ Nrm d n ∧ val d n = V ∧ n ≤ k := by
  obtain ⟨ao, n, cap, rfl⟩ := h.shape
  have hl := h.len hV
  obtain ⟨ao', n', cap', d, e, hR, h2, h3⟩ := h
  simp only [Value.slice.injEq] at e
  obtain ⟨rfl, rfl, rfl⟩ := e
  exact ⟨ao, n, cap, d, rfl, hR, h2, h3, hl⟩
theorem lower_num {w : World} {x : Value} {A : Int} (hx : Num w x A) (hA : A < P 6000) (k : Nat) (hk : (k : Int) < 9223372036854775808) :
    Calls Tryd.prog 59 #[x, .int .i64 k] w fun e w' => ∃ v, e = .returned v ∧ Ans w w' (A / 2 ^ k) v := by
  obtain ⟨ao, n, ca, d, rfl, hR, h2, rfl, hl⟩ := hx.parts hA
  exact lower_any _ _ _ _ _ _ hR h2.1 (by omega) hk
theorem lower_half {w : World} {x : Value} {A : Int} (hx : Num w x A) (hA : A < P 6000) :
    Calls Tryd.prog 59 #[x, .int .i64 1] w fun e w' => ∃ v, e = .returned v ∧ Ans w w' (A / 2) v := lower_num hx hA 1 (by decide)
theorem compare_num {w : World} {x y : Value} {A B : Int} (hx : Num w x A) (hy : Num w y B) :
    Calls Tryd.prog 69 #[x, y] w fun e w' => e = .returned (.int .i64 (ord A B)) ∧ Below w.heap.size w w' := by
  obtain ⟨ao, n, ca, d, rfl, hR, h2, rfl⟩ := hx
  obtain ⟨bo, m, cb, e, rfl, kR, k2, rfl⟩ := hy
  exact compare_any _ _ _ _ _ _ _ _ _ hR kR h2 k2
theorem raise_num {w : World} {x : Value} {A : Int} (hx : Num w x A) (hA : A < P 5000) (k : Nat) (hk : k ≤ 1000000) :
    Calls Tryd.prog 70 #[x, .int .i64 k] w fun e w' => ∃ v, e = .returned v ∧ Ans w w' (A * 2 ^ k) v := by
  obtain ⟨ao, n, ca, d, rfl, hR, h2, rfl, hl⟩ := hx.parts hA
  exact raise_any _ _ _ _ _ _ hR h2.1 (by omega) hk
theorem bitLength_num {w : World} {x : Value} {A : Int} (hx : Num w x A) (hA : A < P 5000) :
    Calls Tryd.prog 58 #[x] w fun e w' => e = .returned (.int .i64 (blen A)) ∧ w' = w := by
  obtain ⟨ao, n, ca, d, rfl, hR, h2, rfl, hl⟩ := hx.parts hA
  exact bitLength_any _ _ _ _ _ hR h2 (by omega)

/-- A root that is answered. -/
def RootA (w w' : World) (A : Int) (v : Value) : Prop := ∃ s, Ans w w' s v ∧ IsRoot A s
theorem root_bnd {A s : Int} (hA : A < P 2000) (hA0 : 0 ≤ A) (hs : 0 < s) (h3 : s < P 3000) : A / s < P 5000 ∧ s < P 5000 ∧ s + A / s < P 6000 := by
  have h1 : A / s ≤ A := Int.ediv_le_self _ hA0
  have p1 := P_le (show 2000 ≤ 3000 by decide)
  have p2 := P_le (show 3000 ≤ 5000 by decide)
  have p3 : P 3000 + P 3000 ≤ P 6000 := by
    have h := P_le (show 3001 ≤ 6000 by decide)
    have e : P 3001 = P 3000 * 1073741824 := P_succ 3000
    have := P_pos 3000
    generalize P 3000 = X at *
    generalize P 6000 = Y at *
    generalize P 3001 = Z at *
    omega
  generalize P 3000 = X at *
  generalize P 6000 = Y at *
  generalize P 5000 = Z at *
  generalize P 2000 = T at *
  refine ⟨?_, ?_, ?_⟩ <;> omega
/-- Where a root's rounds stand: s is in new memory, and not below the root. -/
def RootR (w0 : World) (A : Int) (v : Value) (s : Int) (wr : World) : Prop := Ans w0 wr s v ∧ 0 < s ∧ Abv A s ∧ s < P 3000
end Go.Proofs.YtlmoeclfjogoaabDoor

/-
  The document's own Low, Pow, Root, by contracts over the same values.
-/
namespace Go.Proofs.YtlmoeclfjogoaabDoor
open Go Go.RowKit Go.Proofs.YtlmoeclfjogoaabDoor.M
set_option linter.unusedSimpArgs false
set_option linter.unusedVariables false

theorem lowA_unique {A l m : Int} (h : LowA A l) (k : LowA A m) : l = m := by
  have hz : ∀ i : Nat, ¬ IsLow 0 i := fun i ⟨q, e⟩ => by
    have h2 := two_pos i
    have h3 : (2 * q + 1) ≠ 0 := by omega
    rcases Int.mul_eq_zero.1 e.symm with h | h
    · exact h3 h
    · omega
  rcases h with ⟨h0, h1⟩ | ⟨i, h1, hi⟩ <;> rcases k with ⟨k0, k1⟩ | ⟨j, k1, hj⟩
  · omega
  · subst h0; exact absurd hj (hz j)
  · subst k0; exact absurd hi (hz i)
  · rw [h1, k1, low_unique hi hj]
set_option maxHeartbeats 400000 in
theorem rlow_any (ao : Option Addr) (n cap : Nat) (d : Nat → Int) (w : World) (h : Row w ao n cap d) (hd : Dig d n) (hn : n ≤ 100000) :
    Calls Tryd.prog 48 #[.slice ao n cap] w fun e w' => ∃ l, e = .returned (.int .i64 l) ∧ LowA (val d n) l ∧ w' = w := by
  have hl := h.le
  have hm := h.max
  go_enter Tryd.func48, Tryd.ntmps48
  go_wp2
  go_loop [3] (fun i => ∃ k : Nat, k ≤ n ∧ i = .int .i64 k ∧ Hid (∀ j, j < k → d j = 0)) (fun i => n - (intOf i).toNat)
  case atStart => exact ⟨0, Nat.zero_le _, rfl, fun j hj => by omega⟩
  case round =>
    obtain ⟨k, hk, rfl, HZ⟩ := hrel
    by_cases hlt : k < n
    · obtain ⟨b, off, rfl, hb, hc⟩ := h.spot (by omega)
      have c := hc k hlt
      have dk := hd k hlt
      by_cases h0 : d k = 0
      · have e0 : (d k != 0) = false := by simp [h0]
        go_wp2
        go_round
        case rel => exact ⟨k + 1, by omega, by go_num, fun j hj => by by_cases e : j = k; (· rw [e]; exact h0); (· exact HZ.out j (by omega))⟩
        case measure => simp [intOf]; omega
      · have e0 : (d k != 0) = true := by simp [h0]
        have hpos : 0 < d k := by omega
        go_wp2
        go_loop [4, 5] (fun s v => ∃ (x : Int) (t : Nat), s = .int .i64 ((30 * k + t : Nat) : Int) ∧ v = .int .i64 x ∧ 0 < x ∧ x < 1073741824 ∧ t ≤ 30 ∧ Hid (x * 2 ^ t = d k)) (fun _ v => (intOf v).toNat)
        case atStart => exact ⟨d k, 0, by go_num, rfl, hpos, dk.2, by omega, by show _ = _; simp⟩
        case round =>
          obtain ⟨x, t, rfl, rfl, hx0, hx1, ht, HT⟩ := hrel
          by_cases he : x % 2 = 0
          · have ee : (x % 2 == 0) = true := by simp [he]
            have HT2 : Hid (x / 2 * 2 ^ (t + 1) = d k) := by
              show _ = _
              rw [Int.pow_succ, Int.mul_comm (2 ^ t) 2, ← Int.mul_assoc, show x / 2 * 2 = x by omega]; exact HT.out
            have ht2 : t + 1 ≤ 30 := by
              have h1 : 1 * 2 ^ (t + 1) ≤ x / 2 * 2 ^ (t + 1) := Int.mul_le_mul_of_nonneg_right (by omega) (Int.le_of_lt (two_pos _))
              rw [HT2.out] at h1
              have h2 : (2 : Int) ^ (t + 1) < 2 ^ 30 := by have : (2 : Int) ^ 30 = 1073741824 := rfl; omega
              have := two_lt_iff h2
              omega
            go_wp2
            go_round
            case rel => exact ⟨x / 2, t + 1, by go_num, rfl, by omega, by omega, ht2, HT2.out⟩
            case measure => simp [intOf]; omega
          · have ee : (x % 2 == 0) = false := by simp [he]
            have HL : Hid (IsLow (d k) t) := ⟨x / 2, by rw [show 2 * (x / 2) + 1 = x by omega]; exact HT.out.symm⟩
            go_wp2
            go_ret
            exact ⟨_, rfl, .inr ⟨30 * k + t, rfl, isLow_val hlt HZ.out HL.out (low_lt hpos dk.2 HL.out)⟩, rfl⟩
    · obtain rfl : k = n := by omega
      go_wp2
      go_ret
      exact ⟨_, rfl, .inl ⟨by rw [val_zeros (Nat.zero_le _) (fun i _ hi => HZ.out i hi)]; rfl, rfl⟩, rfl⟩
/-- A list of one. -/
theorem an_one (w : World) (x : Int) (h0 : 0 < x) (h1 : x < 1073741824) {g B : Nat} (hg : g = w.heap.size) (hB : B ≤ w.heap.size) : An B (w.alloc (.cells #[.int .i64 x] 3)) (.slice (some ⟨g, 0, none⟩) 1 1) x := by
  subst hg
  exact ⟨1, fun _ => x, (Blk.new w #[.int .i64 x] (fun _ => x) (fun i hi => by simp at hi; subst hi; rfl)).out hB (Nat.le_refl _) (show 1 ≤ 9223372036854775807 by decide), ⟨fun i _ => ⟨by show 0 ≤ x; omega, h1⟩, .inr (by show x ≠ 0; omega)⟩, by show 0 + x * 1 = x; omega⟩
end Go.Proofs.YtlmoeclfjogoaabDoor

/-
  Package plumbref3: Norm, by its contract: the one form of a number, however long.
-/
namespace Go.Proofs.YtlmoeclfjogoaabDoor
open Go Go.RowKit Go.Proofs.YtlmoeclfjogoaabDoor.M
set_option linter.unusedSimpArgs false
set_option linter.unusedVariables false

set_option maxRecDepth 100000 in
set_option maxHeartbeats 1000000 in
theorem rnorm_any (ng : Bool) (ao : Option Addr) (n cap : Nat) (d : Nat → Int) (e : Int) (w : World) (h : Row w ao n cap d) (hd : Dig d n) (hn : n ≤ 40000) (he0 : -4194304 ≤ e) (he1 : e ≤ 4194304) :
    Calls Tryd.prog 49 #[.bool ng, .slice ao n cap, .int .i64 e] w fun r w' => ∃ v, r = .returned v ∧ DAns w w' (sg ng (val d n) * pw e) v := by
  by_cases h0 : val d n = 0
  · rw [h0, sg_zero, Int.zero_mul]
    go_enter Tryd.func49, Tryd.ntmps49
    go_wp2_with fail
    refine (rlow_any _ _ _ _ _ (h.keeps (bel_alloc _ _)) hd (by omega)).mono ?_
    rintro r w1 ⟨l, rfl, hl, rfl⟩
    have hl1 : l = -1 := by
      rcases hl with ⟨_, h1⟩ | ⟨k, _, m, hm⟩
      · exact h1
      · exfalso
        rw [h0] at hm
        rcases Int.mul_eq_zero.1 hm.symm with x | x
        · omega
        · have := two_pos k; omega
    subst hl1
    go_wp2
    refine bodyPost_ret (v := zeroV) (by simp [results, Tryd.results49, go_sem, zeroV]) rfl ⟨_, rfl, ?_⟩
    exact DAns.zero (bel_alloc _ _)
  · have hp : 0 < val d n := by have := val_nonneg hd; omega
    go_enter Tryd.func49, Tryd.ntmps49
    go_wp2_with fail
    refine (rlow_any _ _ _ _ _ (h.keeps (bel_alloc _ _)) hd (by omega)).mono ?_
    rintro r w1 ⟨l, rfl, hl, rfl⟩
    have hl2 : ∃ k : Nat, l = k ∧ IsLow (val d n) k := by
      rcases hl with ⟨h1, _⟩ | h1
      · omega
      · exact h1
    obtain ⟨k, rfl, hk⟩ := hl2
    have hkn : k < 30 * n := by
      have h1 := val_lt hd
      rw [P_two] at h1
      obtain ⟨a, b, c⟩ := isLow_odd hk hp
      have h2 : (1 : Int) * 2 ^ k ≤ val d n / 2 ^ k * 2 ^ k := Int.mul_le_mul_of_nonneg_right (by omega) (Int.le_of_lt (two_pos k))
      exact two_lt_iff (by omega)
    have hy := Dy.of ng hk hp he0
    have HY : Hid (Dy (sg ng (val d n) * pw e) ng (val d n / 2 ^ k) (e + k)) := hy
    clear hy hl hk
    go_wp2_with fail
    refine (rshr_any _ _ _ k d _ (h.keeps (bel_alloc _ _)) hd (by omega) (by omega)).mono ?_
    rintro r w2 ⟨v, rfl, hA⟩
    obtain ⟨so, sn, sc, rfl⟩ := hA.num.shape
    have q0 := (hA.below.block w.heap.size (by rw [size1]; omega)).trans (heap_a1 _ _)
    have x0 := blkC q0 0 rfl
    have x1 := blkC q0 1 rfl
    have x2 := blkC q0 2 rfl
    have z0 := blkF q0 0
    have z1 := blkF q0 1
    have z2 := blkF q0 2
    go_wp2
    refine bodyPost_ret (v := .agg #[.bool ng, .slice so sn sc, .int .i64 (e + k)]) (by simp [results, Tryd.results49, go_sem, x0, x1, x2]) rfl ⟨_, rfl, ?_⟩
    exact ⟨_, _, _, _, rfl, HY.out, ans_res (g := w.heap.size) hA (bel_alloc _ _) (Nat.le_refl _) (by rw [size1]; omega) _ _ _⟩
end Go.Proofs.YtlmoeclfjogoaabDoor

/-
  Package plumblaw3: Norm, num, by contracts: a valid number of any one, not too great.
-/
namespace Go.Proofs.YtlmoeclfjogoaabDoor
open Go Go.RowKit Go.Proofs.YtlmoeclfjogoaabDoor.M
set_option linter.unusedSimpArgs false
set_option linter.unusedVariables false

set_option maxRecDepth 100000 in
set_option maxHeartbeats 2000000 in
theorem lnorm_any (x : NumR) (w : World) (h : Row w x.ao x.n x.cap x.d) (he : rng x.e) :
    Calls Tryd.prog 24 #[x.v, .int .i64 30, .int .i64 3000] w fun r w' => ∃ v M e, r = .returned v ∧ DAns w w' (sg x.ng M * pw e) v ∧ 0 ≤ M ∧ M < P 30 ∧ -3000 < e ∧ e < 3000 := by
  obtain ⟨ng, ao, n, cap, d, ex⟩ := x
  unfold NumR.v
  simp only at *
  unfold rng at he
  have hl := h.le
  have hm := h.max
  go_enter Tryd.func24, Tryd.ntmps24
  go_wp2_with fail
  have hbx := bel_alloc2 w (.cells #[.bool ng, .slice ao n cap, .int .i64 ex] 24) (.cells #[.bool false, .slice none 0 0, .int .i64 0] 24)
  have g0 := heap_a2 w (.cells #[.bool ng, .slice ao n cap, .int .i64 ex] 24) (.cells #[.bool false, .slice none 0 0, .int .i64 0] 24)
  have g1 := heap_b2 w (.cells #[.bool ng, .slice ao n cap, .int .i64 ex] 24) (.cells #[.bool false, .slice none 0 0, .int .i64 0] 24)
  have hsz := size2 w (.cells #[.bool ng, .slice ao n cap, .int .i64 ex] 24) (.cells #[.bool false, .slice none 0 0, .int .i64 0] 24)
  generalize (w.alloc (.cells #[.bool ng, .slice ao n cap, .int .i64 ex] 24)).alloc (.cells #[.bool false, .slice none 0 0, .int .i64 0] 24) = wx at hbx g0 g1 hsz ⊢
  have hx := h.keeps hbx
  go_loopw [7, 8] (fun v i wr => ∃ k : Nat, k ≤ n ∧ k ≤ 30 ∧ i = .int .i64 k ∧ Out wx.heap.size wr v k (fun i => d i % 1073741824) ∧ Below wx.heap.size wx wr) (fun _ i _ => n - (intOf i).toNat)
  case atStart => exact ⟨0, Nat.zero_le _, Nat.zero_le _, rfl, Out.nil _ _ _, bel_refl _⟩
  case round =>
    obtain ⟨k, hk, hkN, rfl, hO, hbw⟩ := hrel
    have q0 := (hbw.block w.heap.size (by omega)).trans g0
    have y0 := blkC q0 0 rfl
    have y1 := blkC q0 1 rfl
    have y2 := blkC q0 2 rfl
    by_cases hlt : k < n ∧ k < 30
    · obtain ⟨hlt, hltN⟩ := hlt
      obtain ⟨b, off, rfl, hb, hc⟩ := hx.spot (by omega)
      have c := (hbw.cell (p := ⟨b, off + k, none⟩) hb).trans (hc k hlt)
      have h30 := and_30 (d k)
      go_wp2_with (at_builtin; refine wpList_app rfl _ _ rfl wx.heap.size _ k _ rfl (hO.stays (bel_alloc _ _)) _ 1 1 (fun _ => d k % 1073741824) rfl (row1 _ _ rfl) (by omega) (by have := hbw.size; simp; omega) ?_; intro v' w1 hO1 hg1)
      have hb1 : Below wx.heap.size wx w1 := (hbw.alloc hbw.size _).grown hg1 (by have := hbw.size; simp; omega) (own_ge hO)
      go_roundw
      case rel => exact ⟨k + 1, by omega, by omega, by go_num, hO1.congr (fun i hi => cat_last (fun i => d i % 1073741824) k i hi), hb1⟩
      case measure => simp [intOf]; omega
    · obtain ⟨vo, vc, rfl, hR⟩ := hO.row
      have hlr := hR.le
      have hmr := hR.max
      have hfin : ∀ t, t ≤ k → (∀ i, t ≤ i → i < k → d i % 1073741824 = 0) → Dig (fun i => d i % 1073741824) t ∧ val (fun i => d i % 1073741824) t < P 30 := fun t ht _ => by
        have D : Dig (fun i => d i % 1073741824) t := fun i hi => mod_dig _
        exact ⟨D, Int.lt_of_lt_of_le (val_lt D) (P_le (by omega))⟩
      have HFIN := hfin
      have HF : Hid (∀ t, t ≤ k → (∀ i, t ≤ i → i < k → d i % 1073741824 = 0) → Dig (fun i => d i % 1073741824) t ∧ val (fun i => d i % 1073741824) t < P 30) := HFIN
      clear hfin HFIN
      have hmod : -3000 < ex.tmod 3000 ∧ ex.tmod 3000 < 3000 := by
        have h1 := Int.tmod_lt_of_pos ex (show (0 : Int) < 3000 by decide)
        have h2 := Int.tmod_lt_of_pos (-ex) (show (0 : Int) < 3000 by decide)
        rw [Int.neg_tmod] at h2
        omega
      have HD : Hid (-3000 < ex.tmod 3000 ∧ ex.tmod 3000 < 3000) := hmod
      clear hmod
      by_cases hlt2 : k < n
      all_goals
        go_wp2
        go_loop [7] (fun v => ∃ t : Nat, t ≤ k ∧ v = .slice vo t vc ∧ Hid (∀ i, t ≤ i → i < k → d i % 1073741824 = 0)) (fun v => lenOf v)
        case atStart => exact ⟨k, Nat.le_refl _, rfl, fun i a b => by omega⟩
        case round =>
          obtain ⟨t, ht, rfl, HZ⟩ := hrel
          by_cases h0 : t = 0
          · subst h0
            have hR0 : Row wr vo 0 vc (fun _ => 0) := ⟨Nat.zero_le _, hmr, hR.nl, fun h => by omega⟩
            go_wp2_with fail
            refine (rlow_any _ _ _ _ _ hR0 (fun i hi => by omega) (by omega)).mono ?_
            rintro r w1 ⟨l, rfl, hl, rfl⟩
            have hl1 : l = -1 := by
              rcases hl with ⟨_, h1⟩ | ⟨k, _, m, hm⟩
              · exact h1
              · exfalso
                have hm' : (0 : Int) = (2 * m + 1) * 2 ^ k := hm
                rcases Int.mul_eq_zero.1 hm'.symm with x | x
                · omega
                · have := two_pos k; omega
            subst hl1
            have p1 := (hbw.block (w.heap.size + 1) (by omega)).trans g1
            have x0 := blkC p1 0 rfl
            have x1 := blkC p1 1 rfl
            have x2 := blkC p1 2 rfl
            have z0 := blkF p1 0
            have z1 := blkF p1 1
            have z2 := blkF p1 2
            go_wp2
            refine bodyPost_ret (v := zeroV) (by simp [results, Tryd.results24, go_sem, zeroV, x0, x1, x2]) rfl ⟨_, 0, 0, rfl, ?_, by omega, P_pos _, by omega, by omega⟩
            rw [sg_zero, Int.zero_mul]
            exact DAns.zero (bel_set3 (bel_trans hbx hbw) (by omega) _ _ _)
          · obtain ⟨b, off, rfl, hb, hc⟩ := hR.spot (by omega)
            have c := hc (t - 1) (by omega)
            by_cases h1 : d (t - 1) % 1073741824 = 0
            · go_wp2
              go_round
              case rel => exact ⟨t - 1, by omega, rfl, fun i a b => by by_cases e : i = t - 1; (· rw [e]; exact h1); (· exact HZ.out i (by omega) b)⟩
              case measure => simp [lenOf]; omega
            · obtain ⟨D, hlt30⟩ := HF.out t ht HZ.out
              have hRt : Row wr (some ⟨b, off, none⟩) t vc (fun i => d i % 1073741824) := ⟨by omega, hmr, fun h => by simp at h, fun _ => ⟨b, off, rfl, hb, fun i hi => hc i (by omega)⟩⟩
              have hpos : 0 < val (fun i => d i % 1073741824) t := val_pos ⟨D, .inr h1⟩ (by omega)
              have HP : Hid (0 < val (fun i => d i % 1073741824) t ∧ val (fun i => d i % 1073741824) t < P 30) := ⟨hpos, hlt30⟩
              clear hpos hlt30
              go_wp2_with fail
              refine (rlow_any _ _ _ _ _ hRt D (by omega)).mono ?_
              rintro r w1 ⟨l, rfl, hl, rfl⟩
              have hl2 : ∃ j : Nat, l = j := by
                rcases hl with ⟨h1, _⟩ | ⟨j, h1, _⟩
                · have := HP.out.1; omega
                · exact ⟨j, h1⟩
              obtain ⟨j, rfl⟩ := hl2
              clear hl
              go_wp2_with fail
              have hD2 := HD.out
              generalize ex.tmod 3000 = ee at hD2 ⊢
              refine (rnorm_any ng (some ⟨b, off, none⟩) t vc _ ee _ hRt D (by omega) (by omega) (by omega)).mono ?_
              rintro r w3 ⟨v, rfl, hDD⟩
              obtain ⟨ng', s', m', e', rfl, hyy, hA2⟩ := id hDD
              obtain ⟨so', sn', sc', rfl⟩ := hA2.num.shape
              have p1 := ((bel_trans hbw hDD.below).block (w.heap.size + 1) (by omega)).trans g1
              have x0 := blkC p1 0 rfl
              have x1 := blkC p1 1 rfl
              have x2 := blkC p1 2 rfl
              have z0 := blkF p1 0
              have z1 := blkF p1 1
              have z2 := blkF p1 2
              go_wp2
              refine bodyPost_ret (v := .agg #[.bool ng', .slice so' sn' sc', .int .i64 e']) (by simp [results, Tryd.results24, go_sem, x0, x1, x2]) rfl ⟨_, _, _, rfl, dans_res3 (g := w.heap.size + 1) hDD (bel_trans hbx hbw) (by omega) (Nat.lt_of_lt_of_le (by omega) hbw.size) _ _ _, Int.le_of_lt HP.out.1, HP.out.2, hD2.1, hD2.2⟩
set_option maxRecDepth 100000 in
theorem num_any (x : NumR) (w : World) (h : Row w x.ao x.n x.cap x.d) (he : rng x.e) :
    Calls Tryd.prog 8 #[x.v] w fun r w' => ∃ v M e, r = .returned v ∧ DAns w w' (sg x.ng M * pw e) v ∧ 0 ≤ M ∧ M < P 30 ∧ -3000 < e ∧ e < 3000 := by
  have hC := fun W hb => lnorm_any x W (h.keeps hb) he
  obtain ⟨ng, ao, n, cap, d, ex⟩ := x
  unfold NumR.v at *
  simp only at *
  go_enter Tryd.func8, Tryd.ntmps8
  go_wp2_with fail
  refine (hC _ (bel_alloc2 _ _ _)).mono ?_
  rintro r w3 ⟨v, M, e, rfl, hDD, h1⟩
  obtain ⟨ng', s', m', e', rfl, hyy, hA2⟩ := id hDD
  obtain ⟨so', sn', sc', rfl⟩ := hA2.num.shape
  have p1 := (hDD.below.block (w.heap.size + 1) (by rw [size2]; omega)).trans (heap_b2 _ _ _)
  have x0 := blkC p1 0 rfl
  have x1 := blkC p1 1 rfl
  have x2 := blkC p1 2 rfl
  have z0 := blkF p1 0
  have z1 := blkF p1 1
  have z2 := blkF p1 2
  go_wp2
  refine bodyPost_ret (v := .agg #[.bool ng', .slice so' sn' sc', .int .i64 e']) (by simp [results, Tryd.results8, go_sem, x0, x1, x2]) rfl ⟨_, _, _, rfl, dans_res3 (g := w.heap.size + 1) hDD (bel_alloc2 _ _ _) (by omega) (by rw [size2]; omega) _ _ _, h1⟩
end Go.Proofs.YtlmoeclfjogoaabDoor

/-
  Plain mathematics: numbers that are not too great have a valid form. No Go text in sight.
-/
namespace Go.Proofs.YtlmoeclfjogoaabDoor
open Go Go.RowKit Go.Proofs.YtlmoeclfjogoaabDoor.M
set_option linter.unusedSimpArgs false
set_option linter.unusedVariables false

/-- V is a multiple of 2^-B, below 2^B, signs aside. -/
def Bd (B : Nat) (V : Int) : Prop := ∃ m : Int, V = m * pw (-(B : Int)) ∧ -(2 ^ (2 * B)) < m ∧ m < 2 ^ (2 * B)
theorem Bd.ok {B : Nat} {V : Int} (h : Bd B V) (hB : B ≤ 29000) : Dok V := by
  obtain ⟨m, rfl, h1, h2⟩ := h
  by_cases h0 : m = 0
  · rw [h0, Int.zero_mul]; exact dok_zero
  · have key : ∀ (ng : Bool) (M : Int), 0 < M → M < 2 ^ (2 * B) → Dok (sg ng M * pw (-(B : Int))) := fun ng M hM hlt => by
      obtain ⟨l, hl⟩ := isLow_ex hM
      have hy := Dy.of ng hl hM (show -4194304 ≤ -(B : Int) by omega)
      obtain ⟨c1, c2, c3⟩ := isLow_odd hl hM
      have hl2 : l < 2 * B := by
        have h3 : (1 : Int) * 2 ^ l ≤ M / 2 ^ l * 2 ^ l := Int.mul_le_mul_of_nonneg_right (by omega) (Int.le_of_lt (two_pos l))
        rw [c3] at h3
        exact two_lt_iff (by omega)
      refine hy.ok.2 ⟨?_, by omega, by omega⟩
      have h4 : M / 2 ^ l ≤ M := Int.ediv_le_self _ (by omega)
      have h5 : (2 : Int) ^ (2 * B) ≤ 2 ^ (30 * 2000) := two_le (by omega)
      rw [P_two]
      omega
    by_cases hp : 0 < m
    · exact key false m hp h2
    · have := key true (-m) (by omega) (by omega)
      rwa [show sg true (-m) = m by simp [sg]] at this
theorem Bd.up {B C : Nat} {V : Int} (h : Bd B V) (hBC : B ≤ C) (hC : C ≤ 4194304) : Bd C V := by
  obtain ⟨m, rfl, h1, h2⟩ := h
  have hp := two_pos (C - B)
  have e : pw (-(B : Int)) = pw (-(C : Int)) * 2 ^ (C - B) := by
    rw [← pw_add (by omega)]; congr 1; omega
  have hle : (2 : Int) ^ (2 * B) * 2 ^ (C - B) ≤ 2 ^ (2 * C) := by rw [← Int.pow_add]; exact two_le (by omega)
  refine ⟨m * 2 ^ (C - B), by rw [e]; grind, ?_, ?_⟩
  · have : -(2 ^ (2 * B)) * 2 ^ (C - B) < m * 2 ^ (C - B) := Int.mul_lt_mul_of_pos_right h1 hp
    rw [Int.neg_mul] at this
    omega
  · have := Int.mul_lt_mul_of_pos_right h2 hp
    omega
theorem Bd.add {B : Nat} {V W : Int} (h : Bd B V) (k : Bd B W) (hB : B < 4194304) : Bd (B + 1) (V + W) := by
  obtain ⟨m, rfl, h1, h2⟩ := h
  obtain ⟨n, rfl, k1, k2⟩ := k
  have e : pw (-(B : Int)) = pw (-((B + 1 : Nat) : Int)) * 2 := by
    have := pw_add (e := -((B + 1 : Nat) : Int)) (by omega) 1
    rw [Int.pow_succ, Int.pow_zero, Int.one_mul] at this
    rw [← this]; congr 1; omega
  have e2 : (2 : Int) ^ (2 * (B + 1)) = 2 ^ (2 * B) * 4 := by rw [show 2 * (B + 1) = 2 * B + 2 by omega, Int.pow_add]; rfl
  refine ⟨2 * (m + n), by rw [e]; grind, ?_, ?_⟩ <;> rw [e2] <;> omega
theorem Bd.neg {B : Nat} {V : Int} (h : Bd B V) : Bd B (-V) := by
  obtain ⟨m, rfl, h1, h2⟩ := h
  exact ⟨-m, by rw [Int.neg_mul], by omega, by omega⟩
theorem Bd.mul {B : Nat} {V W U : Int} (h : Bd B V) (k : Bd B W) (hU : U * 2 ^ 4194304 = V * W) (hB : B ≤ 1000000) : Bd (2 * B) U := by
  obtain ⟨m, rfl, h1, h2⟩ := h
  obtain ⟨n, rfl, k1, k2⟩ := k
  have e : U = m * n * pw (-((2 * B : Nat) : Int)) := by
    refine scale_inj ?_
    rw [hU, Int.mul_assoc (m * n), show -((2 * B : Nat) : Int) = -(B : Int) + -(B : Int) by omega, ← pw_mul (by omega) (by omega)]; grind
  refine ⟨m * n, e, ?_, ?_⟩
  all_goals
    have hab : (m * n).natAbs < ((2 : Int) ^ (2 * (2 * B))).natAbs := by
      rw [Int.natAbs_mul, show 2 * (2 * B) = 2 * B + 2 * B by omega, Int.pow_add, Int.natAbs_mul]
      exact Nat.mul_lt_mul'' (by have := two_pos (2 * B); omega) (by have := two_pos (2 * B); omega)
    have := two_pos (2 * (2 * B))
    omega
theorem bd_num {ng : Bool} {M e : Int} (h0 : 0 ≤ M) (h1 : M < P 30) (e0 : -3000 < e) (e1 : e < 3000) : Bd 4000 (sg ng M * pw e) := by
  have hs : pw e = pw (-((4000 : Nat) : Int)) * 2 ^ (e + 4000).toNat := by
    rw [← pw_add (by omega)]; congr 1; omega
  have hp := two_pos (e + 4000).toNat
  have hlt : M * 2 ^ (e + 4000).toNat < 2 ^ (2 * 4000) := by
    have a : M * 2 ^ (e + 4000).toNat < P 30 * 2 ^ (e + 4000).toNat := Int.mul_lt_mul_of_pos_right h1 hp
    rw [P_two, ← Int.pow_add] at a
    have b : (2 : Int) ^ (30 * 30 + (e + 4000).toNat) ≤ 2 ^ (2 * 4000) := two_le (by omega)
    omega
  have hn : 0 ≤ M * 2 ^ (e + 4000).toNat := Int.mul_nonneg h0 (Int.le_of_lt hp)
  refine ⟨sg ng (M * 2 ^ (e + 4000).toNat), by rw [hs, sg_sgn, sg_sgn]; grind, ?_, ?_⟩
  all_goals
    generalize M * 2 ^ (e + 4000).toNat = X at *
    generalize (2 : Int) ^ (2 * 4000) = T at *
    cases ng <;> simp only [sg] <;> simp <;> omega
end Go.Proofs.YtlmoeclfjogoaabDoor
