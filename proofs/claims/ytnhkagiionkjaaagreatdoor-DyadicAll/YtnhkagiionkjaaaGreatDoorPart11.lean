/-
  Parts of the proof, one behind another.
-/
import Derived.Test.YtnhkagiionkjaaaGreatDoorPart10
import Derived.Test.YtnhkagiionkjaaaGreatDoorPart7
import Derived.Test.YtnhkagiionkjaaaGreatDoorPart3
import Derived.Test.YtnhkagiionkjaaaGreatDoorPart6
import Derived.Test.YtnhkagiionkjaaaGreatDoorRows
import Derived.Test.YtnhkagiionkjaaaGreatDoorPart1
import Derived.ProofKit
import Derived.OpenShut
import Derived.ChangeOld
import Derived.Test.YtnhkagiionkjaaaGreatDoorPart5
import Derived.LaidMore
import Derived.Deep.Strs
import Derived.Lib.LaidTab
import Derived.MakeChecks
import Derived.Stop.LaidErr
import Derived.Test.YtnhkagiionkjaaaGreatDoorPart9
import Derived.Test.YtnhkagiionkjaaaGreatDoorPart4
import Derived.Test.YtnhkagiionkjaaaGreatDoorPart8
/-
  Package plumblaw3: alive.
-/
namespace Go.Proofs.YtnhkagiionkjaaaGreatDoor
open Go Go.RowKit Go.Proofs.YtnhkagiionkjaaaGreatDoor.M
set_option linter.unusedSimpArgs false
set_option linter.unusedVariables false

/-- A small number's form. -/
theorem dy_lit (ng : Bool) {m e : Int} (h0 : 0 < m) (h1 : m % 2 = 1) (he : -4194304 ≤ e) : Dy (sg ng m * pw e) ng m e := ⟨rfl, he, .inr ⟨h0, h1⟩⟩
theorem dok_lit {ng : Bool} {m e : Int} (h0 : 0 < m) (h1 : m % 2 = 1) (h2 : m < 1073741824) (he : -1048576 ≤ e) (he1 : e ≤ 1048576) : Dok (sg ng m * pw e) :=
  (dy_lit ng h0 h1 (by omega)).ok.2 ⟨by have := P2000_big2; omega, he, he1⟩
theorem dnum_lit {w : World} {g : Nat} (ng : Bool) {m e : Int} (h0 : 0 < m) (h1 : m % 2 = 1) (h2 : m < 1073741824) (he : -4194304 ≤ e) (hg : w.heap[g]? = some (.cells #[.int .i64 m] 3 (0, 0))) :
    DNum w (.agg #[.bool ng, .slice (some ⟨g, 0, none⟩) 1 1, .int .i64 e]) (sg ng m * pw e) := by
  refine ⟨ng, _, m, e, rfl, dy_lit ng h0 h1 he, _, 1, 1, fun _ => m, rfl, ?_, ⟨fun i _ => by show 0 ≤ m ∧ m < 1073741824; omega, .inr (by show m ≠ 0; omega)⟩, by show 0 + m * 1 = m; omega⟩
  exact ⟨Nat.le_refl _, by omega, fun h => by simp at h, fun _ => ⟨g, 0, rfl, (Array.getElem?_eq_some_iff.1 hg).1, fun i hi => by
    obtain rfl : i = 0 := by omega
    exact blkC hg 0 rfl⟩⟩
theorem pw_step {e k : Int} {l : Nat} (h : -4194304 ≤ e) (hk : k = e + l) : pw k = pw e * 2 ^ l := by rw [hk, pw_add h]
theorem pw_0 : pw 0 = pw (-1) * 2 := (pw_step (e := -1) (l := 1) (by omega) (by omega)).trans (by rw [Int.pow_succ, Int.pow_zero, Int.one_mul])
theorem live_x : mkV true 6 (-1) = sg true 3 * pw 0 := by
  unfold mkV
  rw [if_neg (by decide), if_neg (by decide), pw_0]
  generalize pw (-1) = p
  show -6 * p = -3 * (p * 2)
  omega
theorem live_y : pok 4609434218613702656 = true ∧ sg (pneg 4609434218613702656) (pmag 4609434218613702656) * pw (pexp 4609434218613702656) = sg false 3 * pw (-1) := by
  refine ⟨by decide, ?_⟩
  rw [show pneg 4609434218613702656 = false by decide, show pmag 4609434218613702656 = 6755399441055744 by decide, show pexp 4609434218613702656 = -52 by decide, pw_step (e := -52) (k := -1) (l := 51) (by omega) (by omega)]
  generalize pw (-52) = p
  show 6755399441055744 * p = 3 * (p * 2 ^ 51)
  rw [show (2 : Int) ^ 51 = 2251799813685248 by decide]
  omega
theorem live_s : sg true 3 * pw 0 + sg false 3 * pw (-1) = sg true 3 * pw (-1) := by
  rw [pw_0]
  generalize pw (-1) = p
  show -3 * (p * 2) + 3 * p = -3 * p
  omega
theorem sameD_yes {w : World} {x y : Value} {A : Int} (hx : DNum w x A) (hy : DNum w y A) :
    Calls Tryz.prog 15 #[x, y] w fun r w' => r = .returned (.bool true) ∧ Below w.heap.size w w' := by
  have := same_D hx hy
  rwa [decide_eq_true (rfl : A = A)] at this
set_option maxRecDepth 100000 in
set_option maxHeartbeats 2000000 in
theorem dalive_any (w : World) (L : Lay64 w) (hT : Tab w) : Calls Tryz.prog 5 #[] w fun r w' => r = .returned (.bool true) ∧ Below w.heap.size w w' := by
  have lx : ∀ {w : World} {g : Nat}, w.heap[g]? = some (.cells #[.int .i64 3] 3 (0, 0)) → DNum w (.agg #[.bool true, .slice (some ⟨g, 0, none⟩) 1 1, .int .i64 0]) (sg true 3 * pw 0) := fun h => dnum_lit true (by decide) (by decide) (by decide) (by decide) h
  have ly : ∀ {w : World} {g : Nat}, w.heap[g]? = some (.cells #[.int .i64 3] 3 (0, 0)) → DNum w (.agg #[.bool false, .slice (some ⟨g, 0, none⟩) 1 1, .int .i64 (-1)]) (sg false 3 * pw (-1)) := fun h => dnum_lit false (by decide) (by decide) (by decide) (by decide) h
  have ls : ∀ {w : World} {g : Nat}, w.heap[g]? = some (.cells #[.int .i64 3] 3 (0, 0)) → DNum w (.agg #[.bool true, .slice (some ⟨g, 0, none⟩) 1 1, .int .i64 (-1)]) (sg true 3 * pw (-1)) := fun h => dnum_lit true (by decide) (by decide) (by decide) (by decide) h
  have vx := live_x
  have vy := live_y
  have vs := live_s
  have ox : Dok (sg true 3 * pw 0) := dok_lit (by decide) (by decide) (by decide) (by decide) (by decide)
  have oy : Dok (sg false 3 * pw (-1)) := dok_lit (by decide) (by decide) (by decide) (by decide) (by decide)
  have os : Dok (sg true 3 * pw (-1)) := dok_lit (by decide) (by decide) (by decide) (by decide) (by decide)
  generalize sg true 3 * pw 0 = A at *
  generalize sg false 3 * pw (-1) = B at *
  generalize sg true 3 * pw (-1) = C at *
  go_enter Tryz.func5, Tryz.ntmps5
  go_wp2_with fail
  refine (make_D true (-1) (num1 w 6 (by decide) (by decide) rfl) (by have := P2000_big2; omega) (hT.keeps (bel_alloc _ _))).mono ?_
  rw [vx]
  rintro r w1 ⟨v, er, rfl, hF⟩
  obtain ⟨rfl, hDx⟩ := hF.yes ox
  obtain ⟨ng, so, sn, sc, e, rfl⟩ := hF.shape
  have hb1 := bel_trans (bel_alloc w _) hDx.below
  have hX := hDx.num
  clear hF hDx
  go_wp2_with fail
  generalize hwx : w1.alloc (.cells #[.bool ng, .slice so sn sc, .int .i64 e] 25) = wx
  have g0 : wx.heap[w1.heap.size]? = some (.cells #[.bool ng, .slice so sn sc, .int .i64 e] 25 (0, 0)) := by rw [← hwx]; exact heap_a1 _ _
  have hbx : Below w.heap.size w wx := by rw [← hwx]; exact bel_trans hb1 (bel_alloc _ _)
  have hXx : DNum wx (.agg #[.bool ng, .slice so sn sc, .int .i64 e]) A := by rw [← hwx]; exact hX.keeps (bel_alloc _ _)
  clear hwx hX hb1
  refine (dof_any _ _ (L.keeps hbx) (hT.keeps hbx)).mono ?_
  rw [vy.1, vy.2]
  rintro r w2 ⟨v, er, rfl, hb2, (⟨_, rfl, hDy⟩ | ⟨h, _⟩)⟩
  · obtain ⟨ng2, s2, m2, e2, rfl, hy2, hA2⟩ := id hDy
    obtain ⟨so2, sn2, sc2, rfl⟩ := hA2.num.shape
    have hY := hDy.num
    have hX2 := hXx.keeps hb2
    have g0' := (hb2.block w1.heap.size (Array.getElem?_eq_some_iff.1 g0).1).trans g0
    have hb2' := bel_trans hbx hb2
    clear hDy hA2 hy2 hXx hbx hb2 g0
    have k0 := blkC (heap_past (.cells #[.bool ng2, .slice so2 sn2 sc2, .int .i64 e2] 25) g0') 0 rfl
    have k1 := blkC (heap_past (.cells #[.bool ng2, .slice so2 sn2 sc2, .int .i64 e2] 25) g0') 1 rfl
    have k2 := blkC (heap_past (.cells #[.bool ng2, .slice so2 sn2 sc2, .int .i64 e2] 25) g0') 2 rfl
    go_wp2_with fail
    have g1 := heap_a1 w2 (.cells #[.bool ng2, .slice so2 sn2 sc2, .int .i64 e2] 25)
    have g0 := heap_past (.cells #[.bool ng2, .slice so2 sn2 sc2, .int .i64 e2] 25) g0'
    have hb3 := bel_trans hb2' (bel_alloc w2 (.cells #[.bool ng2, .slice so2 sn2 sc2, .int .i64 e2] 25))
    have hX3 := hX2.keeps (bel_alloc w2 (.cells #[.bool ng2, .slice so2 sn2 sc2, .int .i64 e2] 25))
    have hY3 := hY.keeps (bel_alloc w2 (.cells #[.bool ng2, .slice so2 sn2 sc2, .int .i64 e2] 25))
    generalize w2.alloc (.cells #[.bool ng2, .slice so2 sn2 sc2, .int .i64 e2] 25) = w3 at g0 g1 hb3 hX3 hY3 ⊢
    clear k0 k1 k2 hX2 hY g0' hb2'
    refine (add_D hX3 hY3 ox oy (hT.keeps hb3)).mono ?_
    rw [vs]
    rintro r w4 ⟨v, er, rfl, hF⟩
    obtain ⟨rfl, hDs⟩ := hF.yes os
    obtain ⟨ng4, so4, sn4, sc4, e4, rfl⟩ := hF.shape
    have hS4 := hDs.num
    have hX4 := hX3.keeps hDs.below
    have hY4 := hY3.keeps hDs.below
    have p0 := (hDs.below.block _ (Array.getElem?_eq_some_iff.1 g0).1).trans g0
    have p1 := (hDs.below.block _ (Array.getElem?_eq_some_iff.1 g1).1).trans g1
    have hb4 := bel_trans hb3 hDs.below
    clear hF hDs hX3 hY3 g0 g1 hb3
    have hX5 := hX4.keeps (bel_alloc w4 (.cells #[.bool ng4, .slice so4 sn4 sc4, .int .i64 e4] 25))
    have hY5 := hY4.keeps (bel_alloc w4 (.cells #[.bool ng4, .slice so4 sn4 sc4, .int .i64 e4] 25))
    have hS5 := hS4.keeps (bel_alloc w4 (.cells #[.bool ng4, .slice so4 sn4 sc4, .int .i64 e4] 25))
    have hb5 := bel_trans hb4 (bel_alloc w4 (.cells #[.bool ng4, .slice so4 sn4 sc4, .int .i64 e4] 25))
    have a0 := heap_past (.cells #[.bool ng4, .slice so4 sn4 sc4, .int .i64 e4] 25) p0
    have a1 := heap_past (.cells #[.bool ng4, .slice so4 sn4 sc4, .int .i64 e4] 25) p1
    have a2 := heap_a1 w4 (.cells #[.bool ng4, .slice so4 sn4 sc4, .int .i64 e4] 25)
    have hs5 := size1 w4 (.cells #[.bool ng4, .slice so4 sn4 sc4, .int .i64 e4] 25)
    have x0 := blkC a0 0 rfl
    have x1 := blkC a0 1 rfl
    have x2 := blkC a0 2 rfl
    go_wp2_with fail
    generalize w4.alloc (.cells #[.bool ng4, .slice so4 sn4 sc4, .int .i64 e4] 25) = w5 at hX5 hY5 hS5 hb5 a0 a1 a2 hs5 x0 x1 x2 ⊢
    clear hX4 hY4 hS4 hb4 p0 p1 x0 x1 x2
    have l6 := lx (heap_new (w := w5) (k := w4.heap.size + 1) (.cells #[.int .i64 3] 3) hs5.symm)
    refine (sameD_yes (hX5.keeps (bel_alloc w5 (.cells #[.int .i64 3] 3))) l6).mono ?_
    rintro r w6 ⟨rfl, hc6⟩
    have hd6 := bel_trans (bel_alloc w5 (.cells #[.int .i64 3] 3)) hc6
    have hY6 := hY5.keeps hd6
    have hS6 := hS5.keeps hd6
    have hb6 := bel_trans hb5 hd6
    have b1 := (hd6.block _ (Array.getElem?_eq_some_iff.1 a1).1).trans a1
    have b2 := (hd6.block _ (Array.getElem?_eq_some_iff.1 a2).1).trans a2
    have y0 := blkC b1 0 rfl
    have y1 := blkC b1 1 rfl
    have y2 := blkC b1 2 rfl
    clear hX5 hY5 hS5 hb5 a0 a1 a2 l6 hc6
    go_wp2_with fail
    have l7 := ly (heap_a1 w6 (.cells #[.int .i64 3] 3))
    refine (sameD_yes (hY6.keeps (bel_alloc w6 (.cells #[.int .i64 3] 3))) l7).mono ?_
    rintro r w7 ⟨rfl, hc7⟩
    have hd7 := bel_trans (bel_alloc w6 (.cells #[.int .i64 3] 3)) hc7
    have hS7 := hS6.keeps hd7
    have hb7 := bel_trans hb6 hd7
    have c2 := (hd7.block _ (Array.getElem?_eq_some_iff.1 b2).1).trans b2
    have z0 := blkC c2 0 rfl
    have z1 := blkC c2 1 rfl
    have z2 := blkC c2 2 rfl
    clear hY6 hS6 hb6 b1 b2 l7 hc7 y0 y1 y2
    go_wp2_with fail
    have l8 := ls (heap_a1 w7 (.cells #[.int .i64 3] 3))
    refine (sameD_yes (hS7.keeps (bel_alloc w7 (.cells #[.int .i64 3] 3))) l8).mono ?_
    rintro r w8 ⟨rfl, hc8⟩
    have hd8 := bel_trans (bel_alloc w7 (.cells #[.int .i64 3] 3)) hc8
    have hS8 := hS7.keeps hd8
    have hb8 := bel_trans hb7 hd8
    have d2 := (hd8.block _ (Array.getElem?_eq_some_iff.1 c2).1).trans c2
    have u0 := blkC d2 0 rfl
    have u1 := blkC d2 1 rfl
    have u2 := blkC d2 2 rfl
    clear hS7 hb7 c2 l8 hc8 z0 z1 z2
    go_wp2_with fail
    refine (valid_D hS8 os).mono ?_
    rintro r w9 ⟨rfl, hb9⟩
    go_wp2
    go_ret
    exact ⟨rfl, bel_trans hb8 hb9⟩
  · cases h
end Go.Proofs.YtnhkagiionkjaaaGreatDoor

/-
  Package plumblaw3: Norm, num, by contracts: a valid number of any one, not too great.
-/
namespace Go.Proofs.YtnhkagiionkjaaaGreatDoor
open Go Go.RowKit Go.Proofs.YtnhkagiionkjaaaGreatDoor.M
set_option linter.unusedSimpArgs false
set_option linter.unusedVariables false

end Go.Proofs.YtnhkagiionkjaaaGreatDoor

/-
  Plain mathematics: numbers that are not too great have a valid form. No Go text in sight.
-/
namespace Go.Proofs.YtnhkagiionkjaaaGreatDoor
open Go Go.RowKit Go.Proofs.YtnhkagiionkjaaaGreatDoor.M
set_option linter.unusedSimpArgs false
set_option linter.unusedVariables false

/-- V is a multiple of 2^-B, below 2^B, signs aside. -/
def Bd (B : Nat) (V : Int) : Prop := ∃ m : Int, V = m * pw (-(B : Int)) ∧ -(2 ^ (2 * B)) < m ∧ m < 2 ^ (2 * B)
theorem Bd.ok {B : Nat} {V : Int} (h : Bd B V) (hB : B ≤ 29000) : Dok V := by
  obtain ⟨m, rfl, h1, h2⟩ := h
  by_cases h0 : m = 0
  · rw [h0, Int.zero_mul]; exact dok_zero
  · have key : ∀ (ng : Bool) (M : Int), 0 < M → M < 2 ^ (2 * B) → Dok (sg ng M * pw (-(B : Int))) := fun ng M hM hlt => by
      obtain ⟨l, hl⟩ := isLow_ex hM
      have hy := Dy.of ng hl hM (show -4194304 ≤ -(B : Int) by omega)
      obtain ⟨c1, c2, c3⟩ := isLow_odd hl hM
      have hl2 : l < 2 * B := by
        have h3 : (1 : Int) * 2 ^ l ≤ M / 2 ^ l * 2 ^ l := Int.mul_le_mul_of_nonneg_right (by omega) (Int.le_of_lt (two_pos l))
        rw [c3] at h3
        exact two_lt_iff (by omega)
      refine hy.ok.2 ⟨?_, by omega, by omega⟩
      have h4 : M / 2 ^ l ≤ M := Int.ediv_le_self _ (by omega)
      have h5 : (2 : Int) ^ (2 * B) ≤ 2 ^ (30 * 2000) := two_le (by omega)
      rw [P_two]
      omega
    by_cases hp : 0 < m
    · exact key false m hp h2
    · have := key true (-m) (by omega) (by omega)
      rwa [show sg true (-m) = m by simp [sg]] at this
theorem Bd.up {B C : Nat} {V : Int} (h : Bd B V) (hBC : B ≤ C) (hC : C ≤ 4194304) : Bd C V := by
  obtain ⟨m, rfl, h1, h2⟩ := h
  have hp := two_pos (C - B)
  have e : pw (-(B : Int)) = pw (-(C : Int)) * 2 ^ (C - B) := by
    rw [← pw_add (by omega)]; congr 1; omega
  have hle : (2 : Int) ^ (2 * B) * 2 ^ (C - B) ≤ 2 ^ (2 * C) := by rw [← Int.pow_add]; exact two_le (by omega)
  refine ⟨m * 2 ^ (C - B), by rw [e]; grind, ?_, ?_⟩
  · have : -(2 ^ (2 * B)) * 2 ^ (C - B) < m * 2 ^ (C - B) := Int.mul_lt_mul_of_pos_right h1 hp
    rw [Int.neg_mul] at this
    omega
  · have := Int.mul_lt_mul_of_pos_right h2 hp
    omega
theorem Bd.add {B : Nat} {V W : Int} (h : Bd B V) (k : Bd B W) (hB : B < 4194304) : Bd (B + 1) (V + W) := by
  obtain ⟨m, rfl, h1, h2⟩ := h
  obtain ⟨n, rfl, k1, k2⟩ := k
  have e : pw (-(B : Int)) = pw (-((B + 1 : Nat) : Int)) * 2 := by
    have := pw_add (e := -((B + 1 : Nat) : Int)) (by omega) 1
    rw [Int.pow_succ, Int.pow_zero, Int.one_mul] at this
    rw [← this]; congr 1; omega
  have e2 : (2 : Int) ^ (2 * (B + 1)) = 2 ^ (2 * B) * 4 := by rw [show 2 * (B + 1) = 2 * B + 2 by omega, Int.pow_add]; rfl
  refine ⟨2 * (m + n), by rw [e]; grind, ?_, ?_⟩ <;> rw [e2] <;> omega
theorem Bd.neg {B : Nat} {V : Int} (h : Bd B V) : Bd B (-V) := by
  obtain ⟨m, rfl, h1, h2⟩ := h
  exact ⟨-m, by rw [Int.neg_mul], by omega, by omega⟩
theorem Bd.mul {B : Nat} {V W U : Int} (h : Bd B V) (k : Bd B W) (hU : U * 2 ^ 4194304 = V * W) (hB : B ≤ 1000000) : Bd (2 * B) U := by
  obtain ⟨m, rfl, h1, h2⟩ := h
  obtain ⟨n, rfl, k1, k2⟩ := k
  have e : U = m * n * pw (-((2 * B : Nat) : Int)) := by
    refine scale_inj ?_
    rw [hU, Int.mul_assoc (m * n), show -((2 * B : Nat) : Int) = -(B : Int) + -(B : Int) by omega, ← pw_mul (by omega) (by omega)]; grind
  refine ⟨m * n, e, ?_, ?_⟩
  all_goals
    have hab : (m * n).natAbs < ((2 : Int) ^ (2 * (2 * B))).natAbs := by
      rw [Int.natAbs_mul, show 2 * (2 * B) = 2 * B + 2 * B by omega, Int.pow_add, Int.natAbs_mul]
      exact Nat.mul_lt_mul'' (by have := two_pos (2 * B); omega) (by have := two_pos (2 * B); omega)
    have := two_pos (2 * (2 * B))
    omega
theorem bd_num {ng : Bool} {M e : Int} (h0 : 0 ≤ M) (h1 : M < P 30) (e0 : -3000 < e) (e1 : e < 3000) : Bd 4000 (sg ng M * pw e) := by
  have hs : pw e = pw (-((4000 : Nat) : Int)) * 2 ^ (e + 4000).toNat := by
    rw [← pw_add (by omega)]; congr 1; omega
  have hp := two_pos (e + 4000).toNat
  have hlt : M * 2 ^ (e + 4000).toNat < 2 ^ (2 * 4000) := by
    have a : M * 2 ^ (e + 4000).toNat < P 30 * 2 ^ (e + 4000).toNat := Int.mul_lt_mul_of_pos_right h1 hp
    rw [P_two, ← Int.pow_add] at a
    have b : (2 : Int) ^ (30 * 30 + (e + 4000).toNat) ≤ 2 ^ (2 * 4000) := two_le (by omega)
    omega
  have hn : 0 ≤ M * 2 ^ (e + 4000).toNat := Int.mul_nonneg h0 (Int.le_of_lt hp)
  refine ⟨sg ng (M * 2 ^ (e + 4000).toNat), by rw [hs, sg_sgn, sg_sgn]; grind, ?_, ?_⟩
  all_goals
    generalize M * 2 ^ (e + 4000).toNat = X at *
    generalize (2 : Int) ^ (2 * 4000) = T at *
    cases ng <;> simp only [sg] <;> simp <;> omega
end Go.Proofs.YtnhkagiionkjaaaGreatDoor

/-
  What a row gives of its arguments: a slice of ints that came in, as the walks want it.
-/
namespace Go.Proofs.YtnhkagiionkjaaaGreatDoor
open Go Go.ChangeShapes Go.WideShapes Go.ChangeAt Go.RowKit Go.Proofs.YtnhkagiionkjaaaGreatDoor.M
set_option linter.unusedSimpArgs false
set_option linter.unusedVariables false

theorem rng_of {x : Int} (h : (Lit.int .i64 x).wf = true) : rng x := by
  simp [Lit.wf, IntKind.min, IntKind.max, IntKind.signed, IntKind.bits] at h
  unfold rng; omega
theorem row_of {H : Type} {enc : TypeId × Value → H} {W : World} {a : Option Addr} {len cap : Nat} {d : DataW H} {p : List MemPlace}
    (h0 : DataW.Trod enc Tryz.prog W 0 (fun _ => true) true 23 (.slice a len cap) d p) : ∃ z : Nat → Int, Row W a len cap z ∧ ∀ i, i < len → rng (z i) := by
  obtain ⟨fuel, hf⟩ := h0
  rcases open_ints Tryz.underlying23 Tryz.underlying3 (by kernel_rfl) hf with ⟨hcs, _⟩ | ⟨x, l, c, zs, hcs, _, hl, hm, hz, _, hcell, hwz⟩
  · simp [Value.cells] at hcs
    obtain ⟨rfl, rfl, rfl⟩ := hcs
    exact ⟨fun _ => 0, Row.nil _ _, fun i hi => by omega⟩
  · simp [Value.cells] at hcs
    obtain ⟨rfl, rfl, rfl⟩ := hcs
    have hz' : zs.length = cap := by simpa using hz
    refine ⟨fun i => zs.getD i 0, ⟨hl, by unfold maxLen at hm; exact hm, (fun e => by cases e), fun hn => ?_⟩, fun i hi => ?_⟩
    · obtain ⟨b, off, spot⟩ := x
      have hc := hcell 0 (by omega)
      have hspot : spot = none := by simpa [Addr.add] using World.cell?_spot hc
      subst hspot
      refine ⟨b, off, rfl, World.block_lt_of_cell? W _ (by simpa [Addr.add] using hc), fun i hi => ?_⟩
      rw [← add_none]; exact hcell i (by omega)
    · refine rng_of (hwz _ ?_)
      simp [List.getD, show i < zs.length by omega]
end Go.Proofs.YtnhkagiionkjaaaGreatDoor

/-
  What a row's list gives: the library's table of trailing zeros.
-/
namespace Go.Proofs.YtnhkagiionkjaaaGreatDoor
open Go Go.RowKit Go.ChangeShapes Go.Proofs.YtnhkagiionkjaaaGreatDoor.M
set_option linter.unusedSimpArgs false
set_option linter.unusedVariables false

theorem gTab : Tryz.prog.globalNamed "math/bits.deBruijn64tab" = some 2 := by kernel_rfl
theorem gTabType : (Tryz.prog.globals[(2 : Nat)]?).map (·.type) = some 115 := by kernel_rfl
theorem cellsTab : Tryz.prog.cellsOf 115 = 64 := by kernel_rfl
theorem cellsByte : Tryz.prog.cellsOf 5 = 1 := by kernel_rfl
def tabInts : List Int := Lib.deBruijn64tab.map Int.ofNat
theorem tab_get : ∀ j, j < 64 → tabInts.getD j 0 = ((Lib.deBruijn64tab.getD j 0 : Nat) : Int) := by decide +kernel
theorem tab_of {W : World} (h : laidMetH Tryz.prog [("math/bits.deBruijn32tab", Rows.laid_math_bits_deBruijn32tab), ("math/bits.deBruijn64tab", Rows.laid_math_bits_deBruijn64tab)] W) : Tab W := by
  rw [MakeChecks.laidMetH_plain _ _ _ (by kernel_rfl)] at h
  have h' : laidMet Tryz.prog (("math/bits.deBruijn64tab", Lib.tabData .u8 tabInts) :: []) W := h.tail
  have t := Lib.tabIs_of_head gTab gTabType Tryz.underlying115 Tryz.underlying5 cellsByte cellsTab h'
  intro j hj
  rw [← tab_get j hj]
  exact t.cell gTab j (by exact hj)
end Go.Proofs.YtnhkagiionkjaaaGreatDoor

/-
  What a row's list of package-level variables gives: the layouts' cells, and the cells of the library's table for b_trailing zeros.
-/
namespace Go.Proofs.YtnhkagiionkjaaaGreatDoor
open Go Go.RowKit Go.ChangeShapes Go.Proofs.YtnhkagiionkjaaaGreatDoor.M
set_option linter.unusedSimpArgs false
set_option linter.unusedVariables false

theorem b_rng_of {a : Int} (h : (Lit.int .i64 a).wf = true) : rng a := by
  simp [Lit.wf, IntKind.min, IntKind.max, IntKind.signed, IntKind.bits] at h
  unfold rng; omega
theorem cellsInt : Tryz.prog.cellsOf 3 = 1 := by kernel_rfl
theorem cellsLayout : Tryz.prog.cellsOf 99 = 3 := by kernel_rfl
theorem g64 : Tryz.prog.globalNamed "plumb/bits.binary64" = some 0 := by kernel_rfl
theorem g64Type : (Tryz.prog.globals[(0 : Nat)]?).map (·.type) = some 99 := by kernel_rfl
theorem g32 : Tryz.prog.globalNamed "plumb/bits.binary32" = some 1 := by kernel_rfl
theorem g32Type : (Tryz.prog.globals[(1 : Nat)]?).map (·.type) = some 99 := by kernel_rfl

set_option maxRecDepth 100000 in
/-- A layout's three cells, off its reading. -/
theorem three {W : World} {name : String} {g : Nat} {a b c : Int} {rest : List (String × DataW Unit)} (hg : Tryz.prog.globalNamed name = some g) (hty : (Tryz.prog.globals[g]?).map (·.type) = some 99)
    (h : laidMet Tryz.prog ((name, .agg [.lit (.int .i64 a), .lit (.int .i64 b), .lit (.int .i64 c)]) :: rest) W) :
    W.cell? ⟨g, 0, none⟩ = some (.int .i64 a) ∧ W.cell? ⟨g, 1, none⟩ = some (.int .i64 b) ∧ W.cell? ⟨g, 2, none⟩ = some (.int .i64 c) := by
  obtain ⟨ps, ⟨g', t', cs, fuel, p, q, hg', ht', hvar, hd, _, _⟩, _⟩ := h
  obtain rfl := Option.some.inj (hg.symm.trans hg')
  obtain rfl := Option.some.inj (hty.symm.trans ht')
  obtain ⟨y0, y1, y2, n, hx, hl, h0, h1, h2⟩ := Go.Deep.trod_struct3 Tryz.underlying99 hd
  obtain ⟨k0, e0, f0, _⟩ := DataW.trod_int Tryz.underlying3 h0
  obtain ⟨k1, e1, f1, _⟩ := DataW.trod_int Tryz.underlying3 h1
  obtain ⟨k2, e2, f2, _⟩ := DataW.trod_int Tryz.underlying3 h2
  rw [f0, f1, f2] at hx
  simp only [Prod.mk.injEq, DataW.agg.injEq, List.cons.injEq, DataW.lit.injEq, Lit.int.injEq, true_and, and_true] at hx
  obtain ⟨⟨rfl, rfl, rfl⟩, _⟩ := hx
  rw [cellsLayout] at hl
  rw [cellsInt] at e0 e1 e2
  have v := fun i => World.var?_cell hg hvar i
  obtain ⟨l⟩ := cs
  simp only at hl e0 e1 e2
  match l, hl with
  | [c0, c1, c2], _ =>
    simp at e0 e1 e2
    subst e0 e1 e2
    exact ⟨by simpa using v 0, by simpa using v 1, by simpa using v 2⟩

theorem lays_of {W : World} (h : laidMetH Tryz.prog [("plumb/bits.binary64", Rows.laid_plumb_bits_binary64), ("plumb/bits.binary32", Rows.laid_plumb_bits_binary32)] W) : Lays W := by
  rw [MakeChecks.laidMetH_plain _ _ _ (by kernel_rfl)] at h
  obtain ⟨a0, a1, a2⟩ := three g64 g64Type h
  obtain ⟨b0, b1, b2⟩ := three g32 g32Type h.tail
  exact ⟨a0, a1, a2, b0, b1, b2⟩
end Go.Proofs.YtnhkagiionkjaaaGreatDoor

/-
  What a row gives: a number that came in, as the walks want it; the library's table and the layout of binary64.
-/
namespace Go.Proofs.YtnhkagiionkjaaaGreatDoor
open Go Go.ChangeShapes Go.WideShapes Go.ChangeAt Go.RowKit Go.Proofs.YtnhkagiionkjaaaGreatDoor.M
set_option linter.unusedSimpArgs false
set_option linter.unusedVariables false

theorem cellsNum : Tryz.prog.cellsOf 25 = 3 := by kernel_rfl
theorem cellsB1 : Tryz.prog.cellsOf 4 = 1 := by kernel_rfl
theorem cellsS1 : Tryz.prog.cellsOf 23 = 1 := by kernel_rfl
theorem cellsI1 : Tryz.prog.cellsOf 3 = 1 := by kernel_rfl
set_option maxRecDepth 100000 in
/-- A number's cells, off its reading. -/
theorem num_cells {H : Type} {enc : TypeId × Value → H} {W : World} {n : Nat} {cs : List Value} {x : DataW H × List MemPlace}
    (h : DataW.trod enc Tryz.prog W 0 (fun _ => true) true n 25 cs = some x) :
    ∃ r : NumR, cs = [.bool r.ng, .slice r.ao r.n r.cap, .int .i64 r.e] ∧ Row W r.ao r.n r.cap r.d ∧ rng r.e := by
  obtain ⟨xs, m, _, rfl, hl, hlen, hf⟩ := DataW.trod_struct Tryz.underlying25 h
  rw [cellsNum] at hl
  match cs, hl with
  | [v0, v1, v2], _ =>
    match xs, hlen with
    | [y0, y1, y2], _ =>
      have f0 : DataW.trod enc Tryz.prog W 0 (fun _ => true) true m 4 (([v0, v1, v2].drop 0).take (Tryz.prog.cellsOf 4)) = some y0 := hf 0 _ rfl
      have f1 : DataW.trod enc Tryz.prog W 0 (fun _ => true) true m 23 (([v0, v1, v2].drop 1).take (Tryz.prog.cellsOf 23)) = some y1 := hf 1 _ rfl
      have f2 : DataW.trod enc Tryz.prog W 0 (fun _ => true) true m 3 (([v0, v1, v2].drop 2).take (Tryz.prog.cellsOf 3)) = some y2 := hf 2 _ rfl
      rw [cellsB1] at f0
      rw [cellsS1] at f1
      rw [cellsI1] at f2
      simp only [List.drop_zero, List.drop_succ_cons, List.take_succ_cons, List.take_zero] at f0 f1 f2
      obtain ⟨k0, e0, _, w0⟩ := DataW.trod_bool Tryz.underlying4 f0
      obtain ⟨k2, e2, _, w2⟩ := DataW.trod_int Tryz.underlying3 f2
      simp at e0 e2
      subst e0 e2
      rcases open_ints Tryz.underlying23 Tryz.underlying3 (by kernel_rfl) f1 with ⟨hcs, _⟩ | ⟨p, l, c, zs, hcs, _, hl', hm', hz, hx, hcell, hwz⟩
      · simp at hcs
        subst hcs
        exact ⟨⟨k0, none, 0, 0, fun _ => 0, k2⟩, rfl, Row.nil _ _, rng_of w2⟩
      · simp at hcs
        subst hcs
        obtain ⟨z, hR, _⟩ := row_of (enc := enc) (W := W) (a := some p) (len := l) (cap := c) (d := y1.1) (p := y1.2) ⟨m, by simpa [Value.cells] using f1⟩
        exact ⟨⟨k0, some p, l, c, z, k2⟩, rfl, hR, rng_of w2⟩
set_option maxRecDepth 100000 in
theorem num_of {H : Type} {enc : TypeId × Value → H} {W : World} {base : Nat} {v : Value} {d : DataW H} {p : List MemPlace} (hv : Value.okWide Tryz.prog W .any base 25 v)
    (h : DataW.Trod enc Tryz.prog W 0 (fun _ => true) true 25 v d p) : ∃ x : NumR, v = x.v ∧ Row W x.ao x.n x.cap x.d ∧ rng x.e := by
  obtain ⟨cs, rfl, hc⟩ := okWide_struct Tryz.underlying25 hv
  obtain ⟨fuel, hf⟩ := h
  obtain ⟨r, hr, h1, h2⟩ := num_cells hf
  refine ⟨r, ?_, h1, h2⟩
  show Value.agg cs = .agg #[.bool r.ng, .slice r.ao r.n r.cap, .int .i64 r.e]
  congr 1
  have : cs.toList = [.bool r.ng, .slice r.ao r.n r.cap, .int .i64 r.e] := by simpa [Value.cells] using hr
  exact Array.toList_inj.1 this
/-- What the laws want of the package's variables. -/
structure Hold (w : World) : Prop where
  lay : Lay64 w
  tab : Tab w
theorem Hold.keeps {w w' : World} (h : Hold w) (hb : Below w.heap.size w w') : Hold w' := ⟨h.lay.keeps hb, h.tab.keeps hb⟩
theorem hold_of {W : World} (h : laidMetH Tryz.prog [("math/bits.deBruijn32tab", Rows.laid_math_bits_deBruijn32tab), ("math/bits.deBruijn64tab", Rows.laid_math_bits_deBruijn64tab), ("plumb/bits.binary64", Rows.laid_plumb_bits_binary64)] W) : Hold W := by
  rw [MakeChecks.laidMetH_plain _ _ _ (by kernel_rfl)] at h
  have h' : laidMet Tryz.prog (("math/bits.deBruijn64tab", Lib.tabData .u8 tabInts) :: [("plumb/bits.binary64", Rows.laid_plumb_bits_binary64)]) W := h.tail
  have t := Lib.tabIs_of_head gTab gTabType Tryz.underlying115 Tryz.underlying5 cellsByte cellsTab h'
  obtain ⟨a0, a1, a2⟩ := three g64 g64Type h'.tail
  refine ⟨⟨a0, a1, a2⟩, fun j hj => ?_⟩
  rw [← tab_get j hj]
  exact t.cell gTab j (by exact hj)
end Go.Proofs.YtnhkagiionkjaaaGreatDoor

/-
  Package dyadic's calls on numbers that are not too great: what they answer is told outright.
-/
namespace Go.Proofs.YtnhkagiionkjaaaGreatDoor
open Go Go.RowKit Go.Proofs.YtnhkagiionkjaaaGreatDoor.M
set_option linter.unusedSimpArgs false
set_option linter.unusedVariables false

theorem dans_shape {w w' : World} {V : Int} {v : Value} (h : DAns w w' V v) : ∃ ng so sn sc e, v = .agg #[.bool ng, .slice so sn sc, .int .i64 e] := by
  obtain ⟨ng, s, m, e, h1, _, hA⟩ := h
  obtain ⟨so, sn, sc, rfl⟩ := hA.num.shape
  exact ⟨_, _, _, _, _, h1⟩
theorem add_B {w : World} {x y : Value} {A B : Int} {k : Nat} (hx : DNum w x A) (hy : DNum w y B) (bA : Bd k A) (bB : Bd k B) (hk : k ≤ 28000) (hT : Tab w) :
    Calls Tryz.prog 14 #[x, y] w fun r w' => ∃ v, r = .returned (.tuple #[v, .int .i64 0]) ∧ DAns w w' (A + B) v := by
  refine (add_D hx hy (bA.ok (by omega)) (bB.ok (by omega)) hT).mono ?_
  rintro r w' ⟨v, er, rfl, hF⟩
  obtain ⟨rfl, hD⟩ := hF.yes ((bA.add bB (by omega)).ok (by omega))
  exact ⟨v, rfl, hD⟩
theorem sub_B {w : World} {x y : Value} {A B : Int} {k : Nat} (hx : DNum w x A) (hy : DNum w y B) (bA : Bd k A) (bB : Bd k B) (hk : k ≤ 28000) (hT : Tab w) :
    Calls Tryz.prog 37 #[x, y] w fun r w' => ∃ v, r = .returned (.tuple #[v, .int .i64 0]) ∧ DAns w w' (A - B) v := by
  refine (sub_D hx hy (bA.ok (by omega)) (bB.ok (by omega)) hT).mono ?_
  rintro r w' ⟨v, er, rfl, hF⟩
  have hb := bA.add bB.neg (by omega)
  rw [← Int.sub_eq_add_neg] at hb
  obtain ⟨rfl, hD⟩ := hF.yes (hb.ok (by omega))
  exact ⟨v, rfl, hD⟩
theorem mul_B {w : World} {x y : Value} {A B : Int} {k : Nat} (hx : DNum w x A) (hy : DNum w y B) (bA : Bd k A) (bB : Bd k B) (hk : k ≤ 14000) (hT : Tab w) :
    Calls Tryz.prog 38 #[x, y] w fun r w' => ∃ v C, r = .returned (.tuple #[v, .int .i64 0]) ∧ DAns w w' C v ∧ C * 2 ^ 4194304 = A * B ∧ Bd (2 * k) C := by
  refine (mul_D hx hy (bA.ok (by omega)) (bB.ok (by omega)) hT).mono ?_
  rintro r w' ⟨v, er, C, rfl, hC, hF⟩
  have hb := bA.mul bB hC (by omega)
  obtain ⟨rfl, hD⟩ := hF.yes (hb.ok (by omega))
  exact ⟨v, C, rfl, hD, hC, hb⟩
theorem ord_swap (a b : Int) : ord b a = -ord a b := by
  rcases Int.lt_trichotomy a b with h | h | h
  · rw [ord_lt h, ord_gt h]; rfl
  · rw [ord_eq h, ord_eq h.symm]; rfl
  · rw [ord_gt h, ord_lt h]
theorem ord_sub (a b : Int) : ord (a - b) 0 = ord a b := by
  rcases Int.lt_trichotomy a b with h | h | h
  · rw [ord_lt h, ord_lt (by omega)]
  · rw [ord_eq h, ord_eq (by omega)]
  · rw [ord_gt h, ord_gt (by omega)]
theorem ord_add (a b c : Int) : ord (a + c) (b + c) = ord a b := by
  rcases Int.lt_trichotomy a b with h | h | h
  · rw [ord_lt h, ord_lt (by omega)]
  · rw [ord_eq h, ord_eq (by omega)]
  · rw [ord_gt h, ord_gt (by omega)]
theorem ord_mul (a b c : Int) : ord (a * c) (b * c) = ord a b * ord c 0 := by
  rcases Int.lt_trichotomy c 0 with h | h | h
  · have e : ∀ x : Int, x * c = -(x * -c) := fun x => by rw [Int.mul_neg, Int.neg_neg]
    rw [e a, e b, ord_neg, ord_scale (show 0 < -c by omega), ord_lt h]; omega
  · rw [h, Int.mul_zero, Int.mul_zero, ord_eq rfl, Int.mul_zero]
  · rw [ord_scale h, ord_gt h, Int.mul_one]
theorem ord_zero (a b : Int) : decide (a = b) = (ord a b == 0) := by
  rcases Int.lt_trichotomy a b with h | h | h
  · rw [ord_lt h, decide_eq_false (by omega)]; rfl
  · rw [ord_eq h, decide_eq_true h]; rfl
  · rw [ord_gt h, decide_eq_false (by omega)]; rfl
theorem ord_trans (a b c : Int) : 0 < ord a b ∨ 0 < ord b c ∨ ord a c ≤ 0 := by
  by_cases h1 : b < a
  · exact .inl (by rw [ord_gt h1]; decide)
  · by_cases h2 : c < b
    · exact .inr (.inl (by rw [ord_gt h2]; decide))
    · refine .inr (.inr ?_)
      by_cases h3 : a < c
      · rw [ord_lt h3]; decide
      · rw [ord_eq (by omega)]; decide
theorem bd_pw {k : Int} (h0 : -5000 < k) (h1 : k < 5000) : Bd 5001 (pw k) := by
  have e : pw k = pw (-((5001 : Nat) : Int)) * 2 ^ (k + 5001).toNat := by
    rw [← pw_add (by omega)]; congr 1; omega
  have hp := two_pos (k + 5001).toNat
  have hlt : (2 : Int) ^ (k + 5001).toNat < 2 ^ (2 * 5001) := two_lt (by omega)
  refine ⟨2 ^ (k + 5001).toNat, by rw [e, Int.mul_comm], ?_, hlt⟩
  have := two_pos (2 * 5001)
  omega
theorem scale_B {w : World} {x : Value} {A : Int} {K : Nat} (hx : DNum w x A) (bA : Bd K A) (hK : K ≤ 11000) (hK1 : 5001 ≤ K) (k : Int) (h0 : -5000 < k) (h1 : k < 5000) (hT : Tab w) :
    Calls Tryz.prog 32 #[x, .int .i64 k] w fun r w' => ∃ v C, r = .returned (.tuple #[v, .int .i64 0]) ∧ DAns w w' C v ∧ C * 2 ^ 4194304 = A * pw k ∧ Bd (2 * K) C := by
  refine (scale_D hx (bA.ok (by omega)) k (by omega) hT).mono ?_
  rintro r w' ⟨v, er, C, rfl, hC, hF⟩
  have hb := bA.mul ((bd_pw h0 h1).up hK1 (by omega)) hC (by omega)
  obtain ⟨rfl, hD⟩ := hF.yes (hb.ok (by omega))
  exact ⟨v, C, rfl, hD, hC, hb⟩
theorem make_B {w : World} {s : Value} (hs : Num w s 1) (k : Int) (h0 : -5000 < k) (h1 : k < 5000) (hT : Tab w) :
    Calls Tryz.prog 12 #[.bool false, s, .int .i64 k] w fun r w' => ∃ v, r = .returned (.tuple #[v, .int .i64 0]) ∧ DAns w w' (pw k) v := by
  have e : mkV false 1 k = pw k := by
    unfold mkV
    rw [if_neg (by decide), if_neg (by omega)]
    show 1 * pw k = pw k
    rw [Int.one_mul]
  have := make_D false k hs (by have := P2000_big2; omega) hT
  rw [e] at this
  refine this.mono ?_
  rintro r w' ⟨v, er, rfl, hF⟩
  obtain ⟨rfl, hD⟩ := hF.yes ((bd_pw h0 h1).ok (by omega))
  exact ⟨v, rfl, hD⟩
theorem scale_back {A C B k : Int} (h0 : -5000 < k) (h1 : k < 5000) (hC : C * 2 ^ 4194304 = A * pw k) (hB : B * 2 ^ 4194304 = C * pw (-k)) : B = A := by
  have e : pw k * pw (-k) = 2 ^ 4194304 * 2 ^ 4194304 := by
    rw [pw_mul (by omega) (by omega), show k + -k = 0 by omega]
    congr 1
  refine scale_inj (scale_inj ?_)
  rw [hB, Int.mul_assoc, Int.mul_comm (pw (-k)), ← Int.mul_assoc, hC, Int.mul_assoc, e, Int.mul_assoc]
end Go.Proofs.YtnhkagiionkjaaaGreatDoor

/-
  plumblaw3.is: an answer of a number and an error, as the document says, by its contract; a number that is lent.
-/
namespace Go.Proofs.YtnhkagiionkjaaaGreatDoor
open Go Go.RowKit Go.Proofs.YtnhkagiionkjaaaGreatDoor.M
set_option linter.unusedSimpArgs false
set_option linter.unusedVariables false

/-- A number that was answered, its list from B on. -/
def DAn (B : Nat) (w : World) (V : Int) (v : Value) : Prop := ∃ ng s m e, v = .agg #[.bool ng, s, .int .i64 e] ∧ Dy V ng m e ∧ An B w s m
/-- A number that is read, whatever is kept besides. -/
def DRd (B : Nat) (w : World) (V : Int) (v : Value) : Prop := ∃ ng so sn sc d e, v = .agg #[.bool ng, .slice so sn sc, .int .i64 e] ∧ Dy V ng (val d sn) e ∧ Nrm d sn ∧ Rd B w so sn sc d
/-- A number or ErrLong. -/
def DFitA (B : Nat) (w : World) (V : Int) (v : Value) (er : Int) : Prop := (Dok V ∧ er = 0 ∧ DAn B w V v) ∨ (¬ Dok V ∧ er = 2 ∧ v = zeroV)
theorem DAns.dan {w w' : World} {V : Int} {v : Value} (h : DAns w w' V v) : DAn w.heap.size w' V v := by
  obtain ⟨ng, s, m, e, h1, h2, h3⟩ := h
  exact ⟨ng, s, m, e, h1, h2, h3.an⟩
theorem DFit.fitA {w w' : World} {V er : Int} {v : Value} (h : DFit w w' V v er) : DFitA w.heap.size w' V v er := by
  rcases h.2 with ⟨h1, h2, h3⟩ | h
  · exact .inl ⟨h1, h2, h3.dan⟩
  · exact .inr h
theorem DAns.fitA {w w' : World} {V : Int} {v : Value} (h : DAns w w' V v) (ok : Dok V) : DFitA w.heap.size w' V v 0 := .inl ⟨ok, rfl, h.dan⟩
theorem An.wr {B : Nat} {w w' : World} {v : Value} {V : Int} {g : Nat} (h : An B w v V) (hw : Wr g w w') (hg : g < B) : An B w' v V := by
  obtain ⟨t, d, h1, h2⟩ := h
  exact ⟨t, d, h1.of_block fun g' hg' => hw.block g' (h1.ge hg').2 (by have := (h1.ge hg').1; omega), h2⟩
theorem DAn.wr {B : Nat} {w w' : World} {v : Value} {V : Int} {g : Nat} (h : DAn B w V v) (hw : Wr g w w') (hg : g < B) : DAn B w' V v := by
  obtain ⟨ng, s, m, e, h1, h2, h3⟩ := h
  exact ⟨ng, s, m, e, h1, h2, h3.wr hw hg⟩
theorem DAn.ik {B B' : Nat} {w w' : World} {v : Value} {V : Int} (h : DAn B w V v) (k : Ik B' w w') : DAn B w' V v := by
  obtain ⟨ng, s, m, e, h1, h2, h3⟩ := h
  exact ⟨ng, s, m, e, h1, h2, h3.ik k⟩
theorem DAn.keeps {B : Nat} {w w' : World} {v : Value} {V : Int} (h : DAn B w V v) (k : Below w.heap.size w w') : DAn B w' V v := by
  obtain ⟨ng, s, m, e, h1, h2, h3⟩ := h
  exact ⟨ng, s, m, e, h1, h2, h3.keeps k⟩
theorem DAn.lower {B B' : Nat} {w : World} {v : Value} {V : Int} (h : DAn B w V v) (hB : B' ≤ B) : DAn B' w V v := by
  obtain ⟨ng, s, m, e, h1, h2, h3⟩ := h
  exact ⟨ng, s, m, e, h1, h2, h3.lower hB⟩
theorem DAn.num {B : Nat} {w : World} {v : Value} {V : Int} (h : DAn B w V v) : DNum w v V := by
  obtain ⟨ng, s, m, e, h1, h2, h3⟩ := h
  exact ⟨ng, s, m, e, h1, h2, h3.num⟩
theorem DFitA.wr {B : Nat} {w w' : World} {v : Value} {V er : Int} {g : Nat} (h : DFitA B w V v er) (hw : Wr g w w') (hg : g < B) : DFitA B w' V v er := by
  rcases h with ⟨h1, h2, h3⟩ | h
  · exact .inl ⟨h1, h2, h3.wr hw hg⟩
  · exact .inr h
theorem DFitA.ik {B B' : Nat} {w w' : World} {v : Value} {V er : Int} (h : DFitA B w V v er) (k : Ik B' w w') : DFitA B w' V v er := by
  rcases h with ⟨h1, h2, h3⟩ | h
  · exact .inl ⟨h1, h2, h3.ik k⟩
  · exact .inr h
theorem DFitA.keeps {B : Nat} {w w' : World} {v : Value} {V er : Int} (h : DFitA B w V v er) (k : Below w.heap.size w w') : DFitA B w' V v er := by
  rcases h with ⟨h1, h2, h3⟩ | h
  · exact .inl ⟨h1, h2, h3.keeps k⟩
  · exact .inr h
theorem DFitA.lower {B B' : Nat} {w : World} {v : Value} {V er : Int} (h : DFitA B w V v er) (hB : B' ≤ B) : DFitA B' w V v er := by
  rcases h with ⟨h1, h2, h3⟩ | h
  · exact .inl ⟨h1, h2, h3.lower hB⟩
  · exact .inr h
theorem DFitA.shape {B : Nat} {w : World} {v : Value} {V er : Int} (h : DFitA B w V v er) : ∃ ng so sn sc e, v = .agg #[.bool ng, .slice so sn sc, .int .i64 e] := by
  rcases h with ⟨_, _, ng, s, m, e, h1, _, h3⟩ | ⟨_, _, rfl⟩
  · obtain ⟨so, sn, sc, rfl⟩ := h3.shape
    exact ⟨_, _, _, _, _, h1⟩
  · exact ⟨_, _, _, _, _, rfl⟩
theorem DFitA.ge {B : Nat} {w : World} {ng : Bool} {so : Option Addr} {sn sc : Nat} {e V er : Int} (h : DFitA B w V (.agg #[.bool ng, .slice so sn sc, .int .i64 e]) er) : Lies (.slice so sn sc) B w.heap.size := by
  intro g hg
  rcases h with ⟨_, _, ng', s, m, e', h1, _, h3⟩ | ⟨_, _, h1⟩
  · simp only [Value.agg.injEq, Array.mk.injEq, List.cons.injEq, Value.bool.injEq, Value.int.injEq, and_true, true_and] at h1
    obtain ⟨_, h1, _⟩ := h1
    rw [← h1] at h3
    exact h3.ge hg
  · simp only [zeroV, Value.agg.injEq, Array.mk.injEq, List.cons.injEq, Value.bool.injEq, Value.int.injEq, Value.slice.injEq, and_true, true_and] at h1
    obtain ⟨_, ⟨rfl, _, _⟩, _⟩ := h1
    simp [Value.ownBlock] at hg
theorem DRd.ik {B : Nat} {w w' : World} {v : Value} {V : Int} (h : DRd B w V v) (k : Ik B w w') : DRd B w' V v := by
  obtain ⟨ng, so, sn, sc, d, e, h1, h2, h3, h4⟩ := h
  exact ⟨ng, so, sn, sc, d, e, h1, h2, h3, h4.ik k⟩
theorem DRd.num {B : Nat} {w : World} {v : Value} {V : Int} (h : DRd B w V v) : DNum w v V := by
  obtain ⟨ng, so, sn, sc, d, e, h1, h2, h3, h4⟩ := h
  exact ⟨ng, _, _, e, h1, h2, _, _, _, _, rfl, h4.row, h3, rfl⟩
theorem DRd.shape {B : Nat} {w : World} {v : Value} {V : Int} (h : DRd B w V v) : ∃ ng so sn sc e, v = .agg #[.bool ng, .slice so sn sc, .int .i64 e] := by
  obtain ⟨ng, so, sn, sc, d, e, h1, _⟩ := h
  exact ⟨_, _, _, _, _, h1⟩
theorem DAn.rd {B : Nat} {w : World} {v : Value} {V : Int} (h : DAn B w V v) : DRd B w V v := by
  obtain ⟨ng, s, m, e, h1, h2, t, d, hO, hN, rfl⟩ := h
  obtain ⟨so, sc, rfl, _⟩ := hO.row
  exact ⟨ng, so, t, sc, d, e, h1, h2, hN, hO.rd⟩
theorem DRd.zero (B : Nat) (w : World) : DRd B w 0 zeroV := ⟨false, none, 0, 0, fun _ => 0, 0, rfl, Dy.zero, ⟨fun i hi => by omega, .inl rfl⟩, fun w' _ => Row.nil _ _⟩
/-- An argument, as it is read. -/
theorem DRd.of0 {w0 w : World} {x : NumR} (h : Row w0 x.ao x.n x.cap x.d) (ok : okR x = true) (hb : Below w0.heap.size w0 w) : DRd w0.heap.size w x.V x.v :=
  ⟨_, _, _, _, _, _, rfl, (okR_dy ok).1, (okR_sane ok).1, Rd.of0 h hb⟩
theorem DAn.parts {B : Nat} {w : World} {ng : Bool} {so : Option Addr} {sn sc : Nat} {e V : Int} (h : DAn B w V (.agg #[.bool ng, .slice so sn sc, .int .i64 e])) : ∃ m, Dy V ng m e ∧ An B w (.slice so sn sc) m := by
  obtain ⟨ng', s, m, e', h1, h2, h3⟩ := h
  simp only [Value.agg.injEq, Array.mk.injEq, List.cons.injEq, Value.bool.injEq, Value.int.injEq, and_true, true_and] at h1
  obtain ⟨rfl, rfl, rfl⟩ := h1
  exact ⟨m, h2, h3⟩
theorem DRd.parts {B : Nat} {w : World} {ng : Bool} {so : Option Addr} {sn sc : Nat} {e V : Int} (h : DRd B w V (.agg #[.bool ng, .slice so sn sc, .int .i64 e])) : ∃ d, Dy V ng (val d sn) e ∧ Nrm d sn ∧ Rd B w so sn sc d := by
  obtain ⟨ng', so', sn', sc', d, e', h1, h2, h3, h4⟩ := h
  simp only [Value.agg.injEq, Array.mk.injEq, List.cons.injEq, Value.bool.injEq, Value.int.injEq, Value.slice.injEq, and_true, true_and] at h1
  obtain ⟨rfl, ⟨rfl, rfl, rfl⟩, rfl⟩ := h1
  exact ⟨d, h2, h3, h4⟩
/-- Keep.Add of a number's list and the document's own. -/
theorem keep_num {B k : Nat} {w : World} {S : Nat → Prop} {xg ng : Bool} {xo so : Option Addr} {xn xc sn sc : Nat} {xe e V : Int} (h : Kept B w k S) (hx : DAn B w V (.agg #[.bool xg, .slice xo xn xc, .int .i64 xe])) (hw : DRd B w V (.agg #[.bool ng, .slice so sn sc, .int .i64 e])) (ok : Dok V) (hB : B ≤ w.heap.size) (hap : ∀ g, (Value.slice xo xn xc).ownBlock = some g → ¬ S g) :
    Calls Tryz.prog 20 #[.pointer (some ⟨k, 0, none⟩), .slice xo xn xc, .slice so sn sc] w fun e w' => e = .returned (.bool true) ∧ Ik B w w' ∧ Kept B w' k (S2 S (.slice xo xn xc) w.heap.size) := by
  obtain ⟨m, h1, h2⟩ := hx.parts
  obtain ⟨d, h3, h4, h5⟩ := hw.parts
  obtain ⟨_, e2, _⟩ := h3.unique h1
  exact keep_rd h h2 h5 h4 e2 2000 (by decide) ((h1.ok.1 ok).1) hB hap
theorem keep_zero {B k : Nat} {w : World} {S : Nat → Prop} (h : Kept B w k S) (hB : B ≤ w.heap.size) :
    Calls Tryz.prog 20 #[.pointer (some ⟨k, 0, none⟩), .slice none 0 0, .slice none 0 0] w fun e w' => e = .returned (.bool true) ∧ Ik B w w' ∧ Kept B w' k (S2 S (.slice none 0 0) w.heap.size) :=
  keep_an h (An.nil _ _) (An.nil _ _) 1 (by decide) (by decide) hB (fun g hg => by simp [Value.ownBlock] at hg)
theorem Kept.s2 {B : Nat} {w : World} {k : Nat} {S : Nat → Prop} {l : Value} {s s' : Nat} (h : Kept B w k (S2 S l s')) (hs : s ≤ s') : Kept B w k (S2 S l s) := h.mono fun g hg => by
  rcases hg with h | h | h
  · exact .inl h
  · exact .inr (.inl h)
  · exact .inr (.inr (Nat.le_trans hs h))
theorem numblk_wr {g b : Nat} {w w' : World} (hw : Wr g w w') {cur xs : Array Value} {z z' : Nat × Nat} {t : TypeId} (hg : w.heap[g]? = some (.cells cur 3 z)) (ht : t ≠ 3) (hb : w.heap[b]? = some (.cells xs t z')) : w'.heap[b]? = some (.cells xs t z') := by
  refine (hw.block b (Array.getElem?_eq_some_iff.1 hb).1 fun e => ?_).trans hb
  subst e
  rw [hg] at hb
  simp at hb
  exact ht hb.2.1.symm
/-- The least exponent and the digits of a number that is told as valid. -/
theorem dok_lt {V : Int} {ng : Bool} {m e : Int} (hy : Dy V ng m e) (ok : Dok V) : m < P 2000 := (hy.ok.1 ok).1
set_option maxRecDepth 100000 in
set_option maxHeartbeats 1000000 in
theorem is_bad {k : Addr} {ng : Bool} {so : Option Addr} {sn sc : Nat} {e : Int} (w : World) :
    Calls Tryz.prog 24 #[.pointer (some k), zeroV, .int .i64 11, .bool true, .agg #[.bool ng, .slice so sn sc, .int .i64 e]] w fun r w' => r = .returned (.bool true) ∧ Below w.heap.size w w' := by
  unfold zeroV
  go_enter Tryz.func24, Tryz.ntmps24
  go_wp2_with fail
  refine (same_D (DNum.zero _) (DNum.zero _)).mono ?_
  rintro r w1 ⟨rfl, hb1⟩
  go_wp2
  go_ret
  exact ⟨ret_bool (by simp), bel_trans (bel_alloc2 _ _ _) hb1⟩
set_option maxRecDepth 100000 in
set_option maxHeartbeats 2000000 in
theorem is_any {B k : Nat} {w : World} {S : Nat → Prop} {xg : Bool} {xo : Option Addr} {xn xc : Nat} {xe er V : Int} {want : Value} (h : Kept B w k S) (hx : DFitA B w V (.agg #[.bool xg, .slice xo xn xc, .int .i64 xe]) er) (hw : DRd B w V want) (hB : B ≤ w.heap.size) (hap : ∀ g, (Value.slice xo xn xc).ownBlock = some g → ¬ S g) :
    Calls Tryz.prog 24 #[.pointer (some ⟨k, 0, none⟩), .agg #[.bool xg, .slice xo xn xc, .int .i64 xe], .int .i64 er, .bool false, want] w fun r w' => r = .returned (.bool true) ∧ Ik B w w' ∧ Kept B w' k (S2 S (.slice xo xn xc) w.heap.size) := by
  obtain ⟨ng, so, sn, sc, e, rfl⟩ := hw.shape
  have hb2 := bel_alloc2 w (.cells #[.bool xg, .slice xo xn xc, .int .i64 xe] 25) (.cells #[.bool ng, .slice so sn sc, .int .i64 e] 25)
  have g0 := heap_a2 w (.cells #[.bool xg, .slice xo xn xc, .int .i64 xe] 25) (.cells #[.bool ng, .slice so sn sc, .int .i64 e] 25)
  have I2 : Ik B w ((w.alloc (.cells #[.bool xg, .slice xo xn xc, .int .i64 xe] 25)).alloc (.cells #[.bool ng, .slice so sn sc, .int .i64 e] 25)) := Ik.of hb2 hB
  have HK : Hid (Kept B ((w.alloc (.cells #[.bool xg, .slice xo xn xc, .int .i64 xe] 25)).alloc (.cells #[.bool ng, .slice so sn sc, .int .i64 e] 25)) k S) := h.keeps hb2
  have HA : Hid (∀ g, (Value.slice xo xn xc).ownBlock = some g → ¬ S g) := hap
  have HX := hx.ik I2
  have HW := hw.ik I2
  clear h hap hx hw
  go_enter Tryz.func24, Tryz.ntmps24
  go_wp2_with fail
  generalize (w.alloc (.cells #[.bool xg, .slice xo xn xc, .int .i64 xe] 25)).alloc (.cells #[.bool ng, .slice so sn sc, .int .i64 e] 25) = wx at hb2 g0 I2 HK HX HW ⊢
  refine (ranswer_D HW.num).mono ?_
  rintro r w1 ⟨v', er', rfl, hb1, hor⟩
  have hB1 : B ≤ wx.heap.size := Nat.le_trans hB hb2.size
  have I1 : Ik B wx w1 := Ik.of hb1 hB1
  replace HX := HX.ik I1
  replace HW := HW.ik I1
  replace I2 := I2.trans I1
  have HK1 : Hid (Kept B w1 k S) := HK.out.keeps hb1
  have hs1 : w.heap.size ≤ w1.heap.size := Nat.le_trans hb2.size hb1.size
  replace g0 := (hb1.block _ (Array.getElem?_eq_some_iff.1 g0).1).trans g0
  clear HK I1 hb1 hb2
  rcases HX with ⟨ok, rfl, hD⟩ | ⟨no, rfl, hz⟩
  · rcases hor with ⟨_, rfl, rfl, _⟩ | ⟨no, _⟩
    · have t0 := heap_past (.cells #[.bool ng, .slice so sn sc, .int .i64 e] 25) g0
      have t1 := heap_a1 w1 (.cells #[.bool ng, .slice so sn sc, .int .i64 e] 25)
      have f0 := blkC t0 0 rfl
      have f1 := blkC t0 1 rfl
      have f2 := blkC t0 2 rfl
      have hba := bel_alloc w1 (.cells #[.bool ng, .slice so sn sc, .int .i64 e] 25)
      have hB2 : B ≤ w1.heap.size := Nat.le_trans hB hs1
      have I3 := I2.trans (Ik.of hba hB2)
      have HK2 : Hid (Kept B (w1.alloc (.cells #[.bool ng, .slice so sn sc, .int .i64 e] 25)) k S) := HK1.out.keeps hba
      have hs2 : w.heap.size ≤ (w1.alloc (.cells #[.bool ng, .slice so sn sc, .int .i64 e] 25)).heap.size := Nat.le_trans hs1 hba.size
      have HX2 := hD.ik (Ik.of hba hB2)
      have HW2 := HW.ik (Ik.of hba hB2)
      go_wp2_with fail
      clear f0 f1 f2
      generalize w1.alloc (.cells #[.bool ng, .slice so sn sc, .int .i64 e] 25) = w2 at *
      refine (sameD_yes HX2.num HW2.num).mono ?_
      rintro r w3 ⟨rfl, hb3⟩
      have t0' := (hb3.block _ (Array.getElem?_eq_some_iff.1 t0).1).trans t0
      have t1' := (hb3.block _ (Array.getElem?_eq_some_iff.1 t1).1).trans t1
      have f1 := blkC t0' 1 rfl
      have f2 := blkC t1' 1 rfl
      have hB3 : B ≤ w2.heap.size := Nat.le_trans hB hs2
      have I4 := Ik.of hb3 hB3
      go_wp2_with fail
      refine (keep_num (HK2.out.keeps hb3) (HX2.ik I4) (HW2.ik I4) ok (Nat.le_trans hB3 hb3.size) HA.out).mono ?_
      rintro r w4 ⟨rfl, I5, hk5⟩
      go_wp2
      go_ret
      exact ⟨rfl, (I3.trans I4).trans I5, hk5.s2 (Nat.le_trans hs2 hb3.size)⟩
    · exact absurd ok no
  · obtain ⟨rfl, rfl, rfl, rfl, rfl⟩ : xg = false ∧ xo = none ∧ xn = 0 ∧ xc = 0 ∧ xe = 0 := by
      simp only [zeroV, Value.agg.injEq, Array.mk.injEq, List.cons.injEq, Value.bool.injEq, Value.int.injEq, Value.slice.injEq, and_true, true_and] at hz
      exact ⟨hz.1, hz.2.1.1, hz.2.1.2.1, hz.2.1.2.2, hz.2.2⟩
    clear hz
    rcases hor with ⟨ok, _⟩ | ⟨_, rfl, hv⟩
    · exact absurd ok no
    · obtain rfl : v' = .agg #[.bool false, .slice none 0 0, .int .i64 0] := hv
      have t0 := heap_past (.cells #[.bool false, .slice none 0 0, .int .i64 0] 25) g0
      have t1 := heap_a1 w1 (.cells #[.bool false, .slice none 0 0, .int .i64 0] 25)
      have f0 := blkC t0 0 rfl
      have f1 := blkC t0 1 rfl
      have f2 := blkC t0 2 rfl
      have hba := bel_alloc w1 (.cells #[.bool false, .slice none 0 0, .int .i64 0] 25)
      have hB2 : B ≤ w1.heap.size := Nat.le_trans hB hs1
      have I3 := I2.trans (Ik.of hba hB2)
      have HK2 : Hid (Kept B (w1.alloc (.cells #[.bool false, .slice none 0 0, .int .i64 0] 25)) k S) := HK1.out.keeps hba
      have hs2 : w.heap.size ≤ (w1.alloc (.cells #[.bool false, .slice none 0 0, .int .i64 0] 25)).heap.size := Nat.le_trans hs1 hba.size
      go_wp2_with fail
      clear f0 f1 f2
      generalize w1.alloc (.cells #[.bool false, .slice none 0 0, .int .i64 0] 25) = w2 at *
      refine (sameD_yes (DNum.zero _) (DNum.zero _)).mono ?_
      rintro r w3 ⟨rfl, hb3⟩
      have t0' := (hb3.block _ (Array.getElem?_eq_some_iff.1 t0).1).trans t0
      have t1' := (hb3.block _ (Array.getElem?_eq_some_iff.1 t1).1).trans t1
      have f1 := blkC t0' 1 rfl
      have f2 := blkC t1' 1 rfl
      have hB3 : B ≤ w2.heap.size := Nat.le_trans hB hs2
      have I4 := Ik.of hb3 hB3
      go_wp2_with fail
      refine (keep_zero (HK2.out.keeps hb3) (Nat.le_trans hB3 hb3.size)).mono ?_
      rintro r w4 ⟨rfl, I5, hk5⟩
      go_wp2
      go_ret
      exact ⟨rfl, (I3.trans I4).trans I5, hk5.s2 (Nat.le_trans hs2 hb3.size)⟩
end Go.Proofs.YtnhkagiionkjaaaGreatDoor

/-
  plumblaw3.lent: a number in memory of its own, by its contract.
-/
namespace Go.Proofs.YtnhkagiionkjaaaGreatDoor
open Go Go.RowKit Go.Proofs.YtnhkagiionkjaaaGreatDoor.M
set_option linter.unusedSimpArgs false
set_option linter.unusedVariables false

theorem Out.set_num {B : Nat} {w : World} {x : Value} {n : Nat} {d : Nat → Int} (h : Out B w x n d) {g : Nat} {xs : Array Value} {z : Nat × Nat} (hg : w.heap[g]? = some (.cells xs 25 z)) (o : Nat) (u : Value) : Out B (w.setCell ⟨g, o, none⟩ u) x n d :=
  h.of_block fun g' hg' => Below.heap_setCell _ _ _ _ fun he => by
    change g' = g at he
    subst he
    obtain ⟨cur, z', hc⟩ := h.typed hg'
    rw [hg] at hc
    simp at hc
set_option maxRecDepth 100000 in
set_option maxHeartbeats 1000000 in
theorem lent3_any (x : NumR) (w : World) (h : Row w x.ao x.n x.cap x.d) (hn : x.n ≤ 100000) :
    Calls Tryz.prog 27 #[x.v] w fun r w' => ∃ g cap, r = .returned (.tuple #[.slice (some ⟨g, 0, none⟩) (x.n + 3) cap, .agg #[.bool x.ng, .slice (some ⟨g, 0, none⟩) x.n cap, .int .i64 x.e]]) ∧ Out w.heap.size w' (.slice (some ⟨g, 0, none⟩) (x.n + 3) cap) (x.n + 3) (lentD x.d x.n) ∧ Below w.heap.size w w' := by
  have hm := h.max
  have hl := h.le
  obtain ⟨ng, ao, n, ca, d, e⟩ := x
  unfold NumR.v
  simp only at *
  go_enter Tryz.func27, Tryz.ntmps27
  go_wp2_with fail
  have hb2 := bel_alloc2 w (.cells #[.bool ng, .slice ao n ca, .int .i64 e] 25) (.cells #[.bool false, .slice none 0 0, .int .i64 0] 25)
  have g0 := heap_a2 w (.cells #[.bool ng, .slice ao n ca, .int .i64 e] 25) (.cells #[.bool false, .slice none 0 0, .int .i64 0] 25)
  have g1 := heap_b2 w (.cells #[.bool ng, .slice ao n ca, .int .i64 e] 25) (.cells #[.bool false, .slice none 0 0, .int .i64 0] 25)
  have hR := h.keeps hb2
  have hsz := size2 w (.cells #[.bool ng, .slice ao n ca, .int .i64 e] 25) (.cells #[.bool false, .slice none 0 0, .int .i64 0] 25)
  generalize (w.alloc (.cells #[.bool ng, .slice ao n ca, .int .i64 e] 25)).alloc (.cells #[.bool false, .slice none 0 0, .int .i64 0] 25) = wx at hb2 g0 g1 hR hsz ⊢
  refine (lent_any ao n ca d _ hR hn).mono ?_
  rintro r w1 ⟨v, rfl, hL⟩
  have hb1 := hL.below
  obtain ⟨g, cap, rfl, hO⟩ := hL.parts
  obtain ⟨c1, c2⟩ := lent_cap hO
  have HO : Hid (Out wx.heap.size w1 (.slice (some ⟨g, 0, none⟩) (n + 3) cap) (n + 3) (lentD d n)) := hO
  replace g0 := (hb1.block _ (Array.getElem?_eq_some_iff.1 g0).1).trans g0
  replace g1 := (hb1.block _ (Array.getElem?_eq_some_iff.1 g1).1).trans g1
  have k0 := blkC g0 0 rfl
  have k1 := blkC g0 1 rfl
  have k2 := blkC g0 2 rfl
  have x0 := blkC g1 0 rfl
  have x1 := blkC g1 1 rfl
  have x2 := blkC g1 2 rfl
  have z0 := blkF g1 0
  have z1 := blkF g1 1
  have z2 := blkF g1 2
  clear hO hL
  have c3 : n ≤ cap := by omega
  have c4 : (n : Int) ≤ (cap : Int) := by omega
  have c5 : (0 : Int) ≤ (n : Int) := by omega
  have c6 : ¬ (n : Int) < 0 := by omega
  have c7 : ¬ (cap : Int) < (n : Int) := by omega
  go_wp2
  go_region_held3 (fun W => W.cell? ⟨w.heap.size, 0, none⟩ = some (.bool ng) ∧ W.cell? ⟨w.heap.size, 1, none⟩ = some (.slice ao n ca) ∧ W.cell? ⟨w.heap.size, 2, none⟩ = some (.int .i64 e))
    (first | assumption | exact ⟨k0, k1, k2⟩ | exact keepS (W := w1.drew) ⟨k0, k1, k2⟩ (by omega) _ _ _)
    (fail)
  all_goals go_wp2
  refine bodyPost_ret (v := .tuple #[.slice (some ⟨g, 0, none⟩) (n + 3) cap, .agg #[.bool ng, .slice (some ⟨g, 0, none⟩) n cap, .int .i64 e]]) (by simp [results, Tryz.results27, go_sem, x0, x1, x2]) rfl ⟨g, cap, rfl, ?_, ?_⟩
  · exact (((HO.out.set_below (a := ⟨w.heap.size + 1, 0, none⟩) (by show w.heap.size + 1 < _; omega) (.bool ng)).set_below (a := ⟨w.heap.size + 1, 1, none⟩) (by show w.heap.size + 1 < _; omega) (.slice (some ⟨g, 0, none⟩) n cap)).set_below (a := ⟨w.heap.size + 1, 2, none⟩) (by show w.heap.size + 1 < _; omega) (.int .i64 e)).lower hb2.size
  · exact (bel_set3 (g := w.heap.size + 1) (bel_trans hb2 hb1) (by omega) (.bool ng) (.slice (some ⟨g, 0, none⟩) n cap) (.int .i64 e)).drew
end Go.Proofs.YtnhkagiionkjaaaGreatDoor

/-
  Package dyadic: Sum, by its contract.
-/
namespace Go.Proofs.YtnhkagiionkjaaaGreatDoor
open Go Go.RowKit Go.Proofs.YtnhkagiionkjaaaGreatDoor.M
set_option linter.unusedSimpArgs false
set_option linter.unusedVariables false

theorem allOk_out {r : Nat → NumR} {n : Nat} (h : allOk r n = true) : ∀ i, i < n → okR (r i) = true := of_decide_eq_true h
set_option maxRecDepth 100000 in
set_option maxHeartbeats 1000000 in
theorem sum1_any (ao : Option Addr) (n cap : Nat) (r : Nat → NumR) (p : Addr) (w : World) (c : w.cell? p = some (.slice ao n cap)) (h : Nums w ao n cap r) (hs : ∀ i, i < n → Sane (r i)) (hn : n ≤ 100000) (hT : Tab w) :
    Calls Tryz.prog 83 #[.pointer (some p)] w (DOut w (sumV r n)) := by
  have hb := bel_alloc w (.cells #[.bool false, .slice none 0 0, .int .i64 0] 25)
  have k0 := cell_keeps c hb
  go_enter Tryz.func83, Tryz.ntmps83
  go_wp2_with fail
  refine (total_any _ _ _ _ _ (h.keeps hb) hs hn (hT.keeps hb)).mono ?_
  rintro x w7 (⟨hok, v, rfl, hD⟩ | ⟨hno, rfl, hb7⟩)
  · have hb7 := hD.below
    obtain ⟨ng', s', m', e', rfl, hyy, hA2⟩ := id hD
    obtain ⟨so', sn', sc', rfl⟩ := hA2.num.shape
    have q0 := (hb7.block w.heap.size (by rw [size1]; omega)).trans (heap_a1 _ _)
    have x0 := blkC q0 0 rfl
    have x1 := blkC q0 1 rfl
    have x2 := blkC q0 2 rfl
    have z0 := blkF q0 0
    have z1 := blkF q0 1
    have z2 := blkF q0 2
    go_wp2
    refine bodyPost_ret (v := .agg #[.bool ng', .slice so' sn' sc', .int .i64 e']) (by simp [results, Tryz.results83, go_sem, x0, x1, x2]) rfl ?_
    exact .inl ⟨hok, _, rfl, dans_res3 (g := w.heap.size) hD hb (Nat.le_refl _) (by rw [size1]; omega) _ _ _⟩
  · exact ⟨rfl, .inr ⟨hno, rfl, bel_trans hb hb7⟩⟩
set_option maxRecDepth 100000 in
set_option maxHeartbeats 1000000 in
theorem dsum_bad (ao : Option Addr) (n cap : Nat) (r : Nat → NumR) (w : World) (h : Nums w ao n cap r) (ok : allOk r n = false) :
    Calls Tryz.prog 44 #[.slice ao n cap] w fun x w' => x = .returned (.tuple #[zeroV, .int .i64 11]) ∧ Below w.heap.size w w' := by
  have hmf : ∀ (fn : Fn) (first cap : Array Value) (w : World), (Instr.makeFunc fn first cap).run Tryz.prog w = .ok (.func fn first cap) w := fun _ _ _ _ => rfl
  go_enter Tryz.func44, Tryz.ntmps44
  go_wp2_with fail
  refine (dvalids_any _ _ _ _ _ (h.keeps (bel_alloc2 _ _ _))).mono ?_
  rw [ok]
  rintro x w1 ⟨rfl, hb1⟩
  have q0 := (hb1.block (w.heap.size + 1) (by rw [size2]; omega)).trans (heap_b2 _ _ _)
  have x0 := blkC q0 0 rfl
  have x1 := blkC q0 1 rfl
  have x2 := blkC q0 2 rfl
  have z0 := blkF q0 0
  have z1 := blkF q0 1
  have z2 := blkF q0 2
  go_wp2
  refine bodyPost_ret (v := .tuple #[zeroV, .int .i64 11]) (by simp [results, Tryz.results44, go_sem, zeroV, x0, x1, x2]) rfl ⟨rfl, ?_⟩
  exact bel_set3 (bel_trans (bel_alloc2 _ _ _) hb1) (by omega) _ _ _
set_option maxRecDepth 100000 in
set_option maxHeartbeats 1000000 in
theorem dsum_ok (ao : Option Addr) (n cap : Nat) (r : Nat → NumR) (w : World) (h : Nums w ao n cap r) (ok : allOk r n = true) (hn : n ≤ 100000) (hT : Tab w) :
    Calls Tryz.prog 44 #[.slice ao n cap] w fun x w' => ∃ v er, x = .returned (.tuple #[v, .int .i64 er]) ∧ DFit w w' (sumV r n) v er := by
  have hmf : ∀ (fn : Fn) (first cap : Array Value) (w : World), (Instr.makeFunc fn first cap).run Tryz.prog w = .ok (.func fn first cap) w := fun _ _ _ _ => rfl
  have hE : ∀ (cap : Array Value) (w : World), (callFunc 83 cap).run Tryz.prog w = .ok (.enter 83 cap) w := by
    intro cap w
    simp [go_sem]
  have hs : ∀ i, i < n → Sane (r i) := fun i hi => okR_sane (allOk_out ok i hi)
  go_enter Tryz.func44, Tryz.ntmps44
  go_wp2_with fail
  refine (dvalids_any _ _ _ _ _ (h.keeps (bel_alloc2 _ _ _))).mono ?_
  rw [ok]
  rintro x w1 ⟨rfl, hb1⟩
  have hbw := bel_trans (bel_alloc2 w _ _) hb1
  have g0 := (hb1.block w.heap.size (by rw [size2]; omega)).trans (heap_a2 _ _ _)
  have g1 := (hb1.block (w.heap.size + 1) (by rw [size2]; omega)).trans (heap_b2 _ _ _)
  have hs2 : w.heap.size + 2 ≤ w1.heap.size := by have := hb1.size; rw [size2] at this; exact this
  go_wp2_with fail
  refine (told_any (V := sumV r n) (hE _) (fun W hW => sum1_any ao n cap r _ W (blkC ((hW.block _ (by omega)).trans g0) 0 rfl) (h.keeps (bel_trans hbw hW)) hs hn (hT.keeps (bel_trans hbw hW)))).mono ?_
  rintro x w2 ⟨v, er, rfl, hF⟩
  obtain ⟨ng', so, sn, sc, e', rfl⟩ := hF.shape
  have q0 := (hF.1.block (w.heap.size + 1) (by omega)).trans g1
  have x0 := blkC q0 0 rfl
  have x1 := blkC q0 1 rfl
  have x2 := blkC q0 2 rfl
  have z0 := blkF q0 0
  have z1 := blkF q0 1
  have z2 := blkF q0 2
  go_wp2
  refine bodyPost_ret (v := .tuple #[.agg #[.bool ng', .slice so sn sc, .int .i64 e'], .int .i64 er]) (by simp [results, Tryz.results44, go_sem, x0, x1, x2]) rfl ⟨_, _, rfl, ?_⟩
  exact dfit_res (g := w.heap.size + 1) hF hbw (by omega) (by omega) _ _ _
end Go.Proofs.YtnhkagiionkjaaaGreatDoor
