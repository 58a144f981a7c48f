/-
  Parts of the proof, one behind another.
-/
import Derived.Test.YtlmoeclfjogoaabDoorPart8
import Derived.Test.YtlmoeclfjogoaabDoorPart5
import Derived.Test.YtlmoeclfjogoaabDoorPart3
import Derived.Test.YtlmoeclfjogoaabDoorPart4
import Derived.Test.YtlmoeclfjogoaabDoorRows
import Derived.Test.YtlmoeclfjogoaabDoorPart1
import Derived.ProofKit
import Derived.OpenShut
import Derived.ChangeOld
import Derived.LaidMore
import Derived.Deep.Strs
import Derived.Lib.LaidTab
import Derived.MakeChecks
import Derived.Stop.LaidErr
import Derived.Test.YtlmoeclfjogoaabDoorPart6
import Derived.Test.YtlmoeclfjogoaabDoorPart7
/-
  Package plumblaw3: Norm, num, by contracts: a valid number of any one, not too great.
-/
namespace Go.Proofs.YtlmoeclfjogoaabDoor
open Go Go.RowKit Go.Proofs.YtlmoeclfjogoaabDoor.M
set_option linter.unusedSimpArgs false
set_option linter.unusedVariables false

set_option maxRecDepth 100000 in
set_option maxHeartbeats 2000000 in
theorem lnorm_any (x : NumR) (w : World) (h : Row w x.ao x.n x.cap x.d) (he : rng x.e) :
    Calls Tryd.prog 24 #[x.v, .int .i64 30, .int .i64 3000] w fun r w' => ∃ v M e, r = .returned v ∧ DAns w w' (sg x.ng M * pw e) v ∧ 0 ≤ M ∧ M < P 30 ∧ -3000 < e ∧ e < 3000 := by
  obtain ⟨ng, ao, n, cap, d, ex⟩ := x
  unfold NumR.v
  simp only at *
  unfold rng at he
  have hl := h.le
  have hm := h.max
  go_enter Tryd.func24, Tryd.ntmps24
  go_wp2_with fail
  have hbx := bel_alloc2 w (.cells #[.bool ng, .slice ao n cap, .int .i64 ex] 24) (.cells #[.bool false, .slice none 0 0, .int .i64 0] 24)
  have g0 := heap_a2 w (.cells #[.bool ng, .slice ao n cap, .int .i64 ex] 24) (.cells #[.bool false, .slice none 0 0, .int .i64 0] 24)
  have g1 := heap_b2 w (.cells #[.bool ng, .slice ao n cap, .int .i64 ex] 24) (.cells #[.bool false, .slice none 0 0, .int .i64 0] 24)
  have hsz := size2 w (.cells #[.bool ng, .slice ao n cap, .int .i64 ex] 24) (.cells #[.bool false, .slice none 0 0, .int .i64 0] 24)
  generalize (w.alloc (.cells #[.bool ng, .slice ao n cap, .int .i64 ex] 24)).alloc (.cells #[.bool false, .slice none 0 0, .int .i64 0] 24) = wx at hbx g0 g1 hsz ⊢
  have hx := h.keeps hbx
  go_loopw [7, 8] (fun v i wr => ∃ k : Nat, k ≤ n ∧ k ≤ 30 ∧ i = .int .i64 k ∧ Out wx.heap.size wr v k (fun i => d i % 1073741824) ∧ Below wx.heap.size wx wr) (fun _ i _ => n - (intOf i).toNat)
  case atStart => exact ⟨0, Nat.zero_le _, Nat.zero_le _, rfl, Out.nil _ _ _, bel_refl _⟩
  case round =>
    obtain ⟨k, hk, hkN, rfl, hO, hbw⟩ := hrel
    have q0 := (hbw.block w.heap.size (by omega)).trans g0
    have y0 := blkC q0 0 rfl
    have y1 := blkC q0 1 rfl
    have y2 := blkC q0 2 rfl
    by_cases hlt : k < n ∧ k < 30
    · obtain ⟨hlt, hltN⟩ := hlt
      obtain ⟨b, off, rfl, hb, hc⟩ := hx.spot (by omega)
      have c := (hbw.cell (p := ⟨b, off + k, none⟩) hb).trans (hc k hlt)
      have h30 := and_30 (d k)
      go_wp2_with (at_builtin; refine wpList_app rfl _ _ rfl wx.heap.size _ k _ rfl (hO.stays (bel_alloc _ _)) _ 1 1 (fun _ => d k % 1073741824) rfl (row1 _ _ rfl) (by omega) (by have := hbw.size; simp; omega) ?_; intro v' w1 hO1 hg1)
      have hb1 : Below wx.heap.size wx w1 := (hbw.alloc hbw.size _).grown hg1 (by have := hbw.size; simp; omega) (own_ge hO)
      go_roundw
      case rel => exact ⟨k + 1, by omega, by omega, by go_num, hO1.congr (fun i hi => cat_last (fun i => d i % 1073741824) k i hi), hb1⟩
      case measure => simp [intOf]; omega
    · obtain ⟨vo, vc, rfl, hR⟩ := hO.row
      have hlr := hR.le
      have hmr := hR.max
      have hfin : ∀ t, t ≤ k → (∀ i, t ≤ i → i < k → d i % 1073741824 = 0) → Dig (fun i => d i % 1073741824) t ∧ val (fun i => d i % 1073741824) t < P 30 := fun t ht _ => by
        have D : Dig (fun i => d i % 1073741824) t := fun i hi => mod_dig _
        exact ⟨D, Int.lt_of_lt_of_le (val_lt D) (P_le (by omega))⟩
      have HFIN := hfin
      have HF : Hid (∀ t, t ≤ k → (∀ i, t ≤ i → i < k → d i % 1073741824 = 0) → Dig (fun i => d i % 1073741824) t ∧ val (fun i => d i % 1073741824) t < P 30) := HFIN
      clear hfin HFIN
      have hmod : -3000 < ex.tmod 3000 ∧ ex.tmod 3000 < 3000 := by
        have h1 := Int.tmod_lt_of_pos ex (show (0 : Int) < 3000 by decide)
        have h2 := Int.tmod_lt_of_pos (-ex) (show (0 : Int) < 3000 by decide)
        rw [Int.neg_tmod] at h2
        omega
      have HD : Hid (-3000 < ex.tmod 3000 ∧ ex.tmod 3000 < 3000) := hmod
      clear hmod
      by_cases hlt2 : k < n
      all_goals
        go_wp2
        go_loop [7] (fun v => ∃ t : Nat, t ≤ k ∧ v = .slice vo t vc ∧ Hid (∀ i, t ≤ i → i < k → d i % 1073741824 = 0)) (fun v => lenOf v)
        case atStart => exact ⟨k, Nat.le_refl _, rfl, fun i a b => by omega⟩
        case round =>
          obtain ⟨t, ht, rfl, HZ⟩ := hrel
          by_cases h0 : t = 0
          · subst h0
            have hR0 : Row wr vo 0 vc (fun _ => 0) := ⟨Nat.zero_le _, hmr, hR.nl, fun h => by omega⟩
            go_wp2_with fail
            refine (rlow_any _ _ _ _ _ hR0 (fun i hi => by omega) (by omega)).mono ?_
            rintro r w1 ⟨l, rfl, hl, rfl⟩
            have hl1 : l = -1 := by
              rcases hl with ⟨_, h1⟩ | ⟨k, _, m, hm⟩
              · exact h1
              · exfalso
                have hm' : (0 : Int) = (2 * m + 1) * 2 ^ k := hm
                rcases Int.mul_eq_zero.1 hm'.symm with x | x
                · omega
                · have := two_pos k; omega
            subst hl1
            have p1 := (hbw.block (w.heap.size + 1) (by omega)).trans g1
            have x0 := blkC p1 0 rfl
            have x1 := blkC p1 1 rfl
            have x2 := blkC p1 2 rfl
            have z0 := blkF p1 0
            have z1 := blkF p1 1
            have z2 := blkF p1 2
            go_wp2
            refine bodyPost_ret (v := zeroV) (by simp [results, Tryd.results24, go_sem, zeroV, x0, x1, x2]) rfl ⟨_, 0, 0, rfl, ?_, by omega, P_pos _, by omega, by omega⟩
            rw [sg_zero, Int.zero_mul]
            exact DAns.zero (bel_set3 (bel_trans hbx hbw) (by omega) _ _ _)
          · obtain ⟨b, off, rfl, hb, hc⟩ := hR.spot (by omega)
            have c := hc (t - 1) (by omega)
            by_cases h1 : d (t - 1) % 1073741824 = 0
            · go_wp2
              go_round
              case rel => exact ⟨t - 1, by omega, rfl, fun i a b => by by_cases e : i = t - 1; (· rw [e]; exact h1); (· exact HZ.out i (by omega) b)⟩
              case measure => simp [lenOf]; omega
            · obtain ⟨D, hlt30⟩ := HF.out t ht HZ.out
              have hRt : Row wr (some ⟨b, off, none⟩) t vc (fun i => d i % 1073741824) := ⟨by omega, hmr, fun h => by simp at h, fun _ => ⟨b, off, rfl, hb, fun i hi => hc i (by omega)⟩⟩
              have hpos : 0 < val (fun i => d i % 1073741824) t := val_pos ⟨D, .inr h1⟩ (by omega)
              have HP : Hid (0 < val (fun i => d i % 1073741824) t ∧ val (fun i => d i % 1073741824) t < P 30) := ⟨hpos, hlt30⟩
              clear hpos hlt30
              go_wp2_with fail
              refine (rlow_any _ _ _ _ _ hRt D (by omega)).mono ?_
              rintro r w1 ⟨l, rfl, hl, rfl⟩
              have hl2 : ∃ j : Nat, l = j := by
                rcases hl with ⟨h1, _⟩ | ⟨j, h1, _⟩
                · have := HP.out.1; omega
                · exact ⟨j, h1⟩
              obtain ⟨j, rfl⟩ := hl2
              clear hl
              go_wp2_with fail
              have hD2 := HD.out
              generalize ex.tmod 3000 = ee at hD2 ⊢
              refine (rnorm_any ng (some ⟨b, off, none⟩) t vc _ ee _ hRt D (by omega) (by omega) (by omega)).mono ?_
              rintro r w3 ⟨v, rfl, hDD⟩
              obtain ⟨ng', s', m', e', rfl, hyy, hA2⟩ := id hDD
              obtain ⟨so', sn', sc', rfl⟩ := hA2.num.shape
              have p1 := ((bel_trans hbw hDD.below).block (w.heap.size + 1) (by omega)).trans g1
              have x0 := blkC p1 0 rfl
              have x1 := blkC p1 1 rfl
              have x2 := blkC p1 2 rfl
              have z0 := blkF p1 0
              have z1 := blkF p1 1
              have z2 := blkF p1 2
              go_wp2
              refine bodyPost_ret (v := .agg #[.bool ng', .slice so' sn' sc', .int .i64 e']) (by simp [results, Tryd.results24, go_sem, x0, x1, x2]) rfl ⟨_, _, _, rfl, dans_res3 (g := w.heap.size + 1) hDD (bel_trans hbx hbw) (by omega) (Nat.lt_of_lt_of_le (by omega) hbw.size) _ _ _, Int.le_of_lt HP.out.1, HP.out.2, hD2.1, hD2.2⟩
set_option maxRecDepth 100000 in
theorem num_any (x : NumR) (w : World) (h : Row w x.ao x.n x.cap x.d) (he : rng x.e) :
    Calls Tryd.prog 8 #[x.v] w fun r w' => ∃ v M e, r = .returned v ∧ DAns w w' (sg x.ng M * pw e) v ∧ 0 ≤ M ∧ M < P 30 ∧ -3000 < e ∧ e < 3000 := by
  have hC := fun W hb => lnorm_any x W (h.keeps hb) he
  obtain ⟨ng, ao, n, cap, d, ex⟩ := x
  unfold NumR.v at *
  simp only at *
  go_enter Tryd.func8, Tryd.ntmps8
  go_wp2_with fail
  refine (hC _ (bel_alloc2 _ _ _)).mono ?_
  rintro r w3 ⟨v, M, e, rfl, hDD, h1⟩
  obtain ⟨ng', s', m', e', rfl, hyy, hA2⟩ := id hDD
  obtain ⟨so', sn', sc', rfl⟩ := hA2.num.shape
  have p1 := (hDD.below.block (w.heap.size + 1) (by rw [size2]; omega)).trans (heap_b2 _ _ _)
  have x0 := blkC p1 0 rfl
  have x1 := blkC p1 1 rfl
  have x2 := blkC p1 2 rfl
  have z0 := blkF p1 0
  have z1 := blkF p1 1
  have z2 := blkF p1 2
  go_wp2
  refine bodyPost_ret (v := .agg #[.bool ng', .slice so' sn' sc', .int .i64 e']) (by simp [results, Tryd.results8, go_sem, x0, x1, x2]) rfl ⟨_, _, _, rfl, dans_res3 (g := w.heap.size + 1) hDD (bel_alloc2 _ _ _) (by omega) (by rw [size2]; omega) _ _ _, h1⟩
end Go.Proofs.YtlmoeclfjogoaabDoor

/-
  Plain mathematics: numbers that are not too great have a valid form. No Go text in sight.
-/
namespace Go.Proofs.YtlmoeclfjogoaabDoor
open Go Go.RowKit Go.Proofs.YtlmoeclfjogoaabDoor.M
set_option linter.unusedSimpArgs false
set_option linter.unusedVariables false

/-- V is a multiple of 2^-B, below 2^B, signs aside. -/
def Bd (B : Nat) (V : Int) : Prop := ∃ m : Int, V = m * pw (-(B : Int)) ∧ -(2 ^ (2 * B)) < m ∧ m < 2 ^ (2 * B)
theorem Bd.ok {B : Nat} {V : Int} (h : Bd B V) (hB : B ≤ 29000) : Dok V := by
  obtain ⟨m, rfl, h1, h2⟩ := h
  by_cases h0 : m = 0
  · rw [h0, Int.zero_mul]; exact dok_zero
  · have key : ∀ (ng : Bool) (M : Int), 0 < M → M < 2 ^ (2 * B) → Dok (sg ng M * pw (-(B : Int))) := fun ng M hM hlt => by
      obtain ⟨l, hl⟩ := isLow_ex hM
      have hy := Dy.of ng hl hM (show -4194304 ≤ -(B : Int) by omega)
      obtain ⟨c1, c2, c3⟩ := isLow_odd hl hM
      have hl2 : l < 2 * B := by
        have h3 : (1 : Int) * 2 ^ l ≤ M / 2 ^ l * 2 ^ l := Int.mul_le_mul_of_nonneg_right (by omega) (Int.le_of_lt (two_pos l))
        rw [c3] at h3
        exact two_lt_iff (by omega)
      refine hy.ok.2 ⟨?_, by omega, by omega⟩
      have h4 : M / 2 ^ l ≤ M := Int.ediv_le_self _ (by omega)
      have h5 : (2 : Int) ^ (2 * B) ≤ 2 ^ (30 * 2000) := two_le (by omega)
      rw [P_two]
      omega
    by_cases hp : 0 < m
    · exact key false m hp h2
    · have := key true (-m) (by omega) (by omega)
      rwa [show sg true (-m) = m by simp [sg]] at this
theorem Bd.up {B C : Nat} {V : Int} (h : Bd B V) (hBC : B ≤ C) (hC : C ≤ 4194304) : Bd C V := by
  obtain ⟨m, rfl, h1, h2⟩ := h
  have hp := two_pos (C - B)
  have e : pw (-(B : Int)) = pw (-(C : Int)) * 2 ^ (C - B) := by
    rw [← pw_add (by omega)]; congr 1; omega
  have hle : (2 : Int) ^ (2 * B) * 2 ^ (C - B) ≤ 2 ^ (2 * C) := by rw [← Int.pow_add]; exact two_le (by omega)
  refine ⟨m * 2 ^ (C - B), by rw [e]; grind, ?_, ?_⟩
  · have : -(2 ^ (2 * B)) * 2 ^ (C - B) < m * 2 ^ (C - B) := Int.mul_lt_mul_of_pos_right h1 hp
    rw [Int.neg_mul] at this
    omega
  · have := Int.mul_lt_mul_of_pos_right h2 hp
    omega
theorem Bd.add {B : Nat} {V W : Int} (h : Bd B V) (k : Bd B W) (hB : B < 4194304) : Bd (B + 1) (V + W) := by
  obtain ⟨m, rfl, h1, h2⟩ := h
  obtain ⟨n, rfl, k1, k2⟩ := k
  have e : pw (-(B : Int)) = pw (-((B + 1 : Nat) : Int)) * 2 := by
    have := pw_add (e := -((B + 1 : Nat) : Int)) (by omega) 1
    rw [Int.pow_succ, Int.pow_zero, Int.one_mul] at this
    rw [← this]; congr 1; omega
  have e2 : (2 : Int) ^ (2 * (B + 1)) = 2 ^ (2 * B) * 4 := by rw [show 2 * (B + 1) = 2 * B + 2 by omega, Int.pow_add]; rfl
  refine ⟨2 * (m + n), by rw [e]; grind, ?_, ?_⟩ <;> rw [e2] <;> omega
theorem Bd.neg {B : Nat} {V : Int} (h : Bd B V) : Bd B (-V) := by
  obtain ⟨m, rfl, h1, h2⟩ := h
  exact ⟨-m, by rw [Int.neg_mul], by omega, by omega⟩
theorem Bd.mul {B : Nat} {V W U : Int} (h : Bd B V) (k : Bd B W) (hU : U * 2 ^ 4194304 = V * W) (hB : B ≤ 1000000) : Bd (2 * B) U := by
  obtain ⟨m, rfl, h1, h2⟩ := h
  obtain ⟨n, rfl, k1, k2⟩ := k
  have e : U = m * n * pw (-((2 * B : Nat) : Int)) := by
    refine scale_inj ?_
    rw [hU, Int.mul_assoc (m * n), show -((2 * B : Nat) : Int) = -(B : Int) + -(B : Int) by omega, ← pw_mul (by omega) (by omega)]; grind
  refine ⟨m * n, e, ?_, ?_⟩
  all_goals
    have hab : (m * n).natAbs < ((2 : Int) ^ (2 * (2 * B))).natAbs := by
      rw [Int.natAbs_mul, show 2 * (2 * B) = 2 * B + 2 * B by omega, Int.pow_add, Int.natAbs_mul]
      exact Nat.mul_lt_mul'' (by have := two_pos (2 * B); omega) (by have := two_pos (2 * B); omega)
    have := two_pos (2 * (2 * B))
    omega
theorem bd_num {ng : Bool} {M e : Int} (h0 : 0 ≤ M) (h1 : M < P 30) (e0 : -3000 < e) (e1 : e < 3000) : Bd 4000 (sg ng M * pw e) := by
  have hs : pw e = pw (-((4000 : Nat) : Int)) * 2 ^ (e + 4000).toNat := by
    rw [← pw_add (by omega)]; congr 1; omega
  have hp := two_pos (e + 4000).toNat
  have hlt : M * 2 ^ (e + 4000).toNat < 2 ^ (2 * 4000) := by
    have a : M * 2 ^ (e + 4000).toNat < P 30 * 2 ^ (e + 4000).toNat := Int.mul_lt_mul_of_pos_right h1 hp
    rw [P_two, ← Int.pow_add] at a
    have b : (2 : Int) ^ (30 * 30 + (e + 4000).toNat) ≤ 2 ^ (2 * 4000) := two_le (by omega)
    omega
  have hn : 0 ≤ M * 2 ^ (e + 4000).toNat := Int.mul_nonneg h0 (Int.le_of_lt hp)
  refine ⟨sg ng (M * 2 ^ (e + 4000).toNat), by rw [hs, sg_sgn, sg_sgn]; grind, ?_, ?_⟩
  all_goals
    generalize M * 2 ^ (e + 4000).toNat = X at *
    generalize (2 : Int) ^ (2 * 4000) = T at *
    cases ng <;> simp only [sg] <;> simp <;> omega
end Go.Proofs.YtlmoeclfjogoaabDoor

/-
  What a row gives of its arguments: a slice of ints that came in, as the walks want it.
-/
namespace Go.Proofs.YtlmoeclfjogoaabDoor
open Go Go.ChangeShapes Go.WideShapes Go.ChangeAt Go.RowKit Go.Proofs.YtlmoeclfjogoaabDoor.M
set_option linter.unusedSimpArgs false
set_option linter.unusedVariables false

theorem rng_of {x : Int} (h : (Lit.int .i64 x).wf = true) : rng x := by
  simp [Lit.wf, IntKind.min, IntKind.max, IntKind.signed, IntKind.bits] at h
  unfold rng; omega
theorem row_of {H : Type} {enc : TypeId × Value → H} {W : World} {a : Option Addr} {len cap : Nat} {d : DataW H} {p : List MemPlace}
    (h0 : DataW.Trod enc Tryd.prog W 0 (fun _ => true) true 22 (.slice a len cap) d p) : ∃ z : Nat → Int, Row W a len cap z ∧ ∀ i, i < len → rng (z i) := by
  obtain ⟨fuel, hf⟩ := h0
  rcases open_ints Tryd.underlying22 Tryd.underlying3 (by kernel_rfl) hf with ⟨hcs, _⟩ | ⟨x, l, c, zs, hcs, _, hl, hm, hz, _, hcell, hwz⟩
  · simp [Value.cells] at hcs
    obtain ⟨rfl, rfl, rfl⟩ := hcs
    exact ⟨fun _ => 0, Row.nil _ _, fun i hi => by omega⟩
  · simp [Value.cells] at hcs
    obtain ⟨rfl, rfl, rfl⟩ := hcs
    have hz' : zs.length = cap := by simpa using hz
    refine ⟨fun i => zs.getD i 0, ⟨hl, by unfold maxLen at hm; exact hm, (fun e => by cases e), fun hn => ?_⟩, fun i hi => ?_⟩
    · obtain ⟨b, off, spot⟩ := x
      have hc := hcell 0 (by omega)
      have hspot : spot = none := by simpa [Addr.add] using World.cell?_spot hc
      subst hspot
      refine ⟨b, off, rfl, World.block_lt_of_cell? W _ (by simpa [Addr.add] using hc), fun i hi => ?_⟩
      rw [← add_none]; exact hcell i (by omega)
    · refine rng_of (hwz _ ?_)
      simp [List.getD, show i < zs.length by omega]
end Go.Proofs.YtlmoeclfjogoaabDoor

/-
  What a row's list gives: the library's table of trailing zeros.
-/
namespace Go.Proofs.YtlmoeclfjogoaabDoor
open Go Go.RowKit Go.ChangeShapes Go.Proofs.YtlmoeclfjogoaabDoor.M
set_option linter.unusedSimpArgs false
set_option linter.unusedVariables false

theorem gTab : Tryd.prog.globalNamed "math/bits.deBruijn64tab" = some 1 := by kernel_rfl
theorem gTabType : (Tryd.prog.globals[(1 : Nat)]?).map (·.type) = some 91 := by kernel_rfl
theorem cellsTab : Tryd.prog.cellsOf 91 = 64 := by kernel_rfl
theorem cellsByte : Tryd.prog.cellsOf 5 = 1 := by kernel_rfl
def tabInts : List Int := Lib.deBruijn64tab.map Int.ofNat
theorem tab_get : ∀ j, j < 64 → tabInts.getD j 0 = ((Lib.deBruijn64tab.getD j 0 : Nat) : Int) := by decide +kernel
theorem tab_of {W : World} (h : laidMetH Tryd.prog [("math/bits.deBruijn32tab", Rows.laid_math_bits_deBruijn32tab), ("math/bits.deBruijn64tab", Rows.laid_math_bits_deBruijn64tab)] W) : Tab W := by
  rw [MakeChecks.laidMetH_plain _ _ _ (by kernel_rfl)] at h
  have h' : laidMet Tryd.prog (("math/bits.deBruijn64tab", Lib.tabData .u8 tabInts) :: []) W := h.tail
  have t := Lib.tabIs_of_head gTab gTabType Tryd.underlying91 Tryd.underlying5 cellsByte cellsTab h'
  intro j hj
  rw [← tab_get j hj]
  exact t.cell gTab j (by exact hj)
end Go.Proofs.YtlmoeclfjogoaabDoor

/-
  What a row's list of package-level variables gives: the layouts' cells, and the cells of the library's table for b_trailing zeros.
-/
namespace Go.Proofs.YtlmoeclfjogoaabDoor
open Go Go.RowKit Go.ChangeShapes Go.Proofs.YtlmoeclfjogoaabDoor.M
set_option linter.unusedSimpArgs false
set_option linter.unusedVariables false

theorem b_rng_of {a : Int} (h : (Lit.int .i64 a).wf = true) : rng a := by
  simp [Lit.wf, IntKind.min, IntKind.max, IntKind.signed, IntKind.bits] at h
  unfold rng; omega
theorem cellsInt : Tryd.prog.cellsOf 3 = 1 := by kernel_rfl
theorem cellsLayout : Tryd.prog.cellsOf 78 = 3 := by kernel_rfl
theorem g64 : Tryd.prog.globalNamed "plumb/bits.binary64" = some 0 := by kernel_rfl
theorem g64Type : (Tryd.prog.globals[(0 : Nat)]?).map (·.type) = some 78 := by kernel_rfl
set_option maxRecDepth 100000 in
/-- A layout's three cells, off its reading. -/
theorem three {W : World} {name : String} {g : Nat} {a b c : Int} {rest : List (String × DataW Unit)} (hg : Tryd.prog.globalNamed name = some g) (hty : (Tryd.prog.globals[g]?).map (·.type) = some 78)
    (h : laidMet Tryd.prog ((name, .agg [.lit (.int .i64 a), .lit (.int .i64 b), .lit (.int .i64 c)]) :: rest) W) :
    W.cell? ⟨g, 0, none⟩ = some (.int .i64 a) ∧ W.cell? ⟨g, 1, none⟩ = some (.int .i64 b) ∧ W.cell? ⟨g, 2, none⟩ = some (.int .i64 c) := by
  obtain ⟨ps, ⟨g', t', cs, fuel, p, q, hg', ht', hvar, hd, _, _⟩, _⟩ := h
  obtain rfl := Option.some.inj (hg.symm.trans hg')
  obtain rfl := Option.some.inj (hty.symm.trans ht')
  obtain ⟨y0, y1, y2, n, hx, hl, h0, h1, h2⟩ := Go.Deep.trod_struct3 Tryd.underlying78 hd
  obtain ⟨k0, e0, f0, _⟩ := DataW.trod_int Tryd.underlying3 h0
  obtain ⟨k1, e1, f1, _⟩ := DataW.trod_int Tryd.underlying3 h1
  obtain ⟨k2, e2, f2, _⟩ := DataW.trod_int Tryd.underlying3 h2
  rw [f0, f1, f2] at hx
  simp only [Prod.mk.injEq, DataW.agg.injEq, List.cons.injEq, DataW.lit.injEq, Lit.int.injEq, true_and, and_true] at hx
  obtain ⟨⟨rfl, rfl, rfl⟩, _⟩ := hx
  rw [cellsLayout] at hl
  rw [cellsInt] at e0 e1 e2
  have v := fun i => World.var?_cell hg hvar i
  obtain ⟨l⟩ := cs
  simp only at hl e0 e1 e2
  match l, hl with
  | [c0, c1, c2], _ =>
    simp at e0 e1 e2
    subst e0 e1 e2
    exact ⟨by simpa using v 0, by simpa using v 1, by simpa using v 2⟩

end Go.Proofs.YtlmoeclfjogoaabDoor

/-
  What a row gives: a number that came in, as the walks want it; the library's table and the layout of binary64.
-/
namespace Go.Proofs.YtlmoeclfjogoaabDoor
open Go Go.ChangeShapes Go.WideShapes Go.ChangeAt Go.RowKit Go.Proofs.YtlmoeclfjogoaabDoor.M
set_option linter.unusedSimpArgs false
set_option linter.unusedVariables false

theorem cellsNum : Tryd.prog.cellsOf 24 = 3 := by kernel_rfl
theorem cellsB1 : Tryd.prog.cellsOf 4 = 1 := by kernel_rfl
theorem cellsS1 : Tryd.prog.cellsOf 22 = 1 := by kernel_rfl
theorem cellsI1 : Tryd.prog.cellsOf 3 = 1 := by kernel_rfl
set_option maxRecDepth 100000 in
/-- A number's cells, off its reading. -/
theorem num_cells {H : Type} {enc : TypeId × Value → H} {W : World} {n : Nat} {cs : List Value} {x : DataW H × List MemPlace}
    (h : DataW.trod enc Tryd.prog W 0 (fun _ => true) true n 24 cs = some x) :
    ∃ r : NumR, cs = [.bool r.ng, .slice r.ao r.n r.cap, .int .i64 r.e] ∧ Row W r.ao r.n r.cap r.d ∧ rng r.e := by
  obtain ⟨xs, m, _, rfl, hl, hlen, hf⟩ := DataW.trod_struct Tryd.underlying24 h
  rw [cellsNum] at hl
  match cs, hl with
  | [v0, v1, v2], _ =>
    match xs, hlen with
    | [y0, y1, y2], _ =>
      have f0 : DataW.trod enc Tryd.prog W 0 (fun _ => true) true m 4 (([v0, v1, v2].drop 0).take (Tryd.prog.cellsOf 4)) = some y0 := hf 0 _ rfl
      have f1 : DataW.trod enc Tryd.prog W 0 (fun _ => true) true m 22 (([v0, v1, v2].drop 1).take (Tryd.prog.cellsOf 22)) = some y1 := hf 1 _ rfl
      have f2 : DataW.trod enc Tryd.prog W 0 (fun _ => true) true m 3 (([v0, v1, v2].drop 2).take (Tryd.prog.cellsOf 3)) = some y2 := hf 2 _ rfl
      rw [cellsB1] at f0
      rw [cellsS1] at f1
      rw [cellsI1] at f2
      simp only [List.drop_zero, List.drop_succ_cons, List.take_succ_cons, List.take_zero] at f0 f1 f2
      obtain ⟨k0, e0, _, w0⟩ := DataW.trod_bool Tryd.underlying4 f0
      obtain ⟨k2, e2, _, w2⟩ := DataW.trod_int Tryd.underlying3 f2
      simp at e0 e2
      subst e0 e2
      rcases open_ints Tryd.underlying22 Tryd.underlying3 (by kernel_rfl) f1 with ⟨hcs, _⟩ | ⟨p, l, c, zs, hcs, _, hl', hm', hz, hx, hcell, hwz⟩
      · simp at hcs
        subst hcs
        exact ⟨⟨k0, none, 0, 0, fun _ => 0, k2⟩, rfl, Row.nil _ _, rng_of w2⟩
      · simp at hcs
        subst hcs
        obtain ⟨z, hR, _⟩ := row_of (enc := enc) (W := W) (a := some p) (len := l) (cap := c) (d := y1.1) (p := y1.2) ⟨m, by simpa [Value.cells] using f1⟩
        exact ⟨⟨k0, some p, l, c, z, k2⟩, rfl, hR, rng_of w2⟩
set_option maxRecDepth 100000 in
theorem num_of {H : Type} {enc : TypeId × Value → H} {W : World} {base : Nat} {v : Value} {d : DataW H} {p : List MemPlace} (hv : Value.okWide Tryd.prog W .any base 24 v)
    (h : DataW.Trod enc Tryd.prog W 0 (fun _ => true) true 24 v d p) : ∃ x : NumR, v = x.v ∧ Row W x.ao x.n x.cap x.d ∧ rng x.e := by
  obtain ⟨cs, rfl, hc⟩ := okWide_struct Tryd.underlying24 hv
  obtain ⟨fuel, hf⟩ := h
  obtain ⟨r, hr, h1, h2⟩ := num_cells hf
  refine ⟨r, ?_, h1, h2⟩
  show Value.agg cs = .agg #[.bool r.ng, .slice r.ao r.n r.cap, .int .i64 r.e]
  congr 1
  have : cs.toList = [.bool r.ng, .slice r.ao r.n r.cap, .int .i64 r.e] := by simpa [Value.cells] using hr
  exact Array.toList_inj.1 this
/-- What the laws want of the package's variables. -/
structure Hold (w : World) : Prop where
  lay : Lay64 w
  tab : Tab w
theorem Hold.keeps {w w' : World} (h : Hold w) (hb : Below w.heap.size w w') : Hold w' := ⟨h.lay.keeps hb, h.tab.keeps hb⟩
theorem hold_of {W : World} (h : laidMetH Tryd.prog [("math/bits.deBruijn32tab", Rows.laid_math_bits_deBruijn32tab), ("math/bits.deBruijn64tab", Rows.laid_math_bits_deBruijn64tab), ("plumb/bits.binary64", Rows.laid_plumb_bits_binary64)] W) : Hold W := by
  rw [MakeChecks.laidMetH_plain _ _ _ (by kernel_rfl)] at h
  have h' : laidMet Tryd.prog (("math/bits.deBruijn64tab", Lib.tabData .u8 tabInts) :: [("plumb/bits.binary64", Rows.laid_plumb_bits_binary64)]) W := h.tail
  have t := Lib.tabIs_of_head gTab gTabType Tryd.underlying91 Tryd.underlying5 cellsByte cellsTab h'
  obtain ⟨a0, a1, a2⟩ := three g64 g64Type h'.tail
  refine ⟨⟨a0, a1, a2⟩, fun j hj => ?_⟩
  rw [← tab_get j hj]
  exact t.cell gTab j (by exact hj)
end Go.Proofs.YtlmoeclfjogoaabDoor

/-
  Package dyadic's calls on numbers that are not too great: what they answer is told outright.
-/
namespace Go.Proofs.YtlmoeclfjogoaabDoor
open Go Go.RowKit Go.Proofs.YtlmoeclfjogoaabDoor.M
set_option linter.unusedSimpArgs false
set_option linter.unusedVariables false

theorem dans_shape {w w' : World} {V : Int} {v : Value} (h : DAns w w' V v) : ∃ ng so sn sc e, v = .agg #[.bool ng, .slice so sn sc, .int .i64 e] := by
  obtain ⟨ng, s, m, e, h1, _, hA⟩ := h
  obtain ⟨so, sn, sc, rfl⟩ := hA.num.shape
  exact ⟨_, _, _, _, _, h1⟩
theorem add_B {w : World} {x y : Value} {A B : Int} {k : Nat} (hx : DNum w x A) (hy : DNum w y B) (bA : Bd k A) (bB : Bd k B) (hk : k ≤ 28000) (hT : Tab w) :
    Calls Tryd.prog 12 #[x, y] w fun r w' => ∃ v, r = .returned (.tuple #[v, .int .i64 0]) ∧ DAns w w' (A + B) v := by
  refine (add_D hx hy (bA.ok (by omega)) (bB.ok (by omega)) hT).mono ?_
  rintro r w' ⟨v, er, rfl, hF⟩
  obtain ⟨rfl, hD⟩ := hF.yes ((bA.add bB (by omega)).ok (by omega))
  exact ⟨v, rfl, hD⟩
theorem sub_B {w : World} {x y : Value} {A B : Int} {k : Nat} (hx : DNum w x A) (hy : DNum w y B) (bA : Bd k A) (bB : Bd k B) (hk : k ≤ 28000) (hT : Tab w) :
    Calls Tryd.prog 10 #[x, y] w fun r w' => ∃ v, r = .returned (.tuple #[v, .int .i64 0]) ∧ DAns w w' (A - B) v := by
  refine (sub_D hx hy (bA.ok (by omega)) (bB.ok (by omega)) hT).mono ?_
  rintro r w' ⟨v, er, rfl, hF⟩
  have hb := bA.add bB.neg (by omega)
  rw [← Int.sub_eq_add_neg] at hb
  obtain ⟨rfl, hD⟩ := hF.yes (hb.ok (by omega))
  exact ⟨v, rfl, hD⟩
theorem mul_B {w : World} {x y : Value} {A B : Int} {k : Nat} (hx : DNum w x A) (hy : DNum w y B) (bA : Bd k A) (bB : Bd k B) (hk : k ≤ 14000) (hT : Tab w) :
    Calls Tryd.prog 13 #[x, y] w fun r w' => ∃ v C, r = .returned (.tuple #[v, .int .i64 0]) ∧ DAns w w' C v ∧ C * 2 ^ 4194304 = A * B ∧ Bd (2 * k) C := by
  refine (mul_D hx hy (bA.ok (by omega)) (bB.ok (by omega)) hT).mono ?_
  rintro r w' ⟨v, er, C, rfl, hC, hF⟩
  have hb := bA.mul bB hC (by omega)
  obtain ⟨rfl, hD⟩ := hF.yes (hb.ok (by omega))
  exact ⟨v, C, rfl, hD, hC, hb⟩
theorem num_B (x : NumR) (w : World) (h : Row w x.ao x.n x.cap x.d) (he : rng x.e) :
    Calls Tryd.prog 8 #[x.v] w fun r w' => ∃ v V, r = .returned v ∧ DAns w w' V v ∧ Bd 4000 V := by
  refine (num_any x w h he).mono ?_
  rintro r w' ⟨v, M, e, rfl, hD, h0, h1, e0, e1⟩
  exact ⟨v, _, rfl, hD, bd_num h0 h1 e0 e1⟩
theorem ord_swap (a b : Int) : ord b a = -ord a b := by
  rcases Int.lt_trichotomy a b with h | h | h
  · rw [ord_lt h, ord_gt h]; rfl
  · rw [ord_eq h, ord_eq h.symm]; rfl
  · rw [ord_gt h, ord_lt h]
theorem ord_sub (a b : Int) : ord (a - b) 0 = ord a b := by
  rcases Int.lt_trichotomy a b with h | h | h
  · rw [ord_lt h, ord_lt (by omega)]
  · rw [ord_eq h, ord_eq (by omega)]
  · rw [ord_gt h, ord_gt (by omega)]
theorem ord_add (a b c : Int) : ord (a + c) (b + c) = ord a b := by
  rcases Int.lt_trichotomy a b with h | h | h
  · rw [ord_lt h, ord_lt (by omega)]
  · rw [ord_eq h, ord_eq (by omega)]
  · rw [ord_gt h, ord_gt (by omega)]
theorem ord_mul (a b c : Int) : ord (a * c) (b * c) = ord a b * ord c 0 := by
  rcases Int.lt_trichotomy c 0 with h | h | h
  · have e : ∀ x : Int, x * c = -(x * -c) := fun x => by rw [Int.mul_neg, Int.neg_neg]
    rw [e a, e b, ord_neg, ord_scale (show 0 < -c by omega), ord_lt h]; omega
  · rw [h, Int.mul_zero, Int.mul_zero, ord_eq rfl, Int.mul_zero]
  · rw [ord_scale h, ord_gt h, Int.mul_one]
theorem ord_zero (a b : Int) : decide (a = b) = (ord a b == 0) := by
  rcases Int.lt_trichotomy a b with h | h | h
  · rw [ord_lt h, decide_eq_false (by omega)]; rfl
  · rw [ord_eq h, decide_eq_true h]; rfl
  · rw [ord_gt h, decide_eq_false (by omega)]; rfl
theorem ord_trans (a b c : Int) : 0 < ord a b ∨ 0 < ord b c ∨ ord a c ≤ 0 := by
  by_cases h1 : b < a
  · exact .inl (by rw [ord_gt h1]; decide)
  · by_cases h2 : c < b
    · exact .inr (.inl (by rw [ord_gt h2]; decide))
    · refine .inr (.inr ?_)
      by_cases h3 : a < c
      · rw [ord_lt h3]; decide
      · rw [ord_eq (by omega)]; decide
theorem bd_pw {k : Int} (h0 : -5000 < k) (h1 : k < 5000) : Bd 5001 (pw k) := by
  have e : pw k = pw (-((5001 : Nat) : Int)) * 2 ^ (k + 5001).toNat := by
    rw [← pw_add (by omega)]; congr 1; omega
  have hp := two_pos (k + 5001).toNat
  have hlt : (2 : Int) ^ (k + 5001).toNat < 2 ^ (2 * 5001) := two_lt (by omega)
  refine ⟨2 ^ (k + 5001).toNat, by rw [e, Int.mul_comm], ?_, hlt⟩
  have := two_pos (2 * 5001)
  omega
theorem scale_B {w : World} {x : Value} {A : Int} {K : Nat} (hx : DNum w x A) (bA : Bd K A) (hK : K ≤ 11000) (hK1 : 5001 ≤ K) (k : Int) (h0 : -5000 < k) (h1 : k < 5000) (hT : Tab w) :
    Calls Tryd.prog 16 #[x, .int .i64 k] w fun r w' => ∃ v C, r = .returned (.tuple #[v, .int .i64 0]) ∧ DAns w w' C v ∧ C * 2 ^ 4194304 = A * pw k ∧ Bd (2 * K) C := by
  refine (scale_D hx (bA.ok (by omega)) k (by omega) hT).mono ?_
  rintro r w' ⟨v, er, C, rfl, hC, hF⟩
  have hb := bA.mul ((bd_pw h0 h1).up hK1 (by omega)) hC (by omega)
  obtain ⟨rfl, hD⟩ := hF.yes (hb.ok (by omega))
  exact ⟨v, C, rfl, hD, hC, hb⟩
theorem make_B {w : World} {s : Value} (hs : Num w s 1) (k : Int) (h0 : -5000 < k) (h1 : k < 5000) (hT : Tab w) :
    Calls Tryd.prog 17 #[.bool false, s, .int .i64 k] w fun r w' => ∃ v, r = .returned (.tuple #[v, .int .i64 0]) ∧ DAns w w' (pw k) v := by
  have e : mkV false 1 k = pw k := by
    unfold mkV
    rw [if_neg (by decide), if_neg (by omega)]
    show 1 * pw k = pw k
    rw [Int.one_mul]
  have := make_D false k hs (by have := P2000_big2; omega) hT
  rw [e] at this
  refine this.mono ?_
  rintro r w' ⟨v, er, rfl, hF⟩
  obtain ⟨rfl, hD⟩ := hF.yes ((bd_pw h0 h1).ok (by omega))
  exact ⟨v, rfl, hD⟩
theorem scale_back {A C B k : Int} (h0 : -5000 < k) (h1 : k < 5000) (hC : C * 2 ^ 4194304 = A * pw k) (hB : B * 2 ^ 4194304 = C * pw (-k)) : B = A := by
  have e : pw k * pw (-k) = 2 ^ 4194304 * 2 ^ 4194304 := by
    rw [pw_mul (by omega) (by omega), show k + -k = 0 by omega]
    congr 1
  refine scale_inj (scale_inj ?_)
  rw [hB, Int.mul_assoc, Int.mul_comm (pw (-k)), ← Int.mul_assoc, hC, Int.mul_assoc, e, Int.mul_assoc]
end Go.Proofs.YtlmoeclfjogoaabDoor
