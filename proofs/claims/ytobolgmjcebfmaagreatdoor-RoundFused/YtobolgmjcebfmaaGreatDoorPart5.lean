/-
  Parts of the proof, one behind another.
-/
import Derived.Test.YtobolgmjcebfmaaGreatDoorPart4
import Derived.Test.YtobolgmjcebfmaaGreatDoorPart3
import Derived.Deep.OwnRows
import Derived.Deep.RegionWith
import Derived.Deep.CutRange
import Derived.Laws.CopyOwn
import Derived.WalkMore
import Derived.ScopeJumps
import Derived.Lib.BitFns
import Derived.Lib.TrailingZeros
import Derived.Laws.Bits64b
/-
  Package nat: takeOut (a divisor taken out of the highest digits as often as it goes), by its contract.
-/
namespace Go.Proofs.YtobolgmjcebfmaaGreatDoor
open Go Go.RowKit Go.Proofs.YtobolgmjcebfmaaGreatDoor.M
set_option linter.unusedSimpArgs false
set_option linter.unusedVariables false

theorem RowX.row {g : Nat} {w : World} {ao : Option Addr} {n cap : Nat} {d : Nat → Int} (h : RowX g w ao n cap d) (hn : 0 < n) : Row w ao n cap d :=
  ⟨h.le, h.max, (fun e => by obtain ⟨b, off, q, _⟩ := h.spot hn; rw [q] at e; cases e), fun _ => by
    obtain ⟨b, off, q, hlt, _, hc⟩ := h.spot hn
    exact ⟨b, off, q, hlt, hc⟩⟩
/-- What takeOut leaves: in the digits from at on a rest below V, t times V less. -/
def Tk (g N at_ M : Nat) (r : Nat → Int) (w w' : World) (U V t : Int) : Prop :=
  ∃ r', Blk w' g N r' ∧ (∀ i, i < at_ ∨ at_ + M < i → r' i = r i) ∧ Dig (fun i => r' (at_ + i)) (M + 1) ∧ U = t * V + val (fun i => r' (at_ + i)) (M + 1) ∧ val (fun i => r' (at_ + i)) (M + 1) < V ∧ 0 ≤ t ∧ t < 1073741824 ∧ Wr g w w'
theorem dig_upd {f : Nat → Int} {k : Nat} {x : Int} (h : Dig f k) (h0 : 0 ≤ x) (h1 : x < 1073741824) : Dig (upd f k x) (k + 1) := fun i hi => by
  by_cases e : i = k
  · rw [e, upd_same]; exact ⟨h0, h1⟩
  · rw [upd_other f x e]; exact h i (by omega)
theorem tk_end {R x p V : Int} (h0 : 0 ≤ R) (h1 : R < p) (hp : 0 < p) (hV : V < p) (h2 : 0 ≤ R + x * p) (h3 : R + x * p < V) : x = 0 := by
  rcases Int.lt_trichotomy x 0 with h | h | h
  · have : x * p ≤ -1 * p := mul_le_r (by omega) (by omega)
    omega
  · exact h
  · have : 1 * p ≤ x * p := mul_le_r (by omega) (by omega)
    omega
theorem Stp.facts {u v : Nat → Int} {L M : Nat} {U V : Int} (hM : M = L + 2) (h : Stp u v L U V) : Dig v M ∧ Dig u (M + 1) ∧ V = val v M ∧ U = val u M + u M * P M ∧ V < P M ∧ 0 ≤ U := by
  subst hM
  have e1 := h.eU
  have e2 := val_nonneg h.du
  have e3 := val_lt h.dv
  have e4 := h.eV
  refine ⟨h.dv, h.du, e4, ?_, by omega, by omega⟩
  rw [e1]; exact val_succ u (L + 2)
theorem Blk.cells {w : World} {g N : Nat} {r : Nat → Int} (h : Blk w g N r) {at_ n : Nat} (hn : at_ + n ≤ N) : ∀ i, i < n → w.cell? ⟨g, at_ + i, none⟩ = some (.int .i64 ((fun j => r (at_ + j)) i)) := fun i hi => h.cell (by omega)
set_option maxHeartbeats 4000000 in
theorem takeOut_any (g at_ N cu : Nat) (bo : Option Addr) (cb L M : Nat) (hM : M = L + 2) (r v : Nat → Int) (U V : Int) (w : World) (hB : Blk w g N r) (hb : RowX g w bo M cb v) (hat : at_ + M + 1 ≤ N) (hul : M + 1 ≤ cu) (hum : cu ≤ 1000000)
    (h : Stp (fun i => r (at_ + i)) v L U V) :
    Calls Tryz.prog 101 #[.slice (some ⟨g, at_, none⟩) (M + 1) cu, .slice bo M cb] w fun e w' => ∃ t, e = .returned (.int .i64 t) ∧ Tk g N at_ M r w w' U V t := by
  have hlb := hb.le
  have hmb := hb.max
  obtain ⟨dv, du, eV0, eU0, hVlt0, hU00⟩ := Stp.facts hM h
  have eV : Hid (V = val v M) := eV0
  have eU : Hid (U = val (fun i => r (at_ + i)) M + r (at_ + M) * P M) := eU0
  have hVlt : Hid (V < P M) := hVlt0
  have hU0 : Hid (0 ≤ U) := hU00
  clear eV0 eU0 hVlt0 hU00
  have hM2 : 2 ≤ M := by omega
  have hcs := hB.cells (at_ := at_) (n := L + 3) (by omega)
  have HM : Hid (M = L + 2) := hM
  clear hM
  obtain ⟨bb, fb, rfl, hbb, hbg, hcb⟩ := hb.spot (by omega)
  go_enter Tryz.func101, Tryz.ntmps101
  go_wp2_with fail
  refine (guess_any g at_ cu _ cb L M HM.out (fun i => r (at_ + i)) v U V w hcs hul hum (hb.row (by omega)) h).mono ?_
  rintro e w1 ⟨t, rfl, hG, hb1⟩
  have ht0 := hG.1
  have ht1 := hG.2.1
  have HG : Hid (Gs U V t) := hG
  have hB1 := hB.keeps hb1
  have hw1 : Wr g w w1 := wr_of hb1
  clear hG hb1 h hcs
  go_wp2
  go_loopw [7, 17] (fun c i wr => ∃ (k : Nat) (q : Int) (r' : Nat → Int), k ≤ M ∧ i = .int .i64 k ∧ c = .int .i64 q ∧ -1073741824 < q ∧ q ≤ 0 ∧ Blk wr g N r' ∧ Hid (∀ i, i < at_ ∨ at_ + k ≤ i → r' i = r i) ∧ Hid (Dig (fun i => r' (at_ + i)) k) ∧ Hid (val (fun i => r' (at_ + i)) k + q * P k = val (fun i => r (at_ + i)) k - t * val v k) ∧ Wr g w wr) (fun _ i _ => M - (intOf i).toNat)
  case atStart => exact ⟨0, 0, r, Nat.zero_le _, rfl, rfl, by omega, by omega, hB1, fun _ _ => rfl, fun i hi => by omega, by show _ = _; show (0 : Int) + 0 * 1 = 0 - t * 0; omega, hw1⟩
  case round =>
    clear hB1 hw1
    obtain ⟨k, q, r', hk, rfl, rfl, hq0, hq1, hBr, HS, HD, HV, hwr⟩ := hrel
    by_cases hlt : k < M
    · have c1 : wr.cell? ⟨g, at_ + k, none⟩ = some (.int .i64 (r (at_ + k))) := by rw [← HS.out (at_ + k) (by omega)]; exact hBr.cell (by omega)
      have f1 := hBr.frozen (at_ + k)
      have c2 := (hwr.cell (p := ⟨bb, fb + k, none⟩) hbb hbg).trans (hcb k hlt)
      have dk := du k (by omega)
      have dvk := dv k hlt
      have hmul := dig_mul ⟨ht0, ht1⟩ dvk
      have h30 := and_30 (q + (r (at_ + k) - t * v k))
      have dk' : 0 ≤ r (at_ + k) ∧ r (at_ + k) < 1073741824 := dk
      clear dk
      go_wp2
      go_quiet (fail)
      go_wp2
      have hs := sum_step (x := r (at_ + k) - t * v k) HV.out
      go_roundw
      case rel => exact ⟨k + 1, (q + (r (at_ + k) - t * v k)) / 1073741824, upd r' (at_ + k) ((q + (r (at_ + k) - t * v k)) % 1073741824), by omega, by go_num, rfl, by omega, by omega, (hBr.store (at_ + k) _), fun i hi => by rw [upd_other r' _ (by omega)]; exact HS.out i (by omega), by
          show Dig _ _
          rw [upd_shift]
          exact dig_upd HD.out (by omega) (by omega), by
          show _ = _
          rw [upd_shift, hs, val_succ, val_succ]; grind, (hwr.drewN _).setCell _ _⟩
      case measure => simp [intOf]; omega
    · obtain rfl : k = M := by omega
      have c1 : wr.cell? ⟨g, at_ + k, none⟩ = some (.int .i64 (r (at_ + k))) := by rw [← HS.out (at_ + k) (by omega)]; exact hBr.cell (by omega)
      have f1 := hBr.frozen (at_ + k)
      have hB2 := hBr.store (at_ + k) (r (at_ + k) + q)
      have hw2 := hwr.setCell (at_ + k) (.int .i64 (r (at_ + k) + q))
      have dk : 0 ≤ r (at_ + k) ∧ r (at_ + k) < 1073741824 := du k (by omega)
      have hR0 := val_nonneg HD.out
      have hR1 := val_lt HD.out
      have hkey : Hid (U - t * V = val (fun i => r' (at_ + i)) k + (r (at_ + k) + q) * P k) := by
        show _ = _
        rw [eU.out, eV.out, Int.add_mul]
        have := HV.out
        omega
      have pk := P_pos k
      by_cases hz : 0 ≤ r (at_ + k) + q
      · have hx : r (at_ + k) + q = 0 := by
          have a := hkey.out
          have b := HG.out.2.2.2
          rw [Int.add_mul, Int.one_mul] at b
          have c : 0 ≤ (r (at_ + k) + q) * P k := Int.mul_nonneg hz (by omega)
          exact tk_end hR0 hR1 pk hVlt.out (by omega) (by omega)
        have HX : Hid (r (at_ + k) + q = 0) := hx
        have HR : Hid (0 ≤ val (fun i => r' (at_ + i)) k ∧ val (fun i => r' (at_ + i)) k < P k) := ⟨hR0, hR1⟩
        clear hx hR0 hR1
        go_wp2
        go_ret
        refine ⟨t, rfl, upd r' (at_ + k) (r (at_ + k) + q), hB2, fun i hi => ?_, ?_, ?_, ?_, ht0, ht1, hw2⟩
        · rw [upd_other r' _ (by omega)]; exact HS.out i (by omega)
        · rw [upd_shift, HX.out]
          exact dig_upd HD.out (by omega) (by omega)
        · rw [upd_shift, val_succ, upd_same, val_upd_ge _ _ (Nat.le_refl _)]
          have := hkey.out
          omega
        · rw [upd_shift, val_succ, upd_same, val_upd_ge _ _ (Nat.le_refl _)]
          have a := hkey.out
          have b := HG.out.2.2.2
          rw [Int.add_mul, Int.one_mul] at b
          omega
      · have HR : Hid (0 ≤ val (fun i => r' (at_ + i)) k ∧ val (fun i => r' (at_ + i)) k < P k) := ⟨hR0, hR1⟩
        have hneg : Hid (U < t * V) := by
          show _ < _
          have a := hkey.out
          have c : (r (at_ + k) + q) * P k ≤ -1 * P k := mul_le_r (by omega) (by omega)
          omega
        have ht2 : 1 ≤ t := by
          rcases Int.lt_or_eq_of_le ht0 with e | e
          · omega
          · have a := hneg.out
            rw [← e] at a
            have := hU0.out
            omega
        clear hR0 hR1
        go_wp2
        go_loopw [9, 55] (fun c i wx => ∃ (j : Nat) (y : Int) (s : Nat → Int), j ≤ k ∧ i = .int .i64 j ∧ c = .int .i64 y ∧ 0 ≤ y ∧ y ≤ 1 ∧ Blk wx g N s ∧ Hid (∀ i, i < at_ ∨ at_ + j ≤ i → s i = upd r' (at_ + k) (r (at_ + k) + q) i) ∧ Hid (Dig (fun i => s (at_ + i)) j) ∧ Hid (val (fun i => s (at_ + i)) j + y * P j = val (fun i => r' (at_ + i)) j + val v j) ∧ Wr g w wx) (fun _ i _ => k - (intOf i).toNat)
        case atStart => exact ⟨0, 0, _, Nat.zero_le _, rfl, rfl, by omega, by omega, hB2, fun _ _ => rfl, fun i hi => by omega, by show _ = _; show (0 : Int) + 0 * 1 = 0 + 0; omega, hw2⟩
        case round =>
          clear c1 f1
          obtain ⟨j, y, s, hj, rfl, rfl, hy0, hy1, hBs, HSs, HDs, HVs, hws⟩ := hrel
          by_cases hjk : j < k
          · have c1 : wr.cell? ⟨g, at_ + j, none⟩ = some (.int .i64 (r' (at_ + j))) := by
              have e := HSs.out (at_ + j) (by omega)
              rw [upd_other r' _ (by omega)] at e
              rw [← e]; exact hBs.cell (by omega)
            have f1 := hBs.frozen (at_ + j)
            have c2 := (hws.cell (p := ⟨bb, fb + j, none⟩) hbb hbg).trans (hcb j hjk)
            have dj : 0 ≤ r' (at_ + j) ∧ r' (at_ + j) < 1073741824 := HD.out j hjk
            have dvj := dv j hjk
            have h30 := and_30 (y + (r' (at_ + j) + v j))
            go_wp2
            go_quiet (fail)
            go_wp2
            have hs := sum_step (x := r' (at_ + j) + v j) HVs.out
            go_roundw
            case rel => exact ⟨j + 1, (y + (r' (at_ + j) + v j)) / 1073741824, upd s (at_ + j) ((y + (r' (at_ + j) + v j)) % 1073741824), by omega, by go_num, rfl, by omega, by omega, (hBs.store (at_ + j) _), fun i hi => by rw [upd_other s _ (by omega)]; exact HSs.out i (by omega), by
                show Dig _ _
                rw [upd_shift]
                exact dig_upd HDs.out (by omega) (by omega), by
                show _ = _
                rw [upd_shift, hs, val_succ, val_succ]; grind, (hws.drewN _).setCell _ _⟩
            case measure => simp [intOf]; omega
          · obtain rfl : j = k := by omega
            have c1 : wr.cell? ⟨g, at_ + j, none⟩ = some (.int .i64 (r (at_ + j) + q)) := by
              have e := HSs.out (at_ + j) (by omega)
              rw [upd_same] at e
              rw [← e]; exact hBs.cell (by omega)
            have f1 := hBs.frozen (at_ + j)
            have hB3 := hBs.store (at_ + j) (r (at_ + j) + q + y)
            have hx : r (at_ + j) + q + y = 0 := by
              have a := hkey.out
              have b := HG.out.2.2.1
              have c := hneg.out
              have d := HVs.out
              have R0 := val_nonneg HDs.out
              have R1 := val_lt HDs.out
              rw [← eV.out] at d
              rw [Int.sub_mul] at b
              have e1 : (r (at_ + j) + q + y) * P j = (r (at_ + j) + q) * P j + y * P j := by rw [Int.add_mul]
              exact tk_end R0 R1 pk hVlt.out (by omega) (by omega)
            have HX : Hid (r (at_ + j) + q + y = 0) := hx
            clear hx
            go_wp2
            go_ret
            refine ⟨t - 1, rfl, upd s (at_ + j) (r (at_ + j) + q + y), hB3, fun i hi => ?_, ?_, ?_, ?_, by omega, by omega, hws.setCell _ _⟩
            · rw [upd_other s _ (by omega), HSs.out i (by omega), upd_other r' _ (by omega)]; exact HS.out i (by omega)
            · rw [upd_shift, HX.out]
              exact dig_upd HDs.out (by omega) (by omega)
            · rw [upd_shift, val_succ, upd_same, val_upd_ge _ _ (Nat.le_refl _), Int.sub_mul]
              have a := hkey.out
              have d := HVs.out
              rw [← eV.out] at d
              have e1 : (r (at_ + j) + q + y) * P j = (r (at_ + j) + q) * P j + y * P j := by rw [Int.add_mul]
              omega
            · rw [upd_shift, val_succ, upd_same, val_upd_ge _ _ (Nat.le_refl _)]
              have a := hkey.out
              have c := hneg.out
              have d := HVs.out
              rw [← eV.out] at d
              have e1 : (r (at_ + j) + q + y) * P j = (r (at_ + j) + q) * P j + y * P j := by rw [Int.add_mul]
              omega
end Go.Proofs.YtobolgmjcebfmaaGreatDoor

/-
  The statements' own helper digits: a valid list out of any ints, by its contract.
-/
namespace Go.Proofs.YtobolgmjcebfmaaGreatDoor
open Go Go.RowKit Go.Proofs.YtobolgmjcebfmaaGreatDoor.M
set_option linter.unusedSimpArgs false
set_option linter.unusedVariables false

theorem Out.cut {B : Nat} {w : World} {ao : Option Addr} {n cap m : Nat} {d : Nat → Int} (h : Out B w (.slice ao n cap) n d) (hm : m ≤ n) : Out B w (.slice ao m cap) m d := by
  refine ⟨by rw [vals_length]; omega, ?_⟩
  rcases h.2 with ⟨hn, h0⟩ | ⟨g, cap', cur, hv, hB, hg, hnc, hcm, hs, ht⟩
  · simp only [Value.slice.injEq] at hn
    obtain ⟨rfl, rfl, rfl⟩ := hn
    obtain rfl : m = 0 := by omega
    exact .inl ⟨rfl, rfl⟩
  · simp only [Value.slice.injEq] at hv
    obtain ⟨rfl, _, rfl⟩ := hv
    refine .inr ⟨g, cap, cur, rfl, hB, hg, by omega, hcm, hs, ?_⟩
    apply vals_ext (by simp; omega)
    intro i hi
    have e : (cur.toList.take (n * 1))[i]? = (vals d n)[i]? := by rw [ht]
    rw [List.getElem?_take, if_pos (by omega), vals_get d (by omega)] at e
    rw [List.getElem?_take, if_pos (by omega)]; exact e

end Go.Proofs.YtobolgmjcebfmaaGreatDoor

/-
  Package nat: what stands behind divide's statements; mathematics of long division's rounds.
-/
namespace Go.Proofs.YtobolgmjcebfmaaGreatDoor
open Go Go.RowKit Go.Proofs.YtobolgmjcebfmaaGreatDoor.M
set_option linter.unusedSimpArgs false
set_option linter.unusedVariables false

theorem bel_undrew {B : Nat} {a w : World} (h : Below B a.drew w) : Below B a w := ⟨h.os, h.tape, h.output, h.size, h.block⟩
theorem Row.drew {w : World} {ao : Option Addr} {n cap : Nat} {d : Nat → Int} (h : Row w ao n cap d) : Row w.drew ao n cap d := ⟨h.le, h.max, h.nl, h.spot⟩
theorem blk_make (w : World) (N : Nat) {g : Nat} (hg : g = w.heap.size) : Blk (w.alloc (.cells (madeCells #[.int .i64 0] N) 3)) g N (fun _ => 0) := by
  subst hg
  refine ⟨_, heap_alloc_new w _, by simp [madeCells], fun i hi => ?_⟩
  rw [← Array.getElem?_toList, toList_madeCells_one]; simp [hi]
/-- What stands behind 'rest, by := make([]int, len(a)+1), raise(b, shift)', in whatever order. -/
def Cut8 (w : World) (n : Nat) (V : Int) (sr sb : Value) (wx : World) : Prop :=
  ∃ g, sr = .slice (some ⟨g, 0, none⟩) (n + 1) (n + 1) ∧ w.heap.size ≤ g ∧ Blk wx g (n + 1) (fun _ => 0) ∧ Below w.heap.size w wx ∧ ∃ bo cb t v, sb = .slice bo t cb ∧ RowX g wx bo t cb v ∧ Nrm v t ∧ val v t = V
theorem cut8_a {w w2 w3 : World} {n : Nat} {V : Int} {v : Value} (b1 : Below w.heap.size w w2) (hv : Ans (w2.alloc (.cells (madeCells #[.int .i64 0] (n + 1)) 3)).drew w3 V v) :
    Cut8 w n V (.slice (some ⟨w2.heap.size, 0, none⟩) (n + 1) (n + 1)) v w3 := by
  have b2 : Below (w2.alloc (.cells (madeCells #[.int .i64 0] (n + 1)) 3)).heap.size (w2.alloc (.cells (madeCells #[.int .i64 0] (n + 1)) 3)) w3 := bel_undrew hv.below
  have hB := (blk_make w2 (n + 1) rfl).keeps b2
  obtain ⟨t, d, hO, hN, hV, _⟩ := hv
  obtain ⟨ao, cap, rfl, hR⟩ := hO.row
  refine ⟨_, rfl, b1.size, hB, bel_trans (bel_trans b1 (bel_alloc _ _)) b2, ao, cap, t, d, rfl, ⟨hR.le, hR.max, fun hn => ?_⟩, hN, hV⟩
  obtain ⟨b, off, rfl, hlt, hc⟩ := hR.spot hn
  obtain ⟨g, hg, hge, _⟩ := hO.spot hn
  simp only [Option.some.injEq, Addr.mk.injEq] at hg
  have e : (w2.alloc (.cells (madeCells #[.int .i64 0] (n + 1)) 3)).drew.heap.size = w2.heap.size + 1 := by show (w2.alloc _).heap.size = _; simp
  rw [e] at hge
  exact ⟨b, off, rfl, hlt, by omega, hc⟩
theorem cut8_b {w w2 w3 : World} {n : Nat} {V : Int} {v : Value} (b1 : Below w.heap.size w w2) (hv : Ans w2.drew w3 V v) {w4 : World} (e4 : w4 = w3.alloc (.cells (madeCells #[.int .i64 0] (n + 1)) 3)) :
    Cut8 w n V (.slice (some ⟨w3.heap.size, 0, none⟩) (n + 1) (n + 1)) v w4 := by
  subst e4
  have b2 : Below w2.heap.size w2 w3 := bel_undrew hv.below
  have b3 := bel_trans b1 b2
  obtain ⟨t, d, hO, hN, hV, _⟩ := hv
  obtain ⟨ao, cap, rfl, hR⟩ := hO.row
  refine ⟨_, rfl, b3.size, blk_make w3 (n + 1) rfl, bel_trans b3 (bel_alloc _ _), ao, cap, t, d, rfl, ⟨hR.le, hR.max, fun hn => ?_⟩, hN, hV⟩
  obtain ⟨b, off, rfl, hlt, hc⟩ := (hR.alloc _).spot hn
  obtain ⟨b', off', q, hlt', _⟩ := hR.spot hn
  simp only [Option.some.injEq, Addr.mk.injEq] at q
  exact ⟨b, off, rfl, hlt, by omega, hc⟩

/-- Digits laid over others. -/
def ov (e : Nat → Int) (m : Nat) (r : Nat → Int) : Nat → Int := fun i => if i < m then e i else r i
/-- 'copy(xs, ys)', xs a block of the call's own, ys not longer, not empty. -/
theorem wpList_cp {w : World} {ops : Array Oper} {rest : List Oper} {o : Oper} {a : Act} {Q : Exit → Act → World → Prop} (hgd : o.guard = none) (d s : Operand)
    (ho : o.op = .call { callee := .builtin .copy, args := #[d, s], argTypes := #[29, 29] }) (g N : Nat) (r : Nat → Int) (hd : a.eval d = .slice (some ⟨g, 0, none⟩) N N) (hB : Blk w g N r)
    (bo : Option Addr) (m cb : Nat) (e : Nat → Int) (hs : a.eval s = .slice bo m cb) (hR : Row w bo m cb e) (hm0 : 0 < m) (hmN : m ≤ N)
    (h : ∀ w', Blk w' g N (ov e m r) → Wr g w w' → wpList Tryz.prog ops Q rest (a.put o.dst (goInt m)) w') : wpList Tryz.prog ops Q (o :: rest) a w := by
  obtain ⟨b, off, rfl, hlt, hc⟩ := hR.spot hm0
  obtain ⟨cur, hg, hsz, hcur⟩ := hB
  have hl : (vals e m).length = m := vals_length e m
  refine wpList_copy_own hgd d s 29 29 ho 3 Tryz.underlying29 (by kernel_rfl) g 0 N N ⟨b, off, none⟩ m cb hd hs cur 3 hg (vals e m) (by rw [hl]; exact (Nat.min_eq_left hmN).symm) ?_ (by omega) (vals_one e m) ?_
  · intro j u hu
    have hj : j < m := by have := (List.getElem?_eq_some_iff.1 hu).1; rwa [hl] at this
    rw [vals_get e hj] at hu
    rw [add_none, hc j hj]; exact hu
  · rw [hl]
    refine h _ ⟨_, setRow_heap w g _ _ _ _ hg, ?_, ?_⟩ ⟨rfl, rfl, rfl, by simp, fun k _ hk => setRow_other w g k _ hk⟩
    · simp [hl]; omega
    · intro i hi
      rw [List.getElem?_toArray, List.take_zero, List.nil_append]
      by_cases him : i < m
      · rw [List.getElem?_append_left (by omega), vals_get e him]; simp [ov, him]
      · rw [List.getElem?_append_right (by omega), hl, List.getElem?_drop, Array.getElem?_toList, show 0 + m + (i - m) = i by omega, hcur i hi]; simp [ov, him]
theorem norm_div {b v : Nat → Int} {m t s : Nat} (nb : Nrm b m) (hm : 0 < m) (hs : s + blen (b (m - 1)) = 30) (nv : Nrm v t) (hv : val v t = val b m * 2 ^ s) : t = m ∧ 536870912 ≤ v (m - 1) := by
  obtain ⟨k, rfl⟩ : ∃ k, m = k + 1 := ⟨m - 1, by omega⟩
  rw [Nat.add_sub_cancel] at hs ⊢
  have hx0 : 0 < b k := by
    have h1 := nb.1 k (by omega)
    rcases nb.2 with e | e
    · omega
    · rw [Nat.add_sub_cancel] at e; omega
  obtain ⟨c1, c2⟩ := blen_pos hx0
  have c3 := blen_lt (b k)
  have lo0 := val_nonneg (nb.1.le (Nat.le_succ k))
  have lo1 := val_lt (nb.1.le (Nat.le_succ k))
  have pk := P_pos k
  have ps := two_pos s
  have e29 : (2 : Int) ^ (blen (b k) - 1) * 2 ^ s = 536870912 := by rw [← Int.pow_add, show blen (b k) - 1 + s = 29 by omega]; rfl
  have e30 : (2 : Int) ^ blen (b k) * 2 ^ s = 1073741824 := by rw [← Int.pow_add, show blen (b k) + s = 30 by omega]; rfl
  have f1 : (2 : Int) ^ (blen (b k) - 1) * 2 ^ s ≤ b k * 2 ^ s := mul_le_r c2 (by omega)
  have f2 : (b k + 1) * 2 ^ s ≤ 2 ^ blen (b k) * 2 ^ s := mul_le_r (by omega) (by omega)
  rw [e29] at f1
  rw [e30] at f2
  have g1 : 536870912 * P k ≤ b k * 2 ^ s * P k := mul_le_r f1 (by omega)
  have g2 : (b k + 1) * 2 ^ s * P k ≤ 1073741824 * P k := mul_le_r f2 (by omega)
  have g3 : 0 ≤ val b k * 2 ^ s := Int.mul_nonneg lo0 (by omega)
  have g4 : (val b k + 1) * 2 ^ s ≤ P k * 2 ^ s := mul_le_r (by omega) (by omega)
  have eV : val v t = val b k * 2 ^ s + b k * 2 ^ s * P k := by rw [hv, val_succ]; grind
  have g5 : (b k + 1) * 2 ^ s * P k = b k * 2 ^ s * P k + P k * 2 ^ s := by grind
  rw [Int.add_mul, Int.one_mul] at g4
  have V1 : 536870912 * P k ≤ val v t := by omega
  have V2 : val v t < P (k + 1) := by rw [P_succ]; omega
  have t1 : t ≤ k + 1 := by
    by_cases h : t ≤ k + 1
    · exact h
    · have a := val_top nv.1 (by omega) nv.2
      have b := P_le (show k + 1 ≤ t - 1 by omega)
      omega
  have t2 : k + 1 ≤ t := by
    by_cases h : k + 1 ≤ t
    · exact h
    · have a := val_lt nv.1
      have b := P_le (show t ≤ k by omega)
      omega
  obtain rfl : t = k + 1 := by omega
  refine ⟨rfl, ?_⟩
  rw [val_succ] at V1
  have w1 := val_lt (nv.1.le (Nat.le_succ k))
  rcases Int.lt_or_le (v k) 536870912 with q | q
  · have : (v k + 1) * P k ≤ 536870912 * P k := mul_le_r (by omega) (by omega)
    rw [Int.add_mul] at this
    omega
  · exact q
theorem dig_zero {f : Nat → Int} {N M : Nat} (h : Dig f N) (hM : M ≤ N) (hv : val f N < P M) : ∀ i, M ≤ i → i < N → f i = 0 := by
  have e := val_split f M (N - M)
  rw [show M + (N - M) = N by omega] at e
  have a := val_nonneg (h.le hM)
  have dh : Dig (fun i => f (M + i)) (N - M) := fun i hi => h (M + i) (by omega)
  have b := val_nonneg dh
  have pm := P_pos M
  have z : val (fun i => f (M + i)) (N - M) = 0 := by
    rcases Int.lt_or_eq_of_le b with q | q
    · have : P M * 1 ≤ P M * val (fun i => f (M + i)) (N - M) := mul_le_l (by omega) (by omega)
      omega
    · exact q.symm
  have z2 : val (fun _ : Nat => (0 : Int)) (N - M) = 0 := val_zeros (Nat.zero_le _) (fun _ _ _ => rfl)
  intro i hi hiN
  have := val_inj dh (zero_dig (N - M)) (z.trans z2.symm) (i - M) (by omega)
  rwa [show M + (i - M) = i by omega] at this
theorem val_mid {r : Nat → Int} {at_ M N : Nat} (h : at_ + M ≤ N) (hz : ∀ i, at_ + M ≤ i → i < N → r i = 0) : val r N = val r at_ + P at_ * val (fun i => r (at_ + i)) M := by
  rw [val_zeros h hz, val_split]
/-- The highest digits, of which a divisor is taken out. -/
theorem div_round {r : Nat → Int} {at_ m N : Nat} {V : Int} (hd : Dig r N) (h : at_ + (m + 1) ≤ N) (hV : V < P m) (hlt : val r N < V * P (at_ + 1)) :
    (∀ i, at_ + (m + 1) ≤ i → i < N → r i = 0) ∧ val r N = val r at_ + P at_ * val (fun i => r (at_ + i)) (m + 1) ∧ val (fun i => r (at_ + i)) (m + 1) < 1073741824 * V := by
  have pa := P_pos at_
  have h1 : V * P (at_ + 1) ≤ P m * P (at_ + 1) := mul_le_r (by omega) (Int.le_of_lt (P_pos _))
  rw [← P_add, show m + (at_ + 1) = at_ + (m + 1) by omega] at h1
  have hz := dig_zero hd h (by omega)
  have e := val_mid h hz
  refine ⟨hz, e, ?_⟩
  have lo := val_nonneg (hd.le (show at_ ≤ N by omega))
  rcases Int.lt_or_le (val (fun i => r (at_ + i)) (m + 1)) (1073741824 * V) with q | q
  · exact q
  · have : P at_ * (1073741824 * V) ≤ P at_ * val (fun i => r (at_ + i)) (m + 1) := mul_le_l q (by omega)
    rw [P_succ] at hlt
    have e2 : V * (P at_ * 1073741824) = P at_ * (1073741824 * V) := by grind
    omega
theorem Num.cut_row {w : World} {ao : Option Addr} {n cap t : Nat} {d : Nat → Int} (h : Row w ao n cap d) (ht : t ≤ n) : ∃ ao' cap', cutV ao t cap = .slice ao' t cap' ∧ Row w ao' t cap' d := by
  unfold cutV
  split
  · rename_i e; subst e; exact ⟨none, 0, rfl, Row.nil _ _⟩
  · exact ⟨ao, cap, rfl, ⟨by have := h.le; omega, h.max, h.nl, fun hn => by
      obtain ⟨b, off, rfl, hlt, hc⟩ := h.spot (by omega)
      exact ⟨b, off, rfl, hlt, fun i hi => hc i (by omega)⟩⟩⟩
theorem cut_block {g t N k : Nat} (h : (cutV (some ⟨g, 0, none⟩) t N).ownBlock = some k) : k = g := by
  unfold cutV at h
  split at h
  · simp [Value.ownBlock] at h
  · simp [Value.ownBlock] at h; exact h.symm
/-- Two answers, in memory of their own each. -/
def Ans2 (w w' : World) (V1 : Int) (v1 : Value) (V2 : Int) (v2 : Value) : Prop := Ans w w' V1 v1 ∧ Ans w w' V2 v2 ∧ ∀ k, v1.ownBlock = some k → v2.ownBlock ≠ some k
/-- A quotient of shifted numbers, and its rest shifted back. -/
theorem div_back {A B Q X : Int} {s : Nat} (h : A * 2 ^ s = Q * (B * 2 ^ s) + X) (h0 : 0 ≤ X) (h1 : X < B * 2 ^ s) : Q = A / B ∧ X / 2 ^ s = A % B := by
  have ps := two_pos s
  have e1 : X = (A - Q * B) * 2 ^ s := by rw [Int.sub_mul]; grind
  have hR : X / 2 ^ s = A - Q * B := by rw [e1, Int.mul_ediv_cancel _ (by omega)]
  have r0 : 0 ≤ A - Q * B := by rw [← hR]; exact Int.ediv_nonneg h0 (by omega)
  have r1 : A - Q * B < B := by
    rcases Int.lt_or_le (A - Q * B) B with q | q
    · exact q
    · have : B * 2 ^ s ≤ (A - Q * B) * 2 ^ s := mul_le_r q (by omega)
      omega
  have := div_of (a := A) (b := B) (q := Q) (r := A - Q * B) (by omega) r0 r1
  exact ⟨this.1, by rw [hR]; exact this.2⟩

/-- Behind k rounds of a long division: the quotient's highest k digits stand, the rest is that much less. -/
def DivR (w0 : World) (g gq n t K : Nat) (v : Nat → Int) (byo : Option Addr) (bcap : Nat) (AA V : Int) (k : Nat) (wr : World) : Prop :=
  ∃ r qf, Blk wr g (n + 1) r ∧ Dig r (n + 1) ∧ Blk wr gq K qf ∧ Dig qf K ∧ (∀ i, i < K - k → qf i = 0) ∧ AA = val qf K * V + val r (n + 1) ∧ val r (n + 1) < V * P (K - k) ∧ RowX g wr byo t bcap v ∧ Below w0.heap.size w0 wr
theorem stp_of {r v : Nat → Int} {n t K L at_ k : Nat} {V : Int} (hK : K = at_ + 1 + k) (hL : t = L + 2) (hK1 : K + t ≤ n + 1) (hDr : Dig r (n + 1)) (hlt : val r (n + 1) < V * P (K - k)) (hV : V = val v t) (hv : Nrm v t) (htop : 536870912 ≤ v (t - 1)) :
    Stp (fun i => r (at_ + i)) v L (val (fun i => r (at_ + i)) (t + 1)) V := by
  subst hL
  have h := div_round (at_ := at_) (m := L + 2) (V := V) hDr (by omega) (by rw [hV]; exact val_lt hv.1) (by rwa [show at_ + 1 = K - k by omega])
  exact ⟨fun i hi => hDr (at_ + i) (by omega), hv.1, htop, rfl, hV, h.2.2⟩
theorem DivR.step {w0 : World} {g gq n t K : Nat} {v r qf : Nat → Int} {byo : Option Addr} {bcap : Nat} {AA V q : Int} {k at_ : Nat} {wr w7 : World} (hK : K = at_ + 1 + k) (hK1 : K + t ≤ n + 1)
    (hBr : Blk wr g (n + 1) r) (hDr : Dig r (n + 1)) (hBq : Blk wr gq K qf) (hDq : Dig qf K) (hzq : ∀ i, i < K - k → qf i = 0) (hA : AA = val qf K * V + val r (n + 1)) (hlt : val r (n + 1) < V * P (K - k)) (hX : RowX g wr byo t bcap v) (hbw : Below w0.heap.size w0 wr)
    (hVt : V < P t) (hne : gq ≠ g) (hg : w0.heap.size ≤ g) (hgq : w0.heap.size ≤ gq) (hne2 : 0 < t → ∀ b off, byo = some ⟨b, off, none⟩ → b ≠ gq) (hT : Tk g (n + 1) at_ t r wr w7 (val (fun i => r (at_ + i)) (t + 1)) V q) :
    DivR w0 g gq n t K v byo bcap AA V (k + 1) (w7.setCell ⟨gq, at_, none⟩ (.int .i64 q)) := by
  obtain ⟨r', hB7, hS7, hD7, hU7, hlt7, hq0, hq1, hw7⟩ := hT
  obtain ⟨hz, e, _⟩ := div_round (at_ := at_) (m := t) hDr (by omega) hVt (by rwa [show at_ + 1 = K - k by omega])
  have hBq7 : Blk w7 gq K qf := hBq.of_block (hw7.block gq hBq.lt hne)
  have hz' : ∀ i, at_ + (t + 1) ≤ i → i < n + 1 → r' i = 0 := fun i a b => by rw [hS7 i (by omega)]; exact hz i a b
  have e' := val_mid (r := r') (show at_ + (t + 1) ≤ n + 1 by omega) hz'
  have elo : val r' at_ = val r at_ := val_congr fun i hi => hS7 i (by omega)
  have hD' : Dig r' (n + 1) := fun i hi => by
    by_cases c : i < at_ ∨ at_ + t < i
    · rw [hS7 i c]; exact hDr i hi
    · have := hD7 (i - at_) (by omega)
      simp only [show at_ + (i - at_) = i by omega] at this
      exact this
  have lo0 := val_lt (hDr.le (show at_ ≤ n + 1 by omega))
  refine ⟨r', upd qf at_ q, hB7.apart (by simpa using hne.symm) _, hD', hBq7.store at_ q, hDq.upd _ ⟨hq0, hq1⟩, fun i hi => ?_, ?_, ?_, ?_, ?_⟩
  · rw [upd_other qf _ (by omega)]; exact hzq i (by omega)
  · rw [hA, val_upd qf q (show at_ < K by omega), hzq at_ (by omega), e, e', elo, hU7]; grind
  · rw [show K - (k + 1) = at_ by omega, e', elo]
    have h1 : (val (fun i => r' (at_ + i)) (t + 1) + 1) * P at_ ≤ V * P at_ := mul_le_r (by omega) (Int.le_of_lt (P_pos _))
    rw [Int.add_mul] at h1
    have h2 : P at_ * val (fun i => r' (at_ + i)) (t + 1) = val (fun i => r' (at_ + i)) (t + 1) * P at_ := Int.mul_comm _ _
    omega
  · have hx := hX.keeps hw7
    refine ⟨hx.le, hx.max, fun hn => ?_⟩
    obtain ⟨b, off, eb, hlt, hbg, hc⟩ := hx.spot hn
    exact ⟨b, off, eb, by simpa using hlt, hbg, fun i hi => by
      have := World.cell?_of_block (w := w7) (a := ⟨b, off + i, none⟩) (heap_setCell_other w7 ⟨gq, at_, none⟩ b (.int .i64 q) (hne2 hn b off eb))
      rw [this]; exact hc i hi⟩
  · exact (hw7.below hbw (by exact hbw.size) hg).setCell hgq _
theorem DivR.done {w0 : World} {g gq n t K : Nat} {v : Nat → Int} {byo : Option Addr} {bcap : Nat} {AA V : Int} {wr : World} (h : DivR w0 g gq n t K v byo bcap AA V K wr) :
    ∃ r qf, Blk wr g (n + 1) r ∧ Dig r (n + 1) ∧ Blk wr gq K qf ∧ Dig qf K ∧ AA = val qf K * V + val r (n + 1) ∧ val r (n + 1) < V ∧ Below w0.heap.size w0 wr := by
  obtain ⟨r, qf, h1, h2, h3, h4, _, h5, h6, _, h7⟩ := h
  rw [Nat.sub_self] at h6
  have e : V * P 0 = V := by show V * 1 = V; omega
  exact ⟨r, qf, h1, h2, h3, h4, h5, by omega, h7⟩
theorem ov_val {d : Nat → Int} {t N : Nat} (h : t ≤ N) : val (ov d t (fun _ => 0)) N = val d t := by
  rw [val_zeros h (fun i a _ => by simp [ov]; omega)]
  exact val_congr fun i hi => by simp [ov, hi]
theorem ov_dig {d : Nat → Int} {t N : Nat} (h : Dig d t) : Dig (ov d t (fun _ => 0)) N := fun i _ => by
  by_cases e : i < t
  · simp only [ov, e, if_true]; exact h i e
  · simp only [ov, e, if_false]; omega
end Go.Proofs.YtobolgmjcebfmaaGreatDoor

/-
  Package nat: divide, by its contract.
-/
namespace Go.Proofs.YtobolgmjcebfmaaGreatDoor
open Go Go.RowKit Go.Proofs.YtobolgmjcebfmaaGreatDoor.M
set_option linter.unusedSimpArgs false
set_option linter.unusedVariables false

set_option maxHeartbeats 4000000 in
theorem divide_gen (ao bo : Option Addr) (n m ca cb : Nat) (a b : Nat → Int) (w : World) (ha : Row w ao n ca a) (hb : Row w bo m cb b) (na : Nrm a n) (nb : Nrm b m) (hn : n ≤ 5000) (hm : m ≤ n) (h2 : 2 ≤ m) (hle : val b m ≤ val a n) :
    Calls Tryz.prog 81 #[.slice ao n ca, .slice bo m cb] w fun e w' => ∃ v1 v2, e = .returned (.tuple #[v1, v2]) ∧ Ans2 w w' (val a n / val b m) v1 (val a n % val b m) v2 := by
  have hla := ha.le
  have hma := ha.max
  have hlb := hb.le
  have hmb := hb.max
  have ho : decide (ord (val a n) (val b m) < 0) = false := decide_eq_false (ord_ge hle)
  have HL : Hid (val b m ≤ val a n) := hle
  clear hle
  obtain ⟨bb, fb, rfl, hbb, hcb⟩ := hb.spot (by omega)
  have dk := nb.1 (m - 1) (by omega)
  have hbl : blen (b (m - 1)) ≤ 30 := blen_le (by show b (m - 1) < 1073741824; exact dk.2)
  obtain ⟨s, hs⟩ : ∃ s : Nat, (30 : Int) - (blen (b (m - 1)) : Int) = s := ⟨30 - blen (b (m - 1)), by omega⟩
  have hs30 : s ≤ 30 := by omega
  have hwr : IntKind.i64.wrap ((n : Int) + 1) = (n : Int) + 1 := by rw [wrap_i64_eq]; omega
  have hmk : ∀ w' : World, (Instr.makeSlice 29 (.int .i64 ((n : Int) + 1)) (.int .i64 ((n : Int) + 1))).run Tryz.prog w' = .ok (.slice (some ⟨w'.heap.size, 0, none⟩) (n + 1) (n + 1)) (w'.alloc (.cells (madeCells #[.int .i64 0] (n + 1)) 3)) := by
    intro w'
    exact Go.run_make_row' 29 3 (.int .i64 0) 8 Tryz.underlying29 info_int rfl .i64 .i64 (n + 1) (by omega) (by omega) w'
  go_enter Tryz.func81, Tryz.ntmps81
  go_wp2_with fail
  refine (compare_any _ _ _ _ _ _ _ _ _ ha hb na nb).mono ?_
  rintro e w1 ⟨rfl, b1⟩
  have c1 := (b1.cell (p := ⟨bb, fb + (m - 1), none⟩) hbb).trans (hcb (m - 1) (by omega))
  go_wp2_with fail
  refine (width_any _ _ dk.1 (by omega)).mono ?_
  rintro e w2 ⟨rfl, rfl⟩
  have hbr := hb.keeps b1
  go_upto_region 8 with (fail)
  go_cut [8, 9] from 40 to 46 (fun sr sb wx => Cut8 w n (val b m * 2 ^ s) sr sb wx)
  case first =>
    go_region_with (go_at_call 97; refine (raise_any _ _ _ s b _ (by first | exact hbr.drew | exact (hbr.alloc _).drew) nb.1 (by omega) (by omega)).mono ?_; rintro e w3 ⟨v, rfl, hv⟩)
    all_goals (go_wp2_with fail; go_meet; first | exact cut8_a b1 (by assumption) | exact cut8_b b1 (by assumption) rfl)
  case rest =>
    have hbx : blen (b (m - 1)) + s = 30 := by omega
    clear hmk hwr ho hs c1 hbl
    obtain ⟨g, rfl, hgw, hB0, hbc, byo, bcap, t, v, rfl, hX, hNv, hVv⟩ := hcut
    obtain ⟨rfl, htop⟩ := norm_div nb (by omega) (by omega) hNv hVv
    have HVv : Hid (val v t = val b t * 2 ^ s) := hVv
    clear hVv
    go_wp2_with fail
    refine (raise_any _ _ _ s a _ (ha.keeps hbc) na.1 (by omega) (by omega)).mono ?_
    rintro e w4 ⟨ra, rfl, t2, d2, hO2, hN2, hV2, hb4⟩
    obtain ⟨ro, rc, rfl, hR2⟩ := hO2.row
    have hB4 := hB0.keeps hb4
    have hX4 := hX.keeps (wr_of hb4)
    have hbw4 := bel_trans hbc hb4
    have ps := two_pos s
    have hs29 : s ≤ 29 := by
      have hx0 : 0 < b (t - 1) := by
        rcases nb.2 with e | e
        · omega
        · have := nb.1 (t - 1) (by omega); omega
      have := (blen_pos hx0).1
      omega
    have hA2 : Hid (val d2 t2 = val a n * 2 ^ s) := hV2
    have hA2lt : Hid (val a n * 2 ^ s < 536870912 * P n) := by
      show _ < _
      have h1 := val_lt na.1
      have h2 : (2 : Int) ^ s ≤ 2 ^ 29 := two_le hs29
      have h3 : (val a n + 1) * 2 ^ s ≤ P n * 2 ^ s := mul_le_r (by omega) (by omega)
      have h4 : P n * 2 ^ s ≤ P n * 2 ^ 29 := mul_le_l h2 (Int.le_of_lt (P_pos n))
      rw [Int.add_mul] at h3
      have : P n * 2 ^ 29 = 536870912 * P n := by rw [Int.mul_comm]; rfl
      omega
    have hA0 : 0 < val a n := by
      have := val_pos nb (by omega)
      have := HL.out
      omega
    have ht2 : t2 ≤ n + 1 := by
      by_cases h : t2 ≤ n + 1
      · exact h
      · have a1 := val_top hN2.1 (by omega) hN2.2
        have b1 := P_le (show n + 1 ≤ t2 - 1 by omega)
        have c1 := hA2lt.out
        rw [P_succ] at b1
        have := P_pos n
        omega
    have ht0 : 0 < t2 := by
      by_cases h : 0 < t2
      · exact h
      · obtain rfl : t2 = 0 := by omega
        have a1 : (0 : Int) = val a n * 2 ^ s := hV2
        have := Int.mul_pos hA0 ps
        omega
    clear hV2
    obtain ⟨K, hK⟩ : ∃ K, K + t = n + 1 := ⟨n + 1 - t, by omega⟩
    have hK1 : K + t ≤ n + 1 := by omega
    have hK2 : n + 1 ≤ K + t := by omega
    clear hK
    go_wp2_with (first | (at_make; refine wpList_mk rfl _ _ rfl _ _ K rfl rfl (by omega) (by omega) (by omega) ?_; intro w6 hBq hb6) | (refine wpList_cp rfl (.tmp 47) (.tmp 50) rfl g (n + 1) _ rfl hB4 ro t2 rc d2 rfl hR2 ht0 ht2 ?_; intro w5 hB5 hw5))
    have hB6 := hB5.keeps hb6
    have hX6 := (hX4.keeps hw5).keeps (wr_of hb6)
    have hbw6 : Below w.heap.size w w6 := bel_trans (hw5.below hbw4 hbw4.size hgw) hb6
    have hgl : g < w4.heap.size := hB4.lt
    have hw45 := hw5.size
    obtain ⟨V, hVe⟩ : ∃ V, V = val v t := ⟨_, rfl⟩
    have HVe : Hid (V = val v t) := hVe
    have HVt : Hid (V < P t) := by show _ < _; rw [hVe]; exact val_lt hNv.1
    have HVlo : Hid (536870912 * P (t - 1) ≤ V) := by
      show _ ≤ _
      obtain ⟨c, rfl⟩ : ∃ c, t = c + 1 := ⟨t - 1, by omega⟩
      rw [hVe, val_succ, Nat.add_sub_cancel]
      have a1 := val_nonneg (hNv.1.le (Nat.le_succ c))
      rw [Nat.add_sub_cancel] at htop
      have a2 : 536870912 * P c ≤ v c * P c := mul_le_r htop (Int.le_of_lt (P_pos c))
      omega
    clear hVe
    have hby : 0 < t → ∀ x off, byo = some ⟨x, off, none⟩ → x ≠ w5.heap.size := fun ht x off e => by
      obtain ⟨x', off', e', hlt, _⟩ := (hX4.keeps hw5).spot ht
      rw [e] at e'
      simp only [Option.some.injEq, Addr.mk.injEq] at e'
      omega
    obtain ⟨L, hL⟩ : ∃ L, t = L + 2 := ⟨t - 2, by omega⟩
    have HLt : Hid (t = L + 2) := hL
    clear hL
    have hD0 : DivR w g w5.heap.size n t K v byo bcap (val a n * 2 ^ s) V 0 w6 := by
      refine ⟨_, _, hB6, ov_dig hN2.1, hBq, zero_dig _, fun _ _ => rfl, ?_, ?_, hX6, hbw6⟩
      · rw [ov_val ht2, hA2.out, val_zeros (Nat.zero_le K) (fun _ _ _ => rfl)]; show _ = 0 * V + _; omega
      · rw [ov_val ht2, hA2.out, Nat.sub_zero]
        have a1 : 536870912 * P (t - 1) * P K ≤ V * P K := mul_le_r HVlo.out (Int.le_of_lt (P_pos K))
        rw [Int.mul_assoc, ← P_add, show t - 1 + K = n by omega] at a1
        have := hA2lt.out
        omega
    clear hB6 hX6 hbw6 hBq hB5 hw5 hb6 hX4 hbw4 hB4 hR2 hO2 hN2 hX hB0 hbr hb b1
    go_loopw [61] (fun i wr => ∃ k : Nat, k ≤ K ∧ i = .int .i64 k ∧ DivR w g w5.heap.size n t K v byo bcap (val a n * 2 ^ s) V k wr) (fun i _ => K - (intOf i).toNat)
    case atStart => exact ⟨0, Nat.zero_le _, rfl, hD0⟩
    case round =>
      clear hD0
      obtain ⟨k, hk, rfl, hDR⟩ := hrel
      by_cases hlt : k < K
      · obtain ⟨at_, hat⟩ : ∃ at_, K = at_ + 1 + k := ⟨K - 1 - k, by omega⟩
        have HAT : Hid (K = at_ + 1 + k) := hat
        have hat1 : K ≤ at_ + 1 + k := by omega
        have hat2 : at_ + 1 + k ≤ K := by omega
        have hz : ((K : Int) - 1 - k).toNat = at_ := by omega
        have hz2 : K - 1 - k = at_ := by omega
        clear hat
        obtain ⟨r, qf, h1, h2', h3, h4, h5, h6, h7, h8, h9⟩ := hDR
        have hst := stp_of HAT.out HLt.out hK1 h2' h7 HVe.out hNv htop
        have H5 : Hid (∀ i, i < K - k → qf i = 0) := h5
        have H6 : Hid (val a n * 2 ^ s = val qf K * V + val r (n + 1)) := h6
        have H7 : Hid (val r (n + 1) < V * P (K - k)) := h7
        clear h5 h6 h7
        have hlen : at_ + t + 1 - at_ = t + 1 := by omega
        go_wp2_with fail
        refine (takeOut_any g at_ (n + 1) (n + 1 - at_) byo bcap L t HLt.out r v _ V wr h1 h8 (by omega) (by omega) (by omega) hst).mono ?_
        rintro e w7 ⟨q, rfl, hT⟩
        have hne : w5.heap.size ≠ g := by omega
        have hw7 : Wr g wr w7 := by obtain ⟨_, _, _, _, _, _, _, _, q⟩ := hT; exact q
        have hq7 : Blk w7 w5.heap.size K qf := h3.of_block (hw7.block _ h3.lt hne)
        have cq := hq7.cell (show at_ < K by omega)
        have fq := hq7.frozen at_
        have HR := DivR.step HAT.out hK1 h1 h2' h3 h4 H5.out H6.out H7.out h8 h9 HVt.out hne hgw (by omega) hby hT
        clear hT hw7 hq7 h1 h2' h3 h4 h8 h9 hst
        go_wp2
        go_roundw
        case rel => exact ⟨k + 1, by omega, by go_num, HR⟩
        case measure => simp [intOf]; omega
      · obtain rfl : k = K := by omega
        obtain ⟨r, qf, h1, h2', h3, h4, h6, h7, h9⟩ := hDR.done
        have H6 : Hid (val a n * 2 ^ s = val qf k * V + val r (n + 1)) := h6
        clear h6 hDR
        go_wp2_with fail
        refine (trim_any _ _ _ _ _ (h3.row0 (Nat.le_refl _) (by omega))).mono ?_
        rintro e w7 ⟨tq, htq, htopq, hzq, rfl, rfl⟩
        go_wp2_with fail
        refine (trim_any _ _ _ _ _ (h1.row0 (Nat.le_refl _) (by omega))).mono ?_
        rintro e w8 ⟨tr, htr, htopr, hzr, rfl, rfl⟩
        obtain ⟨oo, cc, ecut, hRr⟩ := Num.cut_row (h1.row0 (Nat.le_refl _) (by omega)) htr
        rw [ecut]
        clear ecut
        go_wp2_with fail
        refine (lower_any _ _ _ s r _ hRr (h2'.le htr) (by omega) (by omega)).mono ?_
        rintro e w9 ⟨v2, rfl, hA⟩
        go_wp2
        go_ret2
        have hb9 := hA.below
        obtain ⟨hNq, hvq⟩ := nrm_of_top h4 htq htopq hzq
        obtain ⟨hNr, hvr⟩ := nrm_of_top h2' htr htopr hzr
        have hX0 := val_nonneg h2'
        have h7' : val r (n + 1) < val b t * 2 ^ s := by rw [← HVv.out, ← HVe.out]; exact h7
        obtain ⟨eq, er⟩ := div_back (A := val a n) (B := val b t) (Q := val qf k) (X := val r (n + 1)) (s := s) (by rw [← HVv.out, ← HVe.out]; exact H6.out) hX0 h7'
        refine ⟨_, _, rfl, ⟨tq, qf, (h3.cut (by omega) htq (by omega)).stays hb9, hNq, by rw [hvq, eq], bel_trans h9 hb9⟩, ?_, ?_⟩
        · rw [← er, ← hvr]; exact hA.from h9
        · intro c hc hc2
          have e1 := cut_block hc
          obtain ⟨t3, d3, hO3, _⟩ := hA
          have e2 := own_ge hO3 c hc2
          have := h3.lt
          omega

theorem Out.cutV {B : Nat} {w : World} {ao : Option Addr} {n cap t : Nat} {d : Nat → Int} (h : Out B w (.slice ao n cap) n d) (ht : t ≤ n) : Out B w (cutV ao t cap) t d := by
  unfold Go.Proofs.YtobolgmjcebfmaaGreatDoor.cutV
  split
  · rename_i e; subst e; exact Out.nil _ _ _
  · exact h.cut ht
set_option maxHeartbeats 1000000 in
theorem divide_one (ao bo : Option Addr) (n ca cb : Nat) (a b : Nat → Int) (w : World) (ha : Row w ao n ca a) (hb : Row w bo 1 cb b) (na : Nrm a n) (nb : Nrm b 1) (hn : n ≤ 5000) (hle : val b 1 ≤ val a n) :
    Calls Tryz.prog 81 #[.slice ao n ca, .slice bo 1 cb] w fun e w' => ∃ v1 v2, e = .returned (.tuple #[v1, v2]) ∧ Ans2 w w' (val a n / val b 1) v1 (val a n % val b 1) v2 := by
  have hla := ha.le
  have hma := ha.max
  have hlb := hb.le
  have hmb := hb.max
  have ho : decide (ord (val a n) (val b 1) < 0) = false := decide_eq_false (ord_ge hle)
  clear hle
  obtain ⟨bb, fb, rfl, hbb, hcb⟩ := hb.spot (by omega)
  have dk := nb.1 0 (by omega)
  have hb0 : 0 < b 0 := by
    rcases nb.2 with e | e
    · omega
    · have : b 0 ≠ 0 := e
      omega
  have HV : Hid (val b 1 = b 0) := by show 0 + b 0 * 1 = b 0; omega
  go_enter Tryz.func81, Tryz.ntmps81
  go_wp2_with fail
  refine (compare_any _ _ _ _ _ _ _ _ _ ha hb na nb).mono ?_
  rintro e w1 ⟨rfl, b1⟩
  go_wp2_with fail
  refine (clone_any _ _ _ _ _ (ha.keeps b1) (by omega)).mono ?_
  rintro e w2 ⟨q, rfl, hO, b2⟩
  obtain ⟨qo, qc, rfl, hR⟩ := hO.row
  have c1 := ((bel_trans b1 b2).cell (p := ⟨bb, fb, none⟩) hbb).trans (hcb 0 (by omega))
  go_wp2_with fail
  refine (shorten_any w1.heap.size _ _ _ a (b 0) _ hO na.1 hb0 dk.2 (by omega) b2.size).mono ?_
  rintro e w3 ⟨left, rfl, r, hO3, hD3, hV3, hl0, hl1, b3⟩
  obtain ⟨qo', qc', hqe, hR3⟩ := hO3.row
  simp only [Value.slice.injEq, true_and] at hqe
  obtain ⟨rfl, rfl⟩ := hqe
  go_wp2_with fail
  refine (trim_any _ _ _ _ _ hR3).mono ?_
  rintro e w4 ⟨t, ht, htop, hz, rfl, rfl⟩
  go_wp2_with fail
  refine (digits_nat left _ hl0 (by omega)).mono ?_
  rintro e w5 ⟨v2, rfl, hA⟩
  go_wp2
  go_ret2
  obtain ⟨hN, hv⟩ := nrm_of_top hD3 ht htop hz
  have hb5 := hA.below
  have hw : Below w.heap.size w w4 := (bel_trans b1 b2).trans (b3.mono b1.size)
  obtain ⟨eq, er⟩ := div_of (a := val a n) (b := val b 1) (q := val r n) (r := left) (by rw [HV.out, hV3, Int.mul_comm]) hl0 (by rw [HV.out]; exact hl1)
  refine ⟨_, _, rfl, ⟨t, r, ((hO3.cutV ht).lower b1.size).stays hb5, hN, by rw [hv, eq], bel_trans hw hb5⟩, ?_, ?_⟩
  · rw [← er]; exact hA.from hw
  · intro c hc hc2
    obtain ⟨t3, d3, hO5, _⟩ := hA
    have e2 := own_ge hO5 c hc2
    have e1 := (World.ownsRow.lt (hO3.cutV ht) c hc).2
    omega
theorem divide_less (ao bo : Option Addr) (n m ca cb : Nat) (a b : Nat → Int) (w : World) (ha : Row w ao n ca a) (hb : Row w bo m cb b) (na : Nrm a n) (nb : Nrm b m) (hn : n ≤ 5000) (hlt : val a n < val b m) :
    Calls Tryz.prog 81 #[.slice ao n ca, .slice bo m cb] w fun e w' => ∃ v1 v2, e = .returned (.tuple #[v1, v2]) ∧ Ans2 w w' (val a n / val b m) v1 (val a n % val b m) v2 := by
  have ho : decide (ord (val a n) (val b m) < 0) = true := by rw [ord_lt hlt]; decide
  have HD : Hid (val a n / val b m = 0 ∧ val a n % val b m = val a n) := ⟨Int.ediv_eq_zero_of_lt (val_nonneg na.1) hlt, Int.emod_eq_of_lt (val_nonneg na.1) hlt⟩
  clear hlt
  go_enter Tryz.func81, Tryz.ntmps81
  go_wp2_with fail
  refine (compare_any _ _ _ _ _ _ _ _ _ ha hb na nb).mono ?_
  rintro e w1 ⟨rfl, b1⟩
  go_wp2_with fail
  refine (clone_any _ _ _ _ _ (ha.keeps b1) (by omega)).mono ?_
  rintro e w2 ⟨q, rfl, hO, b2⟩
  go_wp2
  go_ret2
  have hb2 := bel_trans b1 b2
  refine ⟨_, _, rfl, ?_, ?_, ?_⟩
  · rw [HD.out.1]; exact Ans.nil hb2
  · rw [HD.out.2]; exact ⟨n, a, hO.lower b1.size, na, rfl, hb2⟩
  · intro c hc; simp [Value.ownBlock] at hc
theorem divide_any (ao bo : Option Addr) (n m ca cb : Nat) (a b : Nat → Int) (w : World) (ha : Row w ao n ca a) (hb : Row w bo m cb b) (na : Nrm a n) (nb : Nrm b m) (hn : n ≤ 5000) (hm : 0 < m) :
    Calls Tryz.prog 81 #[.slice ao n ca, .slice bo m cb] w fun e w' => ∃ v1 v2, e = .returned (.tuple #[v1, v2]) ∧ Ans2 w w' (val a n / val b m) v1 (val a n % val b m) v2 := by
  by_cases h1 : val a n < val b m
  · exact divide_less ao bo n m ca cb a b w ha hb na nb hn h1
  · by_cases h2 : m = 1
    · subst h2; exact divide_one ao bo n ca cb a b w ha hb na nb hn (by omega)
    · exact divide_gen ao bo n m ca cb a b w ha hb na nb hn (nrm_le_len nb na.1 (by omega)) (by omega) (by omega)
end Go.Proofs.YtobolgmjcebfmaaGreatDoor

/-
  Package nat: power, Pow, Shl, by contracts: for every number, every exponent.
-/
namespace Go.Proofs.YtobolgmjcebfmaaGreatDoor
open Go Go.RowKit Go.Proofs.YtobolgmjcebfmaaGreatDoor.M
set_option linter.unusedSimpArgs false
set_option linter.unusedVariables false

end Go.Proofs.YtobolgmjcebfmaaGreatDoor

/-
  math/bits.TrailingZeros; nat's lowest, Low, Bit, Shr, Div, by contracts.
-/
namespace Go.Proofs.YtobolgmjcebfmaaGreatDoor
open Go Go.RowKit Go.Proofs.YtobolgmjcebfmaaGreatDoor.M
set_option linter.unusedSimpArgs false
set_option linter.unusedVariables false

/-- The library's table of trailing zeros. -/
def Tab (w : World) : Prop := ∀ j, j < 64 → w.cell? ⟨2, j, none⟩ = some (.int .u8 ((Lib.deBruijn64tab.getD j 0 : Nat) : Int))
theorem Tab.keeps {w w' : World} (h : Tab w) (hb : Below w.heap.size w w') : Tab w' := fun j hj =>
  (hb.cell (p := ⟨2, j, none⟩) (World.block_lt_of_cell? w _ (h j hj))).trans (h j hj)
theorem tz_key (x a : Nat) (hx : x < 18446744073709551616) (hx0 : x ≠ 0) (hlow : x &&& (18446744073709551616 - x) = a) :
    IntKind.u64.wrap (bits .and .u64 (x : Int) (IntKind.u64.wrap (-(x : Int))) * 285870213051353865) / 288230376151711744 = ((a * 285870213051353865 % 18446744073709551616 / 288230376151711744 : Nat) : Int) := by
  have e1 : IntKind.u64.wrap (-(x : Int)) = ((18446744073709551616 - x : Nat) : Int) := by rw [IntKind.wrap_u64]; omega
  rw [e1, bits_and_u64_nat x _ hx (by omega), hlow, IntKind.wrap_u64]
  omega
set_option maxHeartbeats 1000000 in
theorem tz_core (x k idx : Nat) (w : World) (hx0 : ((x : Int) == 0) = false)
    (key : IntKind.u64.wrap (bits .and .u64 (x : Int) (IntKind.u64.wrap (-(x : Int))) * 285870213051353865) / 288230376151711744 = (idx : Int))
    (hi : idx < 64) (hk : k < 64) (hcell : w.cell? ⟨2, idx, none⟩ = some (.int .u8 k)) :
    Calls Tryz.prog 93 #[.int .u64 x] w fun e w' => e = .returned (.int .i64 k) ∧ w' = w := by
  go_enter Tryz.func93, Tryz.ntmps93
  go_wp2_with (simp only [key])
  go_ret
  exact ⟨rfl, rfl⟩
theorem trailing64 (x : Nat) (hx : x < 18446744073709551616) (h0 : x ≠ 0) (w : World) (hT : Tab w) :
    Calls Tryz.prog 93 #[.int .u64 x] w fun e w' => e = .returned (.int .i64 (Lib.ctz 64 x)) ∧ w' = w := by
  obtain ⟨hlow, hk⟩ := Lib.lowest_bit 64 x h0 hx
  obtain ⟨hi, htab⟩ := Lib.deBruijn64_at _ hk
  have hcell := hT _ hi
  rw [htab] at hcell
  exact tz_core x _ _ w (by simp; omega) (tz_key x _ hx h0 hlow) hi hk hcell
theorem trailing64I (x : Int) (hx0 : 0 < x) (hx : x < 1073741824) (w : World) (hT : Tab w) :
    Calls Tryz.prog 93 #[.int .u64 x] w fun e w' => ∃ l : Nat, e = .returned (.int .i64 l) ∧ (l < 64 ∧ IsLow x l) ∧ w' = w := by
  obtain ⟨n, rfl⟩ := Int.eq_ofNat_of_zero_le (Int.le_of_lt hx0)
  obtain ⟨m, hm, hk⟩ := Lib.ctzFrom_spec 64 n (by omega) (by omega)
  have e : Lib.ctz 64 n = Lib.ctzFrom 64 n := by simp [Lib.ctz]; omega
  rw [← e] at hm hk
  refine (trailing64 n (by omega) (by omega) _ hT).mono ?_
  rintro e w' ⟨rfl, rfl⟩
  refine ⟨_, rfl, ⟨hk, m, ?_⟩, rfl⟩
  have : ((n : Nat) : Int) = ((2 ^ Lib.ctz 64 n * (2 * m + 1) : Nat) : Int) := congrArg _ hm
  rw [this, Int.natCast_mul, Int.mul_comm]; simp
theorem trailing (x : Int) (hx0 : 0 < x) (hx : x < 1073741824) (w : World) (hT : Tab w) :
    Calls Tryz.prog 88 #[.int .u64 x] w fun e w' => ∃ l : Nat, e = .returned (.int .i64 l) ∧ (l < 64 ∧ IsLow x l) ∧ w' = w := by
  go_enter Tryz.func88, Tryz.ntmps88
  go_wp2_with fail
  refine (trailing64I x hx0 hx _ hT).mono ?_
  rintro e w' ⟨l, rfl, hl, rfl⟩
  go_wp2
  go_ret
  exact ⟨_, rfl, hl, rfl⟩
theorem low_unique {V : Int} {l k : Nat} (h : IsLow V l) (h' : IsLow V k) : l = k := by
  have key : ∀ (l k : Nat) (V : Int), IsLow V l → IsLow V k → ¬ l < k := fun l k V ⟨m, hm⟩ ⟨m', hm'⟩ hlt => by
    obtain ⟨d, rfl⟩ : ∃ d, k = l + 1 + d := ⟨k - l - 1, by omega⟩
    rw [hm, Int.pow_add, Int.pow_add] at hm'
    have e : (2 * m + 1) * 2 ^ l = ((2 * m' + 1) * (2 ^ d * 2)) * 2 ^ l := by rw [hm']; grind
    have e2 := Int.eq_of_mul_eq_mul_right (Int.ne_of_gt (two_pos l)) e
    have e3 : (2 * m' + 1) * (2 ^ d * 2) = 2 * ((2 * m' + 1) * 2 ^ d) := by grind
    rw [e3] at e2
    generalize (2 * m' + 1) * 2 ^ d = Z at e2
    omega
  rcases Nat.lt_trichotomy l k with q | q | q
  · exact absurd q (key l k V h h')
  · exact q
  · exact absurd q (key k l V h' h)
theorem isLow_val {d : Nat → Int} {n i l : Nat} (hi : i < n) (hz : ∀ j, j < i → d j = 0) (h : IsLow (d i) l) (hl : l < 30) : IsLow (val d n) (30 * i + l) := by
  obtain ⟨m, hm⟩ := h
  have e1 : val d n = P i * val (fun j => d (i + j)) (n - i) := by
    have := val_shift0 d i (n - i) hz
    rwa [show i + (n - i) = n by omega] at this
  obtain ⟨r, hr⟩ : ∃ r, n - i = r + 1 := ⟨n - i - 1, by omega⟩
  have e2 : val (fun j => d (i + j)) (n - i) = d i + 1073741824 * val (fun j => d (i + (j + 1))) r := by
    rw [hr]
    have h := val_split (fun j => d (i + j)) 1 r
    rw [Nat.add_comm 1 r] at h
    rw [h]
    have e : (fun j => d (i + (1 + j))) = fun j => d (i + (j + 1)) := by funext j; rw [Nat.add_comm 1 j]
    show 0 + d (i + 0) * 1 + 1 * 1073741824 * _ = _
    rw [e, Nat.add_zero]; omega
  have e3 : (1073741824 : Int) = 2 ^ l * (2 * 2 ^ (29 - l)) := by
    rw [← Int.mul_assoc, Int.mul_comm (2 ^ l) 2, Int.mul_assoc, ← Int.pow_add, show l + (29 - l) = 29 by omega]; rfl
  refine ⟨m + 2 ^ (29 - l) * val (fun j => d (i + (j + 1))) r, ?_⟩
  rw [e1, e2, hm, e3, Int.pow_add, ← P_two]
  grind
theorem low_lt {x : Int} {l : Nat} (h0 : 0 < x) (h1 : x < 1073741824) (h : IsLow x l) : l < 30 := by
  obtain ⟨m, hm⟩ := h
  rcases Nat.lt_or_ge l 30 with q | q
  · exact q
  · have h2 : (2 : Int) ^ 30 ≤ 2 ^ l := two_le q
    have h3 : 0 < 2 * m + 1 := by
      rcases Int.lt_or_le 0 (2 * m + 1) with r | r
      · exact r
      · have := Int.mul_nonneg (show 0 ≤ -(2 * m + 1) by omega) (Int.le_of_lt (two_pos l))
        rw [Int.neg_mul, ← hm] at this
        omega
    have h4 : 1 * 2 ^ l ≤ (2 * m + 1) * 2 ^ l := mul_le_r (by omega) (Int.le_of_lt (two_pos l))
    have h5 : (2 : Int) ^ 30 = 1073741824 := rfl
    omega
/-- What lowest tells. -/
def LowA (V l : Int) : Prop := (V = 0 ∧ l = -1) ∨ ∃ k : Nat, l = k ∧ IsLow V k
set_option maxHeartbeats 400000 in
theorem lowest_any (ao : Option Addr) (n cap : Nat) (d : Nat → Int) (w : World) (h : Row w ao n cap d) (hd : Dig d n) (hn : n ≤ 100000) (hT : Tab w) :
    Calls Tryz.prog 62 #[.slice ao n cap] w fun e w' => ∃ l, e = .returned (.int .i64 l) ∧ LowA (val d n) l ∧ w' = w := by
  have hl := h.le
  have hm := h.max
  go_enter Tryz.func62, Tryz.ntmps62
  go_wp2
  go_loop [6] (fun i => ∃ k : Nat, k ≤ n ∧ i = .int .i64 k ∧ Hid (∀ j, j < k → d j = 0)) (fun i => n - (intOf i).toNat)
  case atStart => exact ⟨0, Nat.zero_le _, rfl, fun j hj => by omega⟩
  case round =>
    obtain ⟨k, hk, rfl, HZ⟩ := hrel
    by_cases hlt : k < n
    · obtain ⟨b, off, rfl, hb, hc⟩ := h.spot (by omega)
      have c := hc k hlt
      have dk := hd k hlt
      by_cases hz : d k = 0
      · go_wp2
        go_round
        case rel => exact ⟨k + 1, by omega, by go_num, fun j hj => by by_cases e : j = k; (· rw [e]; exact hz); (· exact HZ.out j (by omega))⟩
        case measure => simp [intOf]; omega
      · have hp : 0 < d k := by omega
        go_wp2_with fail
        refine (trailing (d k) hp dk.2 _ hT).mono ?_
        rintro e w' ⟨l, rfl, ⟨hl64, hlow⟩, rfl⟩
        go_wp2
        go_ret
        exact ⟨_, rfl, .inr ⟨30 * k + l, by omega, isLow_val hlt HZ.out hlow (low_lt hp dk.2 hlow)⟩, rfl⟩
    · obtain rfl : k = n := by omega
      go_wp2
      go_ret
      exact ⟨_, rfl, .inl ⟨val_zeros (Nat.zero_le k) (fun i _ hi => HZ.out i hi), rfl⟩, rfl⟩
end Go.Proofs.YtobolgmjcebfmaaGreatDoor
