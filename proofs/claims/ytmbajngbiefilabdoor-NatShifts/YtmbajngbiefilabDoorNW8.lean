/-
  Package nat: takeOut (a divisor taken out of the highest digits as often as it goes), by its contract.
-/
import Derived.Test.YtmbajngbiefilabDoorNW5
import Derived.Test.YtmbajngbiefilabDoorNW7
namespace Go.Proofs.YtmbajngbiefilabDoor
open Go Go.RowKit Go.Proofs.YtmbajngbiefilabDoor.M
set_option linter.unusedSimpArgs false
set_option linter.unusedVariables false

theorem RowX.row {g : Nat} {w : World} {ao : Option Addr} {n cap : Nat} {d : Nat → Int} (h : RowX g w ao n cap d) (hn : 0 < n) : Row w ao n cap d :=
  ⟨h.le, h.max, (fun e => by obtain ⟨b, off, q, _⟩ := h.spot hn; rw [q] at e; cases e), fun _ => by
    obtain ⟨b, off, q, hlt, _, hc⟩ := h.spot hn
    exact ⟨b, off, q, hlt, hc⟩⟩
/-- What takeOut leaves: in the digits from at on a rest below V, t times V less. -/
def Tk (g N at_ M : Nat) (r : Nat → Int) (w w' : World) (U V t : Int) : Prop :=
  ∃ r', Blk w' g N r' ∧ (∀ i, i < at_ ∨ at_ + M < i → r' i = r i) ∧ Dig (fun i => r' (at_ + i)) (M + 1) ∧ U = t * V + val (fun i => r' (at_ + i)) (M + 1) ∧ val (fun i => r' (at_ + i)) (M + 1) < V ∧ 0 ≤ t ∧ t < 1073741824 ∧ Wr g w w'
theorem dig_upd {f : Nat → Int} {k : Nat} {x : Int} (h : Dig f k) (h0 : 0 ≤ x) (h1 : x < 1073741824) : Dig (upd f k x) (k + 1) := fun i hi => by
  by_cases e : i = k
  · rw [e, upd_same]; exact ⟨h0, h1⟩
  · rw [upd_other f x e]; exact h i (by omega)
theorem tk_end {R x p V : Int} (h0 : 0 ≤ R) (h1 : R < p) (hp : 0 < p) (hV : V < p) (h2 : 0 ≤ R + x * p) (h3 : R + x * p < V) : x = 0 := by
  rcases Int.lt_trichotomy x 0 with h | h | h
  · have : x * p ≤ -1 * p := mul_le_r (by omega) (by omega)
    omega
  · exact h
  · have : 1 * p ≤ x * p := mul_le_r (by omega) (by omega)
    omega
theorem Stp.facts {u v : Nat → Int} {L M : Nat} {U V : Int} (hM : M = L + 2) (h : Stp u v L U V) : Dig v M ∧ Dig u (M + 1) ∧ V = val v M ∧ U = val u M + u M * P M ∧ V < P M ∧ 0 ≤ U := by
  subst hM
  have e1 := h.eU
  have e2 := val_nonneg h.du
  have e3 := val_lt h.dv
  have e4 := h.eV
  refine ⟨h.dv, h.du, e4, ?_, by omega, by omega⟩
  rw [e1]; exact val_succ u (L + 2)
theorem Blk.cells {w : World} {g N : Nat} {r : Nat → Int} (h : Blk w g N r) {at_ n : Nat} (hn : at_ + n ≤ N) : ∀ i, i < n → w.cell? ⟨g, at_ + i, none⟩ = some (.int .i64 ((fun j => r (at_ + j)) i)) := fun i hi => h.cell (by omega)
set_option maxHeartbeats 4000000 in
theorem takeOut_any (g at_ N cu : Nat) (bo : Option Addr) (cb L M : Nat) (hM : M = L + 2) (r v : Nat → Int) (U V : Int) (w : World) (hB : Blk w g N r) (hb : RowX g w bo M cb v) (hat : at_ + M + 1 ≤ N) (hul : M + 1 ≤ cu) (hum : cu ≤ 1000000)
    (h : Stp (fun i => r (at_ + i)) v L U V) :
    Calls Tryd.prog 33 #[.slice (some ⟨g, at_, none⟩) (M + 1) cu, .slice bo M cb] w fun e w' => ∃ t, e = .returned (.int .i64 t) ∧ Tk g N at_ M r w w' U V t := by
  have hlb := hb.le
  have hmb := hb.max
  obtain ⟨dv, du, eV0, eU0, hVlt0, hU00⟩ := Stp.facts hM h
  have eV : Hid (V = val v M) := eV0
  have eU : Hid (U = val (fun i => r (at_ + i)) M + r (at_ + M) * P M) := eU0
  have hVlt : Hid (V < P M) := hVlt0
  have hU0 : Hid (0 ≤ U) := hU00
  clear eV0 eU0 hVlt0 hU00
  have hM2 : 2 ≤ M := by omega
  have hcs := hB.cells (at_ := at_) (n := L + 3) (by omega)
  have HM : Hid (M = L + 2) := hM
  clear hM
  obtain ⟨bb, fb, rfl, hbb, hbg, hcb⟩ := hb.spot (by omega)
  go_enter Tryd.func33, Tryd.ntmps33
  go_wp2_with fail
  refine (guess_any g at_ cu _ cb L M HM.out (fun i => r (at_ + i)) v U V w hcs hul hum (hb.row (by omega)) h).mono ?_
  rintro e w1 ⟨t, rfl, hG, hb1⟩
  have ht0 := hG.1
  have ht1 := hG.2.1
  have HG : Hid (Gs U V t) := hG
  have hB1 := hB.keeps hb1
  have hw1 : Wr g w w1 := wr_of hb1
  clear hG hb1 h hcs
  go_wp2
  go_loopw [7, 17] (fun c i wr => ∃ (k : Nat) (q : Int) (r' : Nat → Int), k ≤ M ∧ i = .int .i64 k ∧ c = .int .i64 q ∧ -1073741824 < q ∧ q ≤ 0 ∧ Blk wr g N r' ∧ Hid (∀ i, i < at_ ∨ at_ + k ≤ i → r' i = r i) ∧ Hid (Dig (fun i => r' (at_ + i)) k) ∧ Hid (val (fun i => r' (at_ + i)) k + q * P k = val (fun i => r (at_ + i)) k - t * val v k) ∧ Wr g w wr) (fun _ i _ => M - (intOf i).toNat)
  case atStart => exact ⟨0, 0, r, Nat.zero_le _, rfl, rfl, by omega, by omega, hB1, fun _ _ => rfl, fun i hi => by omega, by show _ = _; show (0 : Int) + 0 * 1 = 0 - t * 0; omega, hw1⟩
  case round =>
    clear hB1 hw1
    obtain ⟨k, q, r', hk, rfl, rfl, hq0, hq1, hBr, HS, HD, HV, hwr⟩ := hrel
    by_cases hlt : k < M
    · have c1 : wr.cell? ⟨g, at_ + k, none⟩ = some (.int .i64 (r (at_ + k))) := by rw [← HS.out (at_ + k) (by omega)]; exact hBr.cell (by omega)
      have f1 := hBr.frozen (at_ + k)
      have c2 := (hwr.cell (p := ⟨bb, fb + k, none⟩) hbb hbg).trans (hcb k hlt)
      have dk := du k (by omega)
      have dvk := dv k hlt
      have hmul := dig_mul ⟨ht0, ht1⟩ dvk
      have h30 := and_30 (q + (r (at_ + k) - t * v k))
      have dk' : 0 ≤ r (at_ + k) ∧ r (at_ + k) < 1073741824 := dk
      clear dk
      go_wp2
      go_quiet (fail)
      go_wp2
      have hs := sum_step (x := r (at_ + k) - t * v k) HV.out
      go_roundw
      case rel => exact ⟨k + 1, (q + (r (at_ + k) - t * v k)) / 1073741824, upd r' (at_ + k) ((q + (r (at_ + k) - t * v k)) % 1073741824), by omega, by go_num, rfl, by omega, by omega, (hBr.store (at_ + k) _), fun i hi => by rw [upd_other r' _ (by omega)]; exact HS.out i (by omega), by
          show Dig _ _
          rw [upd_shift]
          exact dig_upd HD.out (by omega) (by omega), by
          show _ = _
          rw [upd_shift, hs, val_succ, val_succ]; grind, (hwr.drewN _).setCell _ _⟩
      case measure => simp [intOf]; omega
    · obtain rfl : k = M := by omega
      have c1 : wr.cell? ⟨g, at_ + k, none⟩ = some (.int .i64 (r (at_ + k))) := by rw [← HS.out (at_ + k) (by omega)]; exact hBr.cell (by omega)
      have f1 := hBr.frozen (at_ + k)
      have hB2 := hBr.store (at_ + k) (r (at_ + k) + q)
      have hw2 := hwr.setCell (at_ + k) (.int .i64 (r (at_ + k) + q))
      have dk : 0 ≤ r (at_ + k) ∧ r (at_ + k) < 1073741824 := du k (by omega)
      have hR0 := val_nonneg HD.out
      have hR1 := val_lt HD.out
      have hkey : Hid (U - t * V = val (fun i => r' (at_ + i)) k + (r (at_ + k) + q) * P k) := by
        show _ = _
        rw [eU.out, eV.out, Int.add_mul]
        have := HV.out
        omega
      have pk := P_pos k
      by_cases hz : 0 ≤ r (at_ + k) + q
      · have hx : r (at_ + k) + q = 0 := by
          have a := hkey.out
          have b := HG.out.2.2.2
          rw [Int.add_mul, Int.one_mul] at b
          have c : 0 ≤ (r (at_ + k) + q) * P k := Int.mul_nonneg hz (by omega)
          exact tk_end hR0 hR1 pk hVlt.out (by omega) (by omega)
        have HX : Hid (r (at_ + k) + q = 0) := hx
        have HR : Hid (0 ≤ val (fun i => r' (at_ + i)) k ∧ val (fun i => r' (at_ + i)) k < P k) := ⟨hR0, hR1⟩
        clear hx hR0 hR1
        go_wp2
        go_ret
        refine ⟨t, rfl, upd r' (at_ + k) (r (at_ + k) + q), hB2, fun i hi => ?_, ?_, ?_, ?_, ht0, ht1, hw2⟩
        · rw [upd_other r' _ (by omega)]; exact HS.out i (by omega)
        · rw [upd_shift, HX.out]
          exact dig_upd HD.out (by omega) (by omega)
        · rw [upd_shift, val_succ, upd_same, val_upd_ge _ _ (Nat.le_refl _)]
          have := hkey.out
          omega
        · rw [upd_shift, val_succ, upd_same, val_upd_ge _ _ (Nat.le_refl _)]
          have a := hkey.out
          have b := HG.out.2.2.2
          rw [Int.add_mul, Int.one_mul] at b
          omega
      · have HR : Hid (0 ≤ val (fun i => r' (at_ + i)) k ∧ val (fun i => r' (at_ + i)) k < P k) := ⟨hR0, hR1⟩
        have hneg : Hid (U < t * V) := by
          show _ < _
          have a := hkey.out
          have c : (r (at_ + k) + q) * P k ≤ -1 * P k := mul_le_r (by omega) (by omega)
          omega
        have ht2 : 1 ≤ t := by
          rcases Int.lt_or_eq_of_le ht0 with e | e
          · omega
          · have a := hneg.out
            rw [← e] at a
            have := hU0.out
            omega
        clear hR0 hR1
        go_wp2
        go_loopw [9, 55] (fun c i wx => ∃ (j : Nat) (y : Int) (s : Nat → Int), j ≤ k ∧ i = .int .i64 j ∧ c = .int .i64 y ∧ 0 ≤ y ∧ y ≤ 1 ∧ Blk wx g N s ∧ Hid (∀ i, i < at_ ∨ at_ + j ≤ i → s i = upd r' (at_ + k) (r (at_ + k) + q) i) ∧ Hid (Dig (fun i => s (at_ + i)) j) ∧ Hid (val (fun i => s (at_ + i)) j + y * P j = val (fun i => r' (at_ + i)) j + val v j) ∧ Wr g w wx) (fun _ i _ => k - (intOf i).toNat)
        case atStart => exact ⟨0, 0, _, Nat.zero_le _, rfl, rfl, by omega, by omega, hB2, fun _ _ => rfl, fun i hi => by omega, by show _ = _; show (0 : Int) + 0 * 1 = 0 + 0; omega, hw2⟩
        case round =>
          clear c1 f1
          obtain ⟨j, y, s, hj, rfl, rfl, hy0, hy1, hBs, HSs, HDs, HVs, hws⟩ := hrel
          by_cases hjk : j < k
          · have c1 : wr.cell? ⟨g, at_ + j, none⟩ = some (.int .i64 (r' (at_ + j))) := by
              have e := HSs.out (at_ + j) (by omega)
              rw [upd_other r' _ (by omega)] at e
              rw [← e]; exact hBs.cell (by omega)
            have f1 := hBs.frozen (at_ + j)
            have c2 := (hws.cell (p := ⟨bb, fb + j, none⟩) hbb hbg).trans (hcb j hjk)
            have dj : 0 ≤ r' (at_ + j) ∧ r' (at_ + j) < 1073741824 := HD.out j hjk
            have dvj := dv j hjk
            have h30 := and_30 (y + (r' (at_ + j) + v j))
            go_wp2
            go_quiet (fail)
            go_wp2
            have hs := sum_step (x := r' (at_ + j) + v j) HVs.out
            go_roundw
            case rel => exact ⟨j + 1, (y + (r' (at_ + j) + v j)) / 1073741824, upd s (at_ + j) ((y + (r' (at_ + j) + v j)) % 1073741824), by omega, by go_num, rfl, by omega, by omega, (hBs.store (at_ + j) _), fun i hi => by rw [upd_other s _ (by omega)]; exact HSs.out i (by omega), by
                show Dig _ _
                rw [upd_shift]
                exact dig_upd HDs.out (by omega) (by omega), by
                show _ = _
                rw [upd_shift, hs, val_succ, val_succ]; grind, (hws.drewN _).setCell _ _⟩
            case measure => simp [intOf]; omega
          · obtain rfl : j = k := by omega
            have c1 : wr.cell? ⟨g, at_ + j, none⟩ = some (.int .i64 (r (at_ + j) + q)) := by
              have e := HSs.out (at_ + j) (by omega)
              rw [upd_same] at e
              rw [← e]; exact hBs.cell (by omega)
            have f1 := hBs.frozen (at_ + j)
            have hB3 := hBs.store (at_ + j) (r (at_ + j) + q + y)
            have hx : r (at_ + j) + q + y = 0 := by
              have a := hkey.out
              have b := HG.out.2.2.1
              have c := hneg.out
              have d := HVs.out
              have R0 := val_nonneg HDs.out
              have R1 := val_lt HDs.out
              rw [← eV.out] at d
              rw [Int.sub_mul] at b
              have e1 : (r (at_ + j) + q + y) * P j = (r (at_ + j) + q) * P j + y * P j := by rw [Int.add_mul]
              exact tk_end R0 R1 pk hVlt.out (by omega) (by omega)
            have HX : Hid (r (at_ + j) + q + y = 0) := hx
            clear hx
            go_wp2
            go_ret
            refine ⟨t - 1, rfl, upd s (at_ + j) (r (at_ + j) + q + y), hB3, fun i hi => ?_, ?_, ?_, ?_, by omega, by omega, hws.setCell _ _⟩
            · rw [upd_other s _ (by omega), HSs.out i (by omega), upd_other r' _ (by omega)]; exact HS.out i (by omega)
            · rw [upd_shift, HX.out]
              exact dig_upd HDs.out (by omega) (by omega)
            · rw [upd_shift, val_succ, upd_same, val_upd_ge _ _ (Nat.le_refl _), Int.sub_mul]
              have a := hkey.out
              have d := HVs.out
              rw [← eV.out] at d
              have e1 : (r (at_ + j) + q + y) * P j = (r (at_ + j) + q) * P j + y * P j := by rw [Int.add_mul]
              omega
            · rw [upd_shift, val_succ, upd_same, val_upd_ge _ _ (Nat.le_refl _)]
              have a := hkey.out
              have c := hneg.out
              have d := HVs.out
              rw [← eV.out] at d
              have e1 : (r (at_ + j) + q + y) * P j = (r (at_ + j) + q) * P j + y * P j := by rw [Int.add_mul]
              omega
end Go.Proofs.YtmbajngbiefilabDoor
