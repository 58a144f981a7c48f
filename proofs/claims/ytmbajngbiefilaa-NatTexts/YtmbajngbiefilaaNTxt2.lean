/-
  Package nat's extend, Read, Of, by contracts.
-/
import Derived.Test.YtmbajngbiefilaaNTxt
import Derived.Test.YtmbajngbiefilaaNW6
namespace Go.Proofs.Ytmbajngbiefilaa
open Go Go.RowKit Go.Proofs.Ytmbajngbiefilaa.M
set_option linter.unusedSimpArgs false
set_option linter.unusedVariables false

theorem ext_step {r : Nat → Int} {k : Nat} {c x V : Int} (h : val r k + c * P k = V) : val (upd r k ((c + x) % 1073741824)) (k + 1) + (c + x) / 1073741824 * P (k + 1) = V + x * P k := sum_step h
set_option maxHeartbeats 1000000 in
theorem extend_any {B : Nat} {w : World} {v : Value} {t : Nat} {d : Nat → Int} (hO : Out B w v t d) (hN : Nrm d t) (ht : t ≤ 100000) (hB : B ≤ w.heap.size) (low : Int) (h0 : 0 ≤ low) (h1 : low < 1000000000) :
    Calls Try.prog 35 #[v, .int .i64 low] w fun e w' => ∃ v', e = .returned v' ∧ ∃ t' d', Out B w' v' t' d' ∧ Nrm d' t' ∧ val d' t' = val d t * 1000000000 + low ∧ Below B w w' := by
  obtain ⟨ao, cap, rfl, hR⟩ := hO.row
  have hl := hR.le
  have hm := hR.max
  have dd := hN.1
  have HN : Hid (Nrm d t) := hN
  clear hN
  go_enter Try.func35, Try.ntmps35
  go_wp2
  go_loopw [1, 8] (fun s i wr => ∃ (k : Nat) (c : Int) (r : Nat → Int), k ≤ t ∧ i = .int .i64 k ∧ s = .int .i64 c ∧ 0 ≤ c ∧ c < 1000000000 ∧ Out B wr (.slice ao t cap) t r ∧ Dig r t ∧ Hid (∀ i, k ≤ i → r i = d i) ∧ Hid (val r k + c * P k = val d k * 1000000000 + low) ∧ Below B w wr) (fun _ i _ => t - (intOf i).toNat)
  case atStart => exact ⟨0, low, d, Nat.zero_le _, rfl, rfl, h0, h1, hO, dd, fun _ _ => rfl, by show _ = _; show 0 + low * 1 = 0 * 1000000000 + low; omega, Below.refl _ _⟩
  case round =>
    obtain ⟨k, c, r, hk, rfl, rfl, hc0, hc1, hOr, hD, HS, HV, hbw⟩ := hrel
    clear hO hR
    by_cases hlt : k < t
    · obtain ⟨g, rfl, hgB, hgw⟩ := hOr.spot (by omega)
      have c1 := hOr.cell hlt
      have fz := hOr.frozen k
      have dk := hD k hlt
      have hX : r k = d k := HS.out k (Nat.le_refl _)
      have HX : Hid (r k = d k) := hX
      clear hX
      have h30 := and_30 (c + r k * 1000000000)
      go_wp2
      have hs := sum_step (x := r k * 1000000000) HV.out
      go_roundw
      case rel => exact ⟨k + 1, (c + r k * 1000000000) / 1073741824, upd r k ((c + r k * 1000000000) % 1073741824), by omega, by go_num, rfl, by omega, by omega, hOr.store hlt _, hD.upd _ (mod_dig _), fun i hi => by rw [upd_other r _ (by omega)]; exact HS.out i (by omega), by show _ = _; rw [hs, val_succ, HX.out]; grind, hbw.setCell hgB _⟩
      case measure => simp [intOf]; omega
    · obtain rfl : k = t := by omega
      by_cases hc : 0 < c
      · go_wp2_with (at_builtin; refine wpList_app rfl _ _ rfl B _ k r rfl (hOr.stays (bel_alloc _ _)) _ 1 1 (fun _ => c) rfl (row1 _ _ rfl) (by omega) (by have := hbw.size; simp; omega) ?_; intro v' w1 hO1 hg1)
        go_ret
        have hb1 : Below B w w1 := (hbw.alloc (Nat.le_trans hB hbw.size) _).grown hg1 (by have := hbw.size; simp; omega) (own_ge hOr)
        refine ⟨_, rfl, k + 1, upd r k c, hO1.congr (cat_upd r k _), ⟨dig_upd2 hD ⟨by omega, by omega⟩, .inr (by rw [Nat.add_sub_cancel, upd_same]; omega)⟩, ?_, hb1⟩
        rw [val_succ, upd_same, val_upd_ge _ _ (Nat.le_refl _)]
        exact HV.out
      · obtain rfl : c = 0 := by omega
        have hcd : decide ((0 : Int) < 0) = false := by decide
        go_wp2
        go_ret
        have hv : val r k = val d k * 1000000000 + low := by have := HV.out; omega
        refine ⟨_, rfl, k, r, hOr, ⟨hD, top_of hD fun hk0 => ?_⟩, hv, hbw⟩
        rw [hv]
        have h2 := val_top HN.out.1 hk0 HN.out.2
        have h3 := P_pos (k - 1)
        omega
theorem dec_extract {s : ByteArray} {a b i : Nat} (h : a + i < b) (hb : b ≤ s.size) : byt (s.extract a b) i = byt s (a + i) := by
  rw [byt_at (show i < (s.extract a b).size by rw [ByteArray.size_extract]; omega), byt_at (show a + i < s.size by omega)]
  rw [ByteArray.getElem_extract]
end Go.Proofs.Ytmbajngbiefilaa
