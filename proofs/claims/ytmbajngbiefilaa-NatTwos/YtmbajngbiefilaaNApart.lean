/-
  plumblaw2's Keep: Apart, by its contract: what is kept lies apart, each answer in memory of its own.
-/
import Derived.Test.YtmbajngbiefilaaNApart0
namespace Go.Proofs.Ytmbajngbiefilaa
open Go Go.RowKit Go.Proofs.Ytmbajngbiefilaa.M
set_option linter.unusedSimpArgs false
set_option linter.unusedVariables false

set_option maxHeartbeats 4000000 in
set_option maxRecDepth 100000 in
theorem apart_any (B k m : Nat) (v u : Nat → Value) (n : Nat → Nat) (d : Nat → Nat → Int) (w : World) (h : Kp B w k m v u n d) (hB : B ≤ w.heap.size) (hm : m ≤ 400) :
    Calls Try.prog 9 #[.pointer (some ⟨k, 0, none⟩)] w fun e w' => e = .returned (.bool true) ∧ Below B w w' := by
  have HK : Hid (Kp B w k m v u n d) := h
  obtain ⟨x, y, hk, hx, hy, hxy⟩ := h.blk
  have HX : Hid (KX B w k x y m v m u) := ⟨hk, hx, hy, hxy, h.ge⟩
  obtain ⟨xo, xc, rfl, hxl, hxm, hxs⟩ := hx.shape
  obtain ⟨yo, yc, rfl, hyl, hym, hys⟩ := hy.shape
  clear hk hx hy h hxy
  have HXS : Hid (0 < m → ∃ g, xo = some ⟨g, 0, none⟩) := hxs
  have HYS : Hid (0 < m → ∃ g, yo = some ⟨g, 0, none⟩) := hys
  clear hxs hys
  go_enter Try.func9, Try.ntmps9
  go_wp2_with fail
  go_loopw [3] (fun i wr => ∃ q : Nat, q ≤ m ∧ i = .int .i64 q ∧ Below w.heap.size w wr) (fun i _ => m - (intOf i).toNat)
  case atStart => exact ⟨0, Nat.zero_le _, rfl, bel_refl _⟩
  case round =>
    obtain ⟨q, hq, rfl, hbw⟩ := hrel
    obtain ⟨ck0, ck1, fk0, fk1⟩ := keep_at (HX.out.keeps hbw).blk
    by_cases hlt : q < m
    · obtain ⟨gx, rfl⟩ := HXS.out (by omega)
      obtain ⟨gy, rfl⟩ := HYS.out (by omega)
      have kx := HX.out.keeps hbw
      have kp := HK.out.keeps hbw
      have cx : wr.cell? ⟨gx, q, none⟩ = some (v q) := by rw [World.ownsRow.cellAt kx.ox q (by omega), valsV_get v hlt]
      have cy : wr.cell? ⟨gy, q, none⟩ = some (u q) := by rw [World.ownsRow.cellAt kx.oy q (by omega), valsV_get u hlt]
      obtain ⟨vo, vc, hv, rv⟩ := (kp.ans q hlt).row
      obtain ⟨uo, uc, hu, ru⟩ := (kp.was q hlt).row
      rw [hv] at cx
      rw [hu] at cy
      have cx' : wr.cell? ((⟨gx, 0, none⟩ : Addr).add q) = some (.slice vo (n q) vc) := by rw [add_none, Nat.zero_add]; exact cx
      have lt0 := World.block_lt_of_cell? wr _ ck0
      have ltx := World.block_lt_of_cell? wr _ cx
      have lty := World.block_lt_of_cell? wr _ cy
      clear kx kp hv hu
      have i0 : (0 : Int) ≤ (q : Int) := by omega
      have i1 : (q : Int) < (m : Int) := by omega
      go_wp2_with fail
      go_region_held3 (fun W => W.cell? ⟨k, 0, none⟩ = some (.slice (some ⟨gx, 0, none⟩) m xc) ∧ W.cell? ⟨gx, q, none⟩ = some (.slice vo (n q) vc) ∧ W.cell? ⟨k, 1, none⟩ = some (.slice (some ⟨gy, 0, none⟩) m yc) ∧ W.cell? ⟨gy, q, none⟩ = some (.slice uo (n q) uc))
        (first | go_keep | exact ⟨d0, d1, d2, d3⟩)
        (first | ((go_at_call 17; refine (same_self vo uo (n q) vc uc (d q) _ (rv.keeps (bel_refl _).drew) (ru.keeps (bel_refl _).drew)).mono ?_; rintro e w5 ⟨rfl, hb5⟩; have d0 := (hb5.cell (p := ⟨k, 0, none⟩) lt0).trans ck0; have d1 := (hb5.cell (p := ⟨gx, q, none⟩) ltx).trans cx; have d2 := (hb5.cell (p := ⟨k, 1, none⟩) lt0).trans ck1; have d3 := (hb5.cell (p := ⟨gy, q, none⟩) lty).trans cy)))
      go_wp2_with fail
      go_roundw
      case rel => exact ⟨q + 1, by omega, by go_num, bel_trans hbw.drew hb5⟩
      case measure => simp [intOf]; omega
    · obtain rfl : q = m := by omega
      have HA : Hid (Ka B wr k q (.slice xo q xc) (.slice yo q yc) v n d) := by
        have kx := HX.out.keeps hbw
        have kp := HK.out.keeps hbw
        exact ⟨kx.blk, kx.ox, kx.ge, kp.ans, kp.len, kp.apart⟩
      have hbB : Below B w wr := hbw.mono hB
      clear HX HK HYS hbw
      go_wp2_with fail
      go_loopw [4] (fun r w1 => ∃ (t : Nat) (e : Nat → Nat → Int), t ≤ 3 ∧ r = .int .i64 t ∧ Ka B w1 k q (.slice xo q xc) (.slice yo q yc) v n e ∧ (1 ≤ t → ∀ i, i < q → ∀ j, j < n i → e i j = -2 - i) ∧ Below B w w1) (fun r _ => 3 - (intOf r).toNat)
      case atStart => exact ⟨0, d, by omega, rfl, HA.out, fun h => by omega, hbB⟩
      case round =>
        obtain ⟨t, e, ht, rfl, ha, hmark, hb1⟩ := hrel
        have HM : Hid (1 ≤ t → ∀ i, i < q → ∀ j, j < n i → e i j = -2 - i) := hmark
        have HA1 : Hid _ := ha
        clear ha hmark HA
        by_cases h3 : t = 3
        · subst h3
          go_wp2_with fail
          go_ret
          exact ⟨rfl, hb1⟩
        · have h012 : t = 0 ∨ t = 1 ∨ t = 2 := by omega
          clear ht h3
          rcases h012 with h0 | h1 | h2
          · subst h0
            go_wp2_with fail
            go_loopw [5] (fun i w2 => ∃ (p : Nat) (f : Nat → Nat → Int), p ≤ q ∧ i = .int .i64 p ∧ Ka B w2 k q (.slice xo q xc) (.slice yo q yc) v n f ∧ Hid (∀ i, i < p → ∀ j, j < n i → f i j = -2 - i) ∧ Below B w w2) (fun i _ => q - (intOf i).toNat)
            case atStart => exact ⟨0, e, Nat.zero_le _, rfl, HA1.out, fun i hi => by omega, hb1⟩
            case round =>
              clear HA1 HM
              obtain ⟨p, f, hp, rfl, ha, HF, hb2⟩ := hrel
              have HA2 : Hid _ := ha
              clear ha
              by_cases hlt : p < q
              · obtain ⟨gx, rfl⟩ := HXS.out (by omega)
                have hn100 := HA2.out.len p hlt
                obtain ⟨vo, vc, hv, hvl, hvm, cx, ck0, hvs⟩ := HA2.out.at hlt
                have HV : Hid (v p = .slice vo (n p) vc) := hv
                have HVS : Hid (0 < n p → ∃ g, vo = some ⟨g, 0, none⟩) := hvs
                clear hv hvs cx
                go_wp2_with fail
                go_loopw [6] (fun j w3 => ∃ (s : Nat) (f' : Nat → Nat → Int), s ≤ n p ∧ j = .int .i64 s ∧ Ka B w3 k q (.slice (some ⟨gx, 0, none⟩) q xc) (.slice yo q yc) v n f' ∧ Hid (∀ i, i < p → ∀ j, j < n i → f' i j = -2 - i) ∧ Hid (∀ j, j < s → f' p j = -2 - p) ∧ Below B w w3) (fun j _ => n p - (intOf j).toNat)
                case atStart => exact ⟨0, f, Nat.zero_le _, rfl, HA2.out, HF, fun j hj => by omega, hb2⟩
                case round =>
                  clear HA2
                  obtain ⟨s, f', hs, rfl, ha3, HF3, HJ, hb3⟩ := hrel
                  have HA3 : Hid _ := ha3
                  clear ha3
                  obtain ⟨vo', vc', hv', _, _, cx, ck0, _⟩ := HA3.out.at hlt
                  obtain ⟨rfl, _, rfl⟩ : vo = vo' ∧ True ∧ vc = vc' := by have := HV.out.symm.trans hv'; simp only [Value.slice.injEq, true_and] at this; exact ⟨this.1, trivial, this.2⟩
                  clear hv'
                  by_cases hsl : s < n p
                  · obtain ⟨gv, rfl⟩ := HVS.out (by omega)
                    obtain ⟨cv, fv⟩ := HA3.out.cellAt hlt hsl HV.out
                    obtain ⟨HP, hgB⟩ := HA3.out.put hlt hsl HV.out (-2 - p)
                    go_wp2_with fail
                    go_roundw
                    case rel => exact ⟨s + 1, _, by omega, by go_num, HP, fun i hi j hj => by rw [updV_other _ _ (by omega)]; exact HF3.out i hi j hj, fun j hj => by
                        rw [updV_same]
                        by_cases e : j = s
                        · rw [e, upd_same]
                        · rw [upd_other _ _ e]; exact HJ.out j (by omega), hb3.setCell hgB _⟩
                    case measure => simp [intOf]; omega
                  · obtain rfl : s = n p := by omega
                    go_wp2_with fail
                    go_loopw [7] (fun g w4 => g = .int .i64 1 ∧ Ka B w4 k q (.slice (some ⟨gx, 0, none⟩) q xc) (.slice yo q yc) v n f' ∧ Below B w w4) (fun _ _ => 0)
                    case atStart => exact ⟨rfl, HA3.out, hb3⟩
                    case round =>
                      obtain ⟨rfl, ha4, hb4⟩ := hrel
                      go_wp2_with fail
                      go_roundw
                      case rel => exact ⟨p + 1, f', by omega, by go_num, ha4, fun i hi j hj => by
                          by_cases e : i = p
                          · subst e; exact HJ.out j hj
                          · exact HF3.out i (by omega) j hj, hb4⟩
                      case measure => simp [intOf]; omega
              · obtain rfl : p = q := by omega
                obtain ⟨ck0, ck1, fk0, fk1⟩ := keep_at HA2.out.blk
                go_wp2_with fail
                go_roundw
                case rel => exact ⟨1, f, by omega, by go_num, HA2.out, fun _ => HF.out, hb2⟩
                case measure => simp [intOf]
          · subst h1
            go_wp2_with fail
            go_loopw [5] (fun i w2 => ∃ (p : Nat) (f : Nat → Nat → Int), p ≤ q ∧ i = .int .i64 p ∧ Ka B w2 k q (.slice xo q xc) (.slice yo q yc) v n f ∧ Hid (∀ i, i < q → ∀ j, j < n i → f i j = -2 - i) ∧ Below B w w2) (fun i _ => q - (intOf i).toNat)
            case atStart => exact ⟨0, e, Nat.zero_le _, rfl, HA1.out, HM.out (by omega), hb1⟩
            case round =>
              clear HA1 HM
              obtain ⟨p, f, hp, rfl, ha, HF, hb2⟩ := hrel
              have HA2 : Hid _ := ha
              clear ha
              by_cases hlt : p < q
              · obtain ⟨gx, rfl⟩ := HXS.out (by omega)
                have hn100 := HA2.out.len p hlt
                obtain ⟨vo, vc, hv, hvl, hvm, cx, ck0, hvs⟩ := HA2.out.at hlt
                have HV : Hid (v p = .slice vo (n p) vc) := hv
                have HVS : Hid (0 < n p → ∃ g, vo = some ⟨g, 0, none⟩) := hvs
                clear hv hvs cx
                go_wp2_with fail
                go_loopw [6] (fun j w3 => ∃ (s : Nat), s ≤ n p ∧ j = .int .i64 s ∧ Ka B w3 k q (.slice (some ⟨gx, 0, none⟩) q xc) (.slice yo q yc) v n f ∧ Below B w w3) (fun j _ => n p - (intOf j).toNat)
                case atStart => exact ⟨0, Nat.zero_le _, rfl, HA2.out, hb2⟩
                case round =>
                  clear HA2
                  obtain ⟨s, hs, rfl, ha3, hb3⟩ := hrel
                  have HA3 : Hid _ := ha3
                  clear ha3
                  obtain ⟨vo', vc', hv', _, _, cx, ck0, _⟩ := HA3.out.at hlt
                  obtain ⟨rfl, _, rfl⟩ : vo = vo' ∧ True ∧ vc = vc' := by have := HV.out.symm.trans hv'; simp only [Value.slice.injEq, true_and] at this; exact ⟨this.1, trivial, this.2⟩
                  clear hv'
                  by_cases hsl : s < n p
                  · go_wp2_with fail
                    go_roundw
                    case rel => exact ⟨s + 1, by omega, by go_num, HA3.out, hb3⟩
                    case measure => simp [intOf]; omega
                  · obtain rfl : s = n p := by omega
                    go_wp2_with fail
                    go_loopw [7] (fun g w4 => ∃ s : Nat, 1 ≤ s ∧ s ≤ 18 ∧ g = .int .i64 s ∧ Ka B w4 k q (.slice (some ⟨gx, 0, none⟩) q xc) (.slice yo q yc) v n f ∧ Below B w w4) (fun g _ => 18 - (intOf g).toNat)
                    case atStart => exact ⟨1, by omega, by omega, rfl, HA3.out, hb3⟩
                    case round =>
                      clear HA3 cx ck0
                      obtain ⟨s, hs1, hs2, rfl, ha4, hb4⟩ := hrel
                      have HA4 : Hid _ := ha4
                      clear ha4
                      obtain ⟨vo', vc', hv', _, _, cx, ck0, _⟩ := HA4.out.at hlt
                      obtain ⟨rfl, _, rfl⟩ : vo = vo' ∧ True ∧ vc = vc' := by have := HV.out.symm.trans hv'; simp only [Value.slice.injEq, true_and] at this; exact ⟨this.1, trivial, this.2⟩
                      clear hv'
                      by_cases hs17 : s ≤ 17
                      · obtain ⟨L, hL0, hL1, hL2⟩ : ∃ L : Nat, (s : Int) + (s : Int) / 17 * 80 = L ∧ 1 ≤ L ∧ L ≤ 97 := ⟨s + s / 17 * 80, by omega, by omega, by omega⟩
                        have ho4 := HA4.out.ans p hlt
                        rw [HV.out] at ho4
                        have hB4 : B ≤ wr.heap.size := by have := hb4.size; omega
                        have HO4 : Hid (Out B wr (.slice vo (n p) vc) (n p) (f p)) := ho4
                        clear ho4
                        go_wp2_with (first
                          | (at_builtin
                             refine wpList_zeros_keep rfl _ _ rfl B _ (n p) (f p) rfl HO4.out L _ rfl (by first | rfl | exact hL0) (by omega) (by omega) hB4 ?_
                             intro g cap w5 hN hO hg hat
                             have cg := hN.cell (i := n p + L - 1) (by omega)
                             have fg := hN.frozen (n p + L - 1)
                             have hgB := (hN.ge (g := g) rfl).1
                             have HOO : Hid (Out B w5 (.slice vo (n p) vc) (n p) (f p)) := hO
                             have HGG : Hid (wr.grownBy w5 (Value.slice vo (n p) vc).ownBlock) := hg
                             have HAT : Hid ((Value.slice vo (n p) vc).ownBlock = some g ∨ g = wr.heap.size) := hat
                             have hcap := World.ownsRow.capLe hN
                             clear hN hO hg hat))
                        have KP := HA4.out.step hlt (e := f p) (w' := w5.setCell ⟨g, n p + L - 1, none⟩ (.int .i64 7)) (by rw [HV.out]; exact grown_more HGG.out HAT.out _ _) (by rw [HV.out]; exact HOO.out.far g _ 7 fun _ => by omega)
                        rw [updV_self] at KP
                        have BB : Below B w (w5.setCell ⟨g, n p + L - 1, none⟩ (.int .i64 7)) := (hb4.grown HGG.out hB4 (own_ge HO4.out)).setCell hgB _
                        refine ⟨⟨_, _, _, _, _, _, _, _, _, _, _, _, _, _, _, _, _, _, _, _, _, _, _, _, _, _, _, _, ⟨s + 1, by omega, by omega, ?_, KP, BB⟩, rfl⟩, ?_⟩
                        · go_num
                        · simp [intOf]; omega
                      · obtain rfl : s = 18 := by omega
                        go_wp2_with fail
                        go_roundw
                        case rel => exact ⟨p + 1, f, by omega, by go_num, HA4.out, HF, hb4⟩
                        case measure => simp [intOf]; omega
              · obtain rfl : p = q := by omega
                obtain ⟨ck0, ck1, fk0, fk1⟩ := keep_at HA2.out.blk
                go_wp2_with fail
                go_roundw
                case rel => exact ⟨2, f, by omega, by go_num, HA2.out, fun _ => HF.out, hb2⟩
                case measure => simp [intOf]
          · subst h2
            go_wp2_with fail
            go_loopw [5] (fun i w2 => ∃ (p : Nat) (f : Nat → Nat → Int), p ≤ q ∧ i = .int .i64 p ∧ Ka B w2 k q (.slice xo q xc) (.slice yo q yc) v n f ∧ Hid (∀ i, i < q → ∀ j, j < n i → f i j = -2 - i) ∧ Below B w w2) (fun i _ => q - (intOf i).toNat)
            case atStart => exact ⟨0, e, Nat.zero_le _, rfl, HA1.out, HM.out (by omega), hb1⟩
            case round =>
              clear HA1 HM
              obtain ⟨p, f, hp, rfl, ha, HF, hb2⟩ := hrel
              have HA2 : Hid _ := ha
              clear ha
              by_cases hlt : p < q
              · obtain ⟨gx, rfl⟩ := HXS.out (by omega)
                have hn100 := HA2.out.len p hlt
                obtain ⟨vo, vc, hv, hvl, hvm, cx, ck0, hvs⟩ := HA2.out.at hlt
                have HV : Hid (v p = .slice vo (n p) vc) := hv
                have HVS : Hid (0 < n p → ∃ g, vo = some ⟨g, 0, none⟩) := hvs
                clear hv hvs cx
                go_wp2_with fail
                go_loopw [6] (fun j w3 => ∃ (s : Nat), s ≤ n p ∧ j = .int .i64 s ∧ Ka B w3 k q (.slice (some ⟨gx, 0, none⟩) q xc) (.slice yo q yc) v n f ∧ Below B w w3) (fun j _ => n p - (intOf j).toNat)
                case atStart => exact ⟨0, Nat.zero_le _, rfl, HA2.out, hb2⟩
                case round =>
                  clear HA2
                  obtain ⟨s, hs, rfl, ha3, hb3⟩ := hrel
                  have HA3 : Hid _ := ha3
                  clear ha3
                  obtain ⟨vo', vc', hv', _, _, cx, ck0, _⟩ := HA3.out.at hlt
                  obtain ⟨rfl, _, rfl⟩ : vo = vo' ∧ True ∧ vc = vc' := by have := HV.out.symm.trans hv'; simp only [Value.slice.injEq, true_and] at this; exact ⟨this.1, trivial, this.2⟩
                  clear hv'
                  by_cases hsl : s < n p
                  · obtain ⟨gv, rfl⟩ := HVS.out (by omega)
                    obtain ⟨cv, fv⟩ := HA3.out.cellAt hlt hsl HV.out
                    rw [HF.out p hlt s hsl] at cv
                    go_wp2_with fail
                    go_roundw
                    case rel => exact ⟨s + 1, by omega, by go_num, HA3.out, hb3⟩
                    case measure => simp [intOf]; omega
                  · obtain rfl : s = n p := by omega
                    go_wp2_with fail
                    go_loopw [7] (fun g w4 => g = .int .i64 1 ∧ Ka B w4 k q (.slice (some ⟨gx, 0, none⟩) q xc) (.slice yo q yc) v n f ∧ Below B w w4) (fun _ _ => 0)
                    case atStart => exact ⟨rfl, HA3.out, hb3⟩
                    case round =>
                      obtain ⟨rfl, ha4, hb4⟩ := hrel
                      go_wp2_with fail
                      go_roundw
                      case rel => exact ⟨p + 1, f, by omega, by go_num, ha4, HF, hb4⟩
                      case measure => simp [intOf]; omega
              · obtain rfl : p = q := by omega
                obtain ⟨ck0, ck1, fk0, fk1⟩ := keep_at HA2.out.blk
                go_wp2_with fail
                go_roundw
                case rel => exact ⟨3, f, by omega, by go_num, HA2.out, fun _ => HF.out, hb2⟩
                case measure => simp [intOf]
end Go.Proofs.Ytmbajngbiefilaa
