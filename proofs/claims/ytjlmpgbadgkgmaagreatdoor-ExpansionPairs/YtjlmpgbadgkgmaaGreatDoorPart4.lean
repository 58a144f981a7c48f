/-
  Parts of the proof, one behind another.
-/
import Derived.Test.YtjlmpgbadgkgmaaGreatDoorPart3
import Derived.Test.YtjlmpgbadgkgmaaGreatDoorPart1
import Ieee.Arith
import GoSem.Core.Float
import Derived.Lib.BitFns
import Derived.Lib.TrailingZeros
/-
  plumblaw2's Keep, where an answer may be an empty list without room, whatever it points to: Apart.
-/
namespace Go.Proofs.YtjlmpgbadgkgmaaGreatDoor
open Go Go.RowKit Go.Proofs.YtjlmpgbadgkgmaaGreatDoor.M
set_option linter.unusedSimpArgs false
set_option linter.unusedVariables false

/-- 'append(xs, make([]int, L)...)', of a list that may have no room. -/
theorem run_zeros_keepE {w : World} (ty : TypeId) (B : Nat) (v : Value) (n : Nat) (d : Nat → Int) (hO : OutE B w v n d) (L : Nat) (hL : 0 < L) (hlen : n + L ≤ 1000000) (hB : B ≤ w.heap.size) :
    ∃ g cap w', (Builtin.append_ #[22, 3] ty #[v, .int .i64 L]).run Tryz.prog w = .ok (.slice (some ⟨g, 0, none⟩) (n + L) cap) w' ∧ Out B w' (.slice (some ⟨g, 0, none⟩) (n + L) cap) (n + L) (cat d n fun _ => 0) ∧ OutE B w' v n d ∧ w.grownBy w' (ownE v) ∧ (ownE v = some g ∨ g = w.heap.size) := by
  rcases hO.or with ⟨rfl, ao, rfl⟩ | ⟨h, e⟩
  · obtain ⟨i0, hi, hz0, hz1, hz2⟩ := info_parts info_int
    have hfc : (Builtin.firstCells i0.size 0 (.slice ao 0 0)).run Tryz.prog w.drew = .ok (vals d 0).toArray w.drew := by
      cases ao with
      | none => simp [run_firstCells_none, vals]
      | some ad => exact run_firstCells_some (P := Tryz.prog) w.drew i0.size 0 ad 0 0 (vals d 0) (by simp [vals]) (by intro j u hu; simp [vals] at hu)
    have hr := Lib.run_append_grow_zeros (P := Tryz.prog) w 22 3 ty 3 i0 (.int .i64 0) .i64 .i64 Tryz.underlying22 Tryz.underlying3 hi hz0 ao 0 0 (vals d 0) hfc L hL (by rw [hz1]; decide) (by omega) (by omega) (by rw [hz2]; omega) (growslice_fits (by omega) (by rw [hz2]; omega))
    have hge := grownCap_ge w (0 + L) 0 3
    have hcm := grownCap_le_maxLen w (0 + L) 0 3 (by unfold maxLen; omega)
    refine ⟨_, _, _, hr, ⟨by rw [vals_length]; omega, .inr ⟨w.heap.size, _, _, rfl, hB, heap_alloc_new w.drew _, hge, hcm, ?_, ?_⟩⟩, .inl ⟨rfl, ao, rfl⟩, ?_, .inr rfl⟩
    · simp only [Array.size_append, List.size_toArray, size_zeroCells, vals_length]
      show 0 + L * 1 + _ * 1 = _
      omega
    · simp only [Array.toList_append, zero_cells]
      rw [vals_cat, Nat.mul_one]
      exact List.take_left' (vals_length _ _)
    · exact ⟨rfl, rfl, rfl, by simp, fun k hk _ => Below.heap_alloc w.drew _ k hk⟩
  · obtain ⟨g, cap, w', h1, h2, h3, h4, h5⟩ := run_zeros_keep ty B v n d h L hL hlen hB
    rw [← e] at h4 h5
    exact ⟨g, cap, w', h1, h2, .inr h3, h4, h5⟩
theorem wpList_zeros_keepE {w : World} {ops : Array Oper} {rest : List Oper} {o : Oper} {a : Act} {Q : Exit → Act → World → Prop} (hgd : o.guard = none) (s x : Operand) (ho : o.op = .call { callee := .builtin .append, args := #[s, x], argTypes := #[22, 3] })
    (B : Nat) (v : Value) (n : Nat) (d : Nat → Int) (hs : a.eval s = v) (hO : OutE B w v n d) (L : Nat) (X : Int) (hx : a.eval x = .int .i64 X) (hX : X = L) (hL : 0 < L) (hlen : n + L ≤ 1000000) (hB : B ≤ w.heap.size)
    (h : ∀ g cap w', Out B w' (.slice (some ⟨g, 0, none⟩) (n + L) cap) (n + L) (cat d n fun _ => 0) → OutE B w' v n d → w.grownBy w' (ownE v) → ((ownE v) = some g ∨ g = w.heap.size) → wpList Tryz.prog ops Q rest (a.put o.dst (.slice (some ⟨g, 0, none⟩) (n + L) cap)) w') : wpList Tryz.prog ops Q (o :: rest) a w := by
  subst hX
  obtain ⟨g, cap, w', hr, h2, h3, h4, h5⟩ := run_zeros_keepE o.type B v n d hO L hL hlen hB
  exact Lib.wpList_append_run w hgd s x _ _ ho v (.int .i64 L) hs hx _ w' hr (h g cap w' h2 h3 h4 h5)
/-- What is kept, as Apart turns it: m answers v of n digits d. -/
structure KaE (B : Nat) (w : World) (k m : Nat) (x y : Value) (v : Nat → Value) (n : Nat → Nat) (d : Nat → Nat → Int) : Prop where
  blk : w.heap[k]? = some (Obj.cells #[x, y] 26 (0, 0))
  ox : OutV B w x m v
  ge : B ≤ k
  ans : ∀ i, i < m → OutE B w (v i) (n i) (d i)
  len : ∀ i, i < m → n i ≤ 100000
  apart : ∀ i j, i < m → j < m → i ≠ j → ∀ g, (ownE (v i)) = some g → (ownE (v j)) ≠ some g
theorem KaE.keeps {B : Nat} {w w' : World} {k m : Nat} {x y : Value} {v : Nat → Value} {n : Nat → Nat} {d : Nat → Nat → Int} (h : KaE B w k m x y v n d) (hb : Below w.heap.size w w') : KaE B w' k m x y v n d :=
  ⟨(hb.block k (Array.getElem?_eq_some_iff.1 h.blk).1).trans h.blk, h.ox.of_block fun g hg => hb.block g (h.ox.ge hg).2, h.ge, fun i hi => (h.ans i hi).stays hb, h.len, h.apart⟩
theorem KaE.step {B : Nat} {w w' : World} {k m : Nat} {x y : Value} {v : Nat → Value} {n : Nat → Nat} {d : Nat → Nat → Int} (h : KaE B w k m x y v n d) {i : Nat} (hi : i < m) {e : Nat → Int} (hg : w.grownBy w' (ownE (v i))) (hO : OutE B w' (v i) (n i) e) : KaE B w' k m x y v n (updV d i e) := by
  refine ⟨(hg.block k (Array.getElem?_eq_some_iff.1 h.blk).1 fun q => ?_).trans h.blk, h.ox.of_block fun g hgx => hg.block g (h.ox.ge hgx).2 fun q => ?_, h.ge, fun j hj => ?_, h.len, h.apart⟩
  · obtain ⟨cur, z, hc⟩ := (h.ans i hi).typed q.symm
    rw [h.blk] at hc
    simp at hc
  · obtain ⟨cur, z, hc⟩ := (h.ans i hi).typed q.symm
    obtain ⟨cur', z', hc'⟩ := h.ox.typed hgx
    rw [hc'] at hc
    simp at hc
  · by_cases q : j = i
    · subst q; rw [updV_same]; exact hO
    · rw [updV_other _ _ q]
      exact (h.ans j hj).of_block fun g hgj => hg.block g ((h.ans j hj).ge hgj).2 fun p => h.apart j i hj hi q g hgj p.symm
theorem KaE.at {B : Nat} {w : World} {k m gx xc : Nat} {y : Value} {v : Nat → Value} {n : Nat → Nat} {d : Nat → Nat → Int} (h : KaE B w k m (.slice (some ⟨gx, 0, none⟩) m xc) y v n d) {p : Nat} (hp : p < m) :
    ∃ vo vc, v p = .slice vo (n p) vc ∧ n p ≤ vc ∧ vc ≤ 9223372036854775807 ∧ w.cell? ⟨gx, p, none⟩ = some (.slice vo (n p) vc) ∧ w.cell? ⟨k, 0, none⟩ = some (.slice (some ⟨gx, 0, none⟩) m xc) ∧ (0 < n p → ∃ g, vo = some ⟨g, 0, none⟩) := by
  obtain ⟨vo, vc, hv, rv⟩ := (h.ans p hp).row
  refine ⟨vo, vc, hv, rv.le, rv.max, ?_, (keep_at h.blk).1, fun hn => ?_⟩
  · rw [World.ownsRow.cellAt h.ox p (by omega), valsV_get v hp, hv]
  · have := (h.ans p hp).pos hn
    rw [hv] at this
    obtain ⟨g, e, _⟩ := this.spot hn
    exact ⟨g, e⟩
theorem KaE.cellAt {B : Nat} {w : World} {k m : Nat} {x y : Value} {v : Nat → Value} {n : Nat → Nat} {d : Nat → Nat → Int} (h : KaE B w k m x y v n d) {p s g vc : Nat} (hp : p < m) (hs : s < n p) (hv : v p = .slice (some ⟨g, 0, none⟩) (n p) vc) :
    w.cell? ⟨g, s, none⟩ = some (.int .i64 (d p s)) ∧ w.frozen? ⟨g, s, none⟩ = false := by
  have := (h.ans p hp).pos (by omega)
  rw [hv] at this
  exact ⟨this.cell hs, this.frozen s⟩
theorem KaE.put {B : Nat} {w : World} {k m : Nat} {x y : Value} {v : Nat → Value} {n : Nat → Nat} {d : Nat → Nat → Int} (h : KaE B w k m x y v n d) {p s g vc : Nat} (hp : p < m) (hs : s < n p) (hv : v p = .slice (some ⟨g, 0, none⟩) (n p) vc) (z : Int) :
    KaE B (w.setCell ⟨g, s, none⟩ (.int .i64 z)) k m x y v n (updV d p (upd (d p) s z)) ∧ B ≤ g := by
  have h0 := (h.ans p hp).pos (show 0 < n p by omega)
  have h1 := h0
  have ho := (h.ans p hp).ownPos (show 0 < n p by omega)
  rw [hv] at h0
  refine ⟨h.step hp (by rw [ho, hv]; exact grown_set w g s _) (by rw [hv]; exact .inr (h0.store hs z)), (h1.ge (g := g) (by rw [hv]; rfl)).1⟩
set_option maxHeartbeats 4000000 in
set_option maxRecDepth 100000 in
theorem apartE_any (B k m : Nat) (v u : Nat → Value) (n : Nat → Nat) (d : Nat → Nat → Int) (w : World) (h : KpE B w k m v u n d) (hB : B ≤ w.heap.size) (hm : m ≤ 400) :
    Calls Tryz.prog 7 #[.pointer (some ⟨k, 0, none⟩)] w fun e w' => e = .returned (.bool true) ∧ Below B w w' := by
  have HK : Hid (KpE B w k m v u n d) := h
  obtain ⟨x, y, hk, hx, hy, hxy⟩ := h.blk
  have HX : Hid (KX B w k x y m v m u) := ⟨hk, hx, hy, hxy, h.ge⟩
  obtain ⟨xo, xc, rfl, hxl, hxm, hxs⟩ := hx.shape
  obtain ⟨yo, yc, rfl, hyl, hym, hys⟩ := hy.shape
  clear hk hx hy h hxy
  have HXS : Hid (0 < m → ∃ g, xo = some ⟨g, 0, none⟩) := hxs
  have HYS : Hid (0 < m → ∃ g, yo = some ⟨g, 0, none⟩) := hys
  clear hxs hys
  go_enter Tryz.func7, Tryz.ntmps7
  go_wp2_with fail
  go_loopw [3] (fun i wr => ∃ q : Nat, q ≤ m ∧ i = .int .i64 q ∧ Below w.heap.size w wr) (fun i _ => m - (intOf i).toNat)
  case atStart => exact ⟨0, Nat.zero_le _, rfl, bel_refl _⟩
  case round =>
    obtain ⟨q, hq, rfl, hbw⟩ := hrel
    obtain ⟨ck0, ck1, fk0, fk1⟩ := keep_at (HX.out.keeps hbw).blk
    by_cases hlt : q < m
    · obtain ⟨gx, rfl⟩ := HXS.out (by omega)
      obtain ⟨gy, rfl⟩ := HYS.out (by omega)
      have kx := HX.out.keeps hbw
      have kp := HK.out.keeps hbw
      have cx : wr.cell? ⟨gx, q, none⟩ = some (v q) := by rw [World.ownsRow.cellAt kx.ox q (by omega), valsV_get v hlt]
      have cy : wr.cell? ⟨gy, q, none⟩ = some (u q) := by rw [World.ownsRow.cellAt kx.oy q (by omega), valsV_get u hlt]
      obtain ⟨vo, vc, hv, rv⟩ := (kp.ans q hlt).row
      obtain ⟨uo, uc, hu, ru⟩ := (kp.was q hlt).row
      rw [hv] at cx
      rw [hu] at cy
      have cx' : wr.cell? ((⟨gx, 0, none⟩ : Addr).add q) = some (.slice vo (n q) vc) := by rw [add_none, Nat.zero_add]; exact cx
      have lt0 := World.block_lt_of_cell? wr _ ck0
      have ltx := World.block_lt_of_cell? wr _ cx
      have lty := World.block_lt_of_cell? wr _ cy
      clear kx kp hv hu
      have i0 : (0 : Int) ≤ (q : Int) := by omega
      have i1 : (q : Int) < (m : Int) := by omega
      go_wp2_with fail
      go_region_held3 (fun W => W.cell? ⟨k, 0, none⟩ = some (.slice (some ⟨gx, 0, none⟩) m xc) ∧ W.cell? ⟨gx, q, none⟩ = some (.slice vo (n q) vc) ∧ W.cell? ⟨k, 1, none⟩ = some (.slice (some ⟨gy, 0, none⟩) m yc) ∧ W.cell? ⟨gy, q, none⟩ = some (.slice uo (n q) uc))
        (first | go_keep | exact ⟨d0, d1, d2, d3⟩)
        (first | ((go_at_call 11; refine (same_self vo uo (n q) vc uc (d q) _ (rv.keeps (bel_refl _).drew) (ru.keeps (bel_refl _).drew)).mono ?_; rintro e w5 ⟨rfl, hb5⟩; have d0 := (hb5.cell (p := ⟨k, 0, none⟩) lt0).trans ck0; have d1 := (hb5.cell (p := ⟨gx, q, none⟩) ltx).trans cx; have d2 := (hb5.cell (p := ⟨k, 1, none⟩) lt0).trans ck1; have d3 := (hb5.cell (p := ⟨gy, q, none⟩) lty).trans cy)))
      go_wp2_with fail
      go_roundw
      case rel => exact ⟨q + 1, by omega, by go_num, bel_trans hbw.drew hb5⟩
      case measure => simp [intOf]; omega
    · obtain rfl : q = m := by omega
      have HA : Hid (KaE B wr k q (.slice xo q xc) (.slice yo q yc) v n d) := by
        have kx := HX.out.keeps hbw
        have kp := HK.out.keeps hbw
        exact ⟨kx.blk, kx.ox, kx.ge, kp.ans, kp.len, kp.apart⟩
      have hbB : Below B w wr := hbw.mono hB
      clear HX HK HYS hbw
      go_wp2_with fail
      go_loopw [4] (fun r w1 => ∃ (t : Nat) (e : Nat → Nat → Int), t ≤ 3 ∧ r = .int .i64 t ∧ KaE B w1 k q (.slice xo q xc) (.slice yo q yc) v n e ∧ (1 ≤ t → ∀ i, i < q → ∀ j, j < n i → e i j = -2 - i) ∧ Below B w w1) (fun r _ => 3 - (intOf r).toNat)
      case atStart => exact ⟨0, d, by omega, rfl, HA.out, fun h => by omega, hbB⟩
      case round =>
        obtain ⟨t, e, ht, rfl, ha, hmark, hb1⟩ := hrel
        have HM : Hid (1 ≤ t → ∀ i, i < q → ∀ j, j < n i → e i j = -2 - i) := hmark
        have HA1 : Hid _ := ha
        clear ha hmark HA
        by_cases h3 : t = 3
        · subst h3
          go_wp2_with fail
          go_ret
          exact ⟨rfl, hb1⟩
        · have h012 : t = 0 ∨ t = 1 ∨ t = 2 := by omega
          clear ht h3
          rcases h012 with h0 | h1 | h2
          · subst h0
            go_wp2_with fail
            go_loopw [5] (fun i w2 => ∃ (p : Nat) (f : Nat → Nat → Int), p ≤ q ∧ i = .int .i64 p ∧ KaE B w2 k q (.slice xo q xc) (.slice yo q yc) v n f ∧ Hid (∀ i, i < p → ∀ j, j < n i → f i j = -2 - i) ∧ Below B w w2) (fun i _ => q - (intOf i).toNat)
            case atStart => exact ⟨0, e, Nat.zero_le _, rfl, HA1.out, fun i hi => by omega, hb1⟩
            case round =>
              clear HA1 HM
              obtain ⟨p, f, hp, rfl, ha, HF, hb2⟩ := hrel
              have HA2 : Hid _ := ha
              clear ha
              by_cases hlt : p < q
              · obtain ⟨gx, rfl⟩ := HXS.out (by omega)
                have hn100 := HA2.out.len p hlt
                obtain ⟨vo, vc, hv, hvl, hvm, cx, ck0, hvs⟩ := HA2.out.at hlt
                have HV : Hid (v p = .slice vo (n p) vc) := hv
                have HVS : Hid (0 < n p → ∃ g, vo = some ⟨g, 0, none⟩) := hvs
                clear hv hvs cx
                go_wp2_with fail
                go_loopw [6] (fun j w3 => ∃ (s : Nat) (f' : Nat → Nat → Int), s ≤ n p ∧ j = .int .i64 s ∧ KaE B w3 k q (.slice (some ⟨gx, 0, none⟩) q xc) (.slice yo q yc) v n f' ∧ Hid (∀ i, i < p → ∀ j, j < n i → f' i j = -2 - i) ∧ Hid (∀ j, j < s → f' p j = -2 - p) ∧ Below B w w3) (fun j _ => n p - (intOf j).toNat)
                case atStart => exact ⟨0, f, Nat.zero_le _, rfl, HA2.out, HF, fun j hj => by omega, hb2⟩
                case round =>
                  clear HA2
                  obtain ⟨s, f', hs, rfl, ha3, HF3, HJ, hb3⟩ := hrel
                  have HA3 : Hid _ := ha3
                  clear ha3
                  obtain ⟨vo', vc', hv', _, _, cx, ck0, _⟩ := HA3.out.at hlt
                  obtain ⟨rfl, _, rfl⟩ : vo = vo' ∧ True ∧ vc = vc' := by have := HV.out.symm.trans hv'; simp only [Value.slice.injEq, true_and] at this; exact ⟨this.1, trivial, this.2⟩
                  clear hv'
                  by_cases hsl : s < n p
                  · obtain ⟨gv, rfl⟩ := HVS.out (by omega)
                    obtain ⟨cv, fv⟩ := HA3.out.cellAt hlt hsl HV.out
                    obtain ⟨HP, hgB⟩ := HA3.out.put hlt hsl HV.out (-2 - p)
                    go_wp2_with fail
                    go_roundw
                    case rel => exact ⟨s + 1, _, by omega, by go_num, HP, fun i hi j hj => by rw [updV_other _ _ (by omega)]; exact HF3.out i hi j hj, fun j hj => by
                        rw [updV_same]
                        by_cases e : j = s
                        · rw [e, upd_same]
                        · rw [upd_other _ _ e]; exact HJ.out j (by omega), hb3.setCell hgB _⟩
                    case measure => simp [intOf]; omega
                  · obtain rfl : s = n p := by omega
                    go_wp2_with fail
                    go_loopw [7] (fun g w4 => g = .int .i64 1 ∧ KaE B w4 k q (.slice (some ⟨gx, 0, none⟩) q xc) (.slice yo q yc) v n f' ∧ Below B w w4) (fun _ _ => 0)
                    case atStart => exact ⟨rfl, HA3.out, hb3⟩
                    case round =>
                      obtain ⟨rfl, ha4, hb4⟩ := hrel
                      go_wp2_with fail
                      go_roundw
                      case rel => exact ⟨p + 1, f', by omega, by go_num, ha4, fun i hi j hj => by
                          by_cases e : i = p
                          · subst e; exact HJ.out j hj
                          · exact HF3.out i (by omega) j hj, hb4⟩
                      case measure => simp [intOf]; omega
              · obtain rfl : p = q := by omega
                obtain ⟨ck0, ck1, fk0, fk1⟩ := keep_at HA2.out.blk
                go_wp2_with fail
                go_roundw
                case rel => exact ⟨1, f, by omega, by go_num, HA2.out, fun _ => HF.out, hb2⟩
                case measure => simp [intOf]
          · subst h1
            go_wp2_with fail
            go_loopw [5] (fun i w2 => ∃ (p : Nat) (f : Nat → Nat → Int), p ≤ q ∧ i = .int .i64 p ∧ KaE B w2 k q (.slice xo q xc) (.slice yo q yc) v n f ∧ Hid (∀ i, i < q → ∀ j, j < n i → f i j = -2 - i) ∧ Below B w w2) (fun i _ => q - (intOf i).toNat)
            case atStart => exact ⟨0, e, Nat.zero_le _, rfl, HA1.out, HM.out (by omega), hb1⟩
            case round =>
              clear HA1 HM
              obtain ⟨p, f, hp, rfl, ha, HF, hb2⟩ := hrel
              have HA2 : Hid _ := ha
              clear ha
              by_cases hlt : p < q
              · obtain ⟨gx, rfl⟩ := HXS.out (by omega)
                have hn100 := HA2.out.len p hlt
                obtain ⟨vo, vc, hv, hvl, hvm, cx, ck0, hvs⟩ := HA2.out.at hlt
                have HV : Hid (v p = .slice vo (n p) vc) := hv
                have HVS : Hid (0 < n p → ∃ g, vo = some ⟨g, 0, none⟩) := hvs
                clear hv hvs cx
                go_wp2_with fail
                go_loopw [6] (fun j w3 => ∃ (s : Nat), s ≤ n p ∧ j = .int .i64 s ∧ KaE B w3 k q (.slice (some ⟨gx, 0, none⟩) q xc) (.slice yo q yc) v n f ∧ Below B w w3) (fun j _ => n p - (intOf j).toNat)
                case atStart => exact ⟨0, Nat.zero_le _, rfl, HA2.out, hb2⟩
                case round =>
                  clear HA2
                  obtain ⟨s, hs, rfl, ha3, hb3⟩ := hrel
                  have HA3 : Hid _ := ha3
                  clear ha3
                  obtain ⟨vo', vc', hv', _, _, cx, ck0, _⟩ := HA3.out.at hlt
                  obtain ⟨rfl, _, rfl⟩ : vo = vo' ∧ True ∧ vc = vc' := by have := HV.out.symm.trans hv'; simp only [Value.slice.injEq, true_and] at this; exact ⟨this.1, trivial, this.2⟩
                  clear hv'
                  by_cases hsl : s < n p
                  · go_wp2_with fail
                    go_roundw
                    case rel => exact ⟨s + 1, by omega, by go_num, HA3.out, hb3⟩
                    case measure => simp [intOf]; omega
                  · obtain rfl : s = n p := by omega
                    go_wp2_with fail
                    go_loopw [7] (fun g w4 => ∃ s : Nat, 1 ≤ s ∧ s ≤ 18 ∧ g = .int .i64 s ∧ KaE B w4 k q (.slice (some ⟨gx, 0, none⟩) q xc) (.slice yo q yc) v n f ∧ Below B w w4) (fun g _ => 18 - (intOf g).toNat)
                    case atStart => exact ⟨1, by omega, by omega, rfl, HA3.out, hb3⟩
                    case round =>
                      clear HA3 cx ck0
                      obtain ⟨s, hs1, hs2, rfl, ha4, hb4⟩ := hrel
                      have HA4 : Hid _ := ha4
                      clear ha4
                      obtain ⟨vo', vc', hv', _, _, cx, ck0, _⟩ := HA4.out.at hlt
                      obtain ⟨rfl, _, rfl⟩ : vo = vo' ∧ True ∧ vc = vc' := by have := HV.out.symm.trans hv'; simp only [Value.slice.injEq, true_and] at this; exact ⟨this.1, trivial, this.2⟩
                      clear hv'
                      by_cases hs17 : s ≤ 17
                      · obtain ⟨L, hL0, hL1, hL2⟩ : ∃ L : Nat, (s : Int) + (s : Int) / 17 * 80 = L ∧ 1 ≤ L ∧ L ≤ 97 := ⟨s + s / 17 * 80, by omega, by omega, by omega⟩
                        have ho4 := HA4.out.ans p hlt
                        rw [HV.out] at ho4
                        have hB4 : B ≤ wr.heap.size := by have := hb4.size; omega
                        have HO4 : Hid (OutE B wr (.slice vo (n p) vc) (n p) (f p)) := ho4
                        clear ho4
                        go_wp2_with (first
                          | (at_builtin
                             refine wpList_zeros_keepE rfl _ _ rfl B _ (n p) (f p) rfl HO4.out L _ rfl (by first | rfl | exact hL0) (by omega) (by omega) hB4 ?_
                             intro g cap w5 hN hO hg hat
                             have cg := hN.cell (i := n p + L - 1) (by omega)
                             have fg := hN.frozen (n p + L - 1)
                             have hgB := (hN.ge (g := g) rfl).1
                             have HOO : Hid (OutE B w5 (.slice vo (n p) vc) (n p) (f p)) := hO
                             have HGG : Hid (wr.grownBy w5 (ownE (.slice vo (n p) vc))) := hg
                             have HAT : Hid ((ownE (.slice vo (n p) vc)) = some g ∨ g = wr.heap.size) := hat
                             have hcap := World.ownsRow.capLe hN
                             clear hN hO hg hat))
                        have KP := HA4.out.step hlt (e := f p) (w' := w5.setCell ⟨g, n p + L - 1, none⟩ (.int .i64 7)) (by rw [HV.out]; exact grown_more HGG.out HAT.out _ _) (by rw [HV.out]; exact HOO.out.far g _ 7 fun _ => by omega)
                        rw [updV_self] at KP
                        have BB : Below B w (w5.setCell ⟨g, n p + L - 1, none⟩ (.int .i64 7)) := (hb4.grown HGG.out hB4 (fun g hg => (HO4.out.ge hg).1)).setCell hgB _
                        refine ⟨⟨_, _, _, _, _, _, _, _, _, _, _, _, _, _, _, _, _, _, _, _, _, _, _, _, _, _, _, _, ⟨s + 1, by omega, by omega, ?_, KP, BB⟩, rfl⟩, ?_⟩
                        · go_num
                        · simp [intOf]; omega
                      · obtain rfl : s = 18 := by omega
                        go_wp2_with fail
                        go_roundw
                        case rel => exact ⟨p + 1, f, by omega, by go_num, HA4.out, HF, hb4⟩
                        case measure => simp [intOf]; omega
              · obtain rfl : p = q := by omega
                obtain ⟨ck0, ck1, fk0, fk1⟩ := keep_at HA2.out.blk
                go_wp2_with fail
                go_roundw
                case rel => exact ⟨2, f, by omega, by go_num, HA2.out, fun _ => HF.out, hb2⟩
                case measure => simp [intOf]
          · subst h2
            go_wp2_with fail
            go_loopw [5] (fun i w2 => ∃ (p : Nat) (f : Nat → Nat → Int), p ≤ q ∧ i = .int .i64 p ∧ KaE B w2 k q (.slice xo q xc) (.slice yo q yc) v n f ∧ Hid (∀ i, i < q → ∀ j, j < n i → f i j = -2 - i) ∧ Below B w w2) (fun i _ => q - (intOf i).toNat)
            case atStart => exact ⟨0, e, Nat.zero_le _, rfl, HA1.out, HM.out (by omega), hb1⟩
            case round =>
              clear HA1 HM
              obtain ⟨p, f, hp, rfl, ha, HF, hb2⟩ := hrel
              have HA2 : Hid _ := ha
              clear ha
              by_cases hlt : p < q
              · obtain ⟨gx, rfl⟩ := HXS.out (by omega)
                have hn100 := HA2.out.len p hlt
                obtain ⟨vo, vc, hv, hvl, hvm, cx, ck0, hvs⟩ := HA2.out.at hlt
                have HV : Hid (v p = .slice vo (n p) vc) := hv
                have HVS : Hid (0 < n p → ∃ g, vo = some ⟨g, 0, none⟩) := hvs
                clear hv hvs cx
                go_wp2_with fail
                go_loopw [6] (fun j w3 => ∃ (s : Nat), s ≤ n p ∧ j = .int .i64 s ∧ KaE B w3 k q (.slice (some ⟨gx, 0, none⟩) q xc) (.slice yo q yc) v n f ∧ Below B w w3) (fun j _ => n p - (intOf j).toNat)
                case atStart => exact ⟨0, Nat.zero_le _, rfl, HA2.out, hb2⟩
                case round =>
                  clear HA2
                  obtain ⟨s, hs, rfl, ha3, hb3⟩ := hrel
                  have HA3 : Hid _ := ha3
                  clear ha3
                  obtain ⟨vo', vc', hv', _, _, cx, ck0, _⟩ := HA3.out.at hlt
                  obtain ⟨rfl, _, rfl⟩ : vo = vo' ∧ True ∧ vc = vc' := by have := HV.out.symm.trans hv'; simp only [Value.slice.injEq, true_and] at this; exact ⟨this.1, trivial, this.2⟩
                  clear hv'
                  by_cases hsl : s < n p
                  · obtain ⟨gv, rfl⟩ := HVS.out (by omega)
                    obtain ⟨cv, fv⟩ := HA3.out.cellAt hlt hsl HV.out
                    rw [HF.out p hlt s hsl] at cv
                    go_wp2_with fail
                    go_roundw
                    case rel => exact ⟨s + 1, by omega, by go_num, HA3.out, hb3⟩
                    case measure => simp [intOf]; omega
                  · obtain rfl : s = n p := by omega
                    go_wp2_with fail
                    go_loopw [7] (fun g w4 => g = .int .i64 1 ∧ KaE B w4 k q (.slice (some ⟨gx, 0, none⟩) q xc) (.slice yo q yc) v n f ∧ Below B w w4) (fun _ _ => 0)
                    case atStart => exact ⟨rfl, HA3.out, hb3⟩
                    case round =>
                      obtain ⟨rfl, ha4, hb4⟩ := hrel
                      go_wp2_with fail
                      go_roundw
                      case rel => exact ⟨p + 1, f, by omega, by go_num, ha4, HF, hb4⟩
                      case measure => simp [intOf]; omega
              · obtain rfl : p = q := by omega
                obtain ⟨ck0, ck1, fk0, fk1⟩ := keep_at HA2.out.blk
                go_wp2_with fail
                go_roundw
                case rel => exact ⟨3, f, by omega, by go_num, HA2.out, fun _ => HF.out, hb2⟩
                case measure => simp [intOf]
/-- Nothing is kept yet. -/
theorem keptE_new (w : World) {B : Nat} (hB : B ≤ w.heap.size) : KeptE B (w.alloc (.cells #[.slice none 0 0, .slice none 0 0] 26)) w.heap.size (fun _ => False) :=
  ⟨0, fun _ => .slice none 0 0, fun _ => .slice none 0 0, fun _ => 0, fun _ _ => 0, by omega, ⟨⟨.slice none 0 0, .slice none 0 0, heap_alloc_new w _, World.ownsRow_nil _ _ _ _, World.ownsRow_nil _ _ _ _, fun g hg => by simp [Value.ownBlock] at hg⟩, hB, fun i hi => by omega, fun i hi => by omega, fun i hi => by omega, fun i j hi => by omega⟩, fun i hi => by omega, fun i hi => by omega⟩
theorem apart_keptE {B k : Nat} {w : World} {S : Nat → Prop} (h : KeptE B w k S) (hB : B ≤ w.heap.size) :
    Calls Tryz.prog 7 #[.pointer (some ⟨k, 0, none⟩)] w fun e w' => e = .returned (.bool true) ∧ Below B w w' := by
  obtain ⟨m, v, u, n, d, hm, hk, _, _⟩ := h
  exact apartE_any B k m v u n d w hk hB hm
end Go.Proofs.YtjlmpgbadgkgmaaGreatDoor

/-
  Plain mathematics of exact numbers: a number is told by one whole number V, its value times 2^LL, whatever its exponent; its one form (a sign, an odd number, an exponent) hangs on V alone. No Go text in sight.
-/
namespace Go.Proofs.YtjlmpgbadgkgmaaGreatDoor.M
open Go
set_option linter.unusedSimpArgs false
set_option linter.unusedVariables false

def LL : Nat := 4194304
/-- 2^e in the scale. -/
def pw (e : Int) : Int := 2 ^ (e + 4194304).toNat
def sg (b : Bool) (x : Int) : Int := if b then -x else x
theorem pw_pos (e : Int) : 0 < pw e := two_pos _
theorem pw_add {e : Int} (h : -4194304 ≤ e) (l : Nat) : pw (e + l) = pw e * 2 ^ l := by
  unfold pw
  rw [show (e + l + 4194304).toNat = (e + 4194304).toNat + l by omega, Int.pow_add]
theorem pw_sub {e low : Int} (h : -4194304 ≤ low) (h1 : low ≤ e) : pw e = 2 ^ (e - low).toNat * pw low := by
  have := pw_add h (e - low).toNat
  rw [show low + ((e - low).toNat : Int) = e by omega] at this
  rw [this, Int.mul_comm]
theorem pw_mul {a b : Int} (ha : -2097152 ≤ a) (hb : -2097152 ≤ b) : pw a * pw b = pw (a + b) * 2 ^ 4194304 := by
  unfold pw
  rw [← Int.pow_add, ← Int.pow_add, show (a + 4194304).toNat + (b + 4194304).toNat = (a + b + 4194304).toNat + 4194304 by omega]
theorem sg_mul (a b : Bool) (x y : Int) : sg a x * sg b y = sg (a != b) (x * y) := by
  cases a <;> cases b <;> simp [sg, Int.neg_mul, Int.mul_neg]
theorem sg_sgn (b : Bool) (x : Int) : sg b x = (if b then -1 else 1) * x := by cases b <;> simp [sg]
theorem sg_not (b : Bool) (x : Int) : sg (!b) x = -sg b x := by cases b <;> simp [sg]
theorem sg_zero (b : Bool) : sg b 0 = 0 := by cases b <;> rfl
theorem sg_eq_zero {b : Bool} {x : Int} (h : sg b x = 0) : x = 0 := by cases b <;> simp [sg] at h <;> exact h

/-- The one form of V: sign, odd number, exponent. -/
structure Dy (V : Int) (ng : Bool) (m e : Int) : Prop where
  val : V = sg ng m * pw e
  low : -4194304 ≤ e
  form : (m = 0 ∧ ng = false ∧ e = 0) ∨ (0 < m ∧ m % 2 = 1)
/-- V has a valid form. -/
def Dok (V : Int) : Prop := ∃ ng m e, Dy V ng m e ∧ m < P 2000 ∧ -1048576 ≤ e ∧ e ≤ 1048576
theorem Dy.zero : Dy 0 false 0 0 := ⟨by simp [sg], by decide, .inl ⟨rfl, rfl, rfl⟩⟩
theorem dok_zero : Dok 0 := ⟨_, _, _, Dy.zero, P_pos _, by decide, by decide⟩
theorem Dy.eq_zero {V : Int} {ng : Bool} {m e : Int} (h : Dy V ng m e) : V = 0 ↔ m = 0 := by
  constructor
  · intro h0
    have := h.val
    rw [h0] at this
    rcases Int.mul_eq_zero.1 this.symm with h1 | h1
    · exact sg_eq_zero h1
    · have := pw_pos e; omega
  · intro h0
    rw [h.val, h0, sg_zero, Int.zero_mul]
theorem Dy.nonneg {V : Int} {ng : Bool} {m e : Int} (h : Dy V ng m e) : 0 ≤ m := by rcases h.form with h | h <;> omega
theorem Dy.neg_iff {V : Int} {ng : Bool} {m e : Int} (h : Dy V ng m e) : ng = true ↔ V < 0 := by
  have hp := pw_pos e
  rcases h.form with ⟨h1, h2, h3⟩ | ⟨h1, _⟩
  · have := h.eq_zero.2 h1; simp [h2]; omega
  · have hm : 0 < m * pw e := Int.mul_pos h1 hp
    have := h.val
    cases ng
    · simp [sg] at this; simp; omega
    · simp [sg, Int.neg_mul] at this; simp; omega
theorem odd_pow {m m' : Int} {a b : Nat} (h : m % 2 = 1) (h' : m' % 2 = 1) (e : m * 2 ^ a = m' * 2 ^ b) : ¬ a < b := by
  intro hlt
  obtain ⟨d, rfl⟩ : ∃ d, b = a + 1 + d := ⟨b - a - 1, by omega⟩
  rw [Int.pow_add, Int.pow_add] at e
  have e1 : m * 2 ^ a = (m' * (2 ^ d * 2)) * 2 ^ a := by rw [e]; grind
  have e2 := Int.eq_of_mul_eq_mul_right (Int.ne_of_gt (two_pos a)) e1
  rw [show m' * (2 ^ d * 2) = 2 * (m' * 2 ^ d) by grind] at e2
  omega
/-- V has one form. -/
theorem Dy.unique {V : Int} {ng ng' : Bool} {m m' e e' : Int} (h : Dy V ng m e) (k : Dy V ng' m' e') : ng = ng' ∧ m = m' ∧ e = e' := by
  have hn : ng = ng' := by
    have a := h.neg_iff
    have b := k.neg_iff
    cases ng <;> cases ng' <;> simp_all <;> omega
  subst hn
  rcases h.form with ⟨h1, h2, h3⟩ | ⟨h1, h2⟩
  · have h0 := k.eq_zero.1 (h.eq_zero.2 h1)
    rcases k.form with ⟨k1, k2, k3⟩ | ⟨k1, k2⟩
    · exact ⟨rfl, by omega, by omega⟩
    · omega
  · rcases k.form with ⟨k1, k2, k3⟩ | ⟨k1, k2⟩
    · have := h.eq_zero.1 (k.eq_zero.2 k1); omega
    · have e1 : m * pw e = m' * pw e' := by
        have := h.val.symm.trans k.val
        cases ng
        · simpa [sg] using this
        · simpa [sg, Int.neg_mul] using this
      have a1 := odd_pow h2 k2 e1
      have a2 := odd_pow k2 h2 e1.symm
      have l1 := h.low
      have l2 := k.low
      obtain rfl : e = e' := by omega
      exact ⟨rfl, Int.eq_of_mul_eq_mul_right (Int.ne_of_gt (pw_pos _)) e1, rfl⟩
theorem Dy.ok {V : Int} {ng : Bool} {m e : Int} (h : Dy V ng m e) : Dok V ↔ m < P 2000 ∧ -1048576 ≤ e ∧ e ≤ 1048576 := by
  constructor
  · rintro ⟨ng', m', e', k, h3⟩
    obtain ⟨_, rfl, rfl⟩ := h.unique k
    exact h3
  · exact fun h3 => ⟨_, _, _, h, h3⟩
theorem Dy.neg {V : Int} {ng : Bool} {m e : Int} (h : Dy V ng m e) (h0 : 0 < m) : Dy (-V) (!ng) m e :=
  ⟨by rw [sg_not, Int.neg_mul, ← h.val], h.low, by rcases h.form with ⟨h1, _⟩ | h1; (· omega); (· exact .inr h1)⟩
theorem sg_abs {V : Int} {ng : Bool} {m e : Int} (h : Dy V ng m e) : m * pw e = V.natAbs := by
  have := h.val
  have h0 := h.nonneg
  have : 0 ≤ m * pw e := Int.mul_nonneg h0 (Int.le_of_lt (pw_pos _))
  cases ng <;> simp [sg, Int.neg_mul] at * <;> omega
theorem isLow_odd {M : Int} {l : Nat} (h : IsLow M l) (h0 : 0 < M) : 0 < M / 2 ^ l ∧ (M / 2 ^ l) % 2 = 1 ∧ M / 2 ^ l * 2 ^ l = M := by
  obtain ⟨k, hk⟩ := h
  have hp := two_pos l
  have e : M / 2 ^ l = 2 * k + 1 := by rw [hk]; exact Int.mul_ediv_cancel _ (by omega)
  rw [e]
  refine ⟨?_, by omega, hk.symm⟩
  by_cases h1 : 0 < 2 * k + 1
  · exact h1
  · have : (2 * k + 1) * 2 ^ l ≤ 0 := Int.mul_nonpos_of_nonpos_of_nonneg (by omega) (by omega)
    omega
/-- The form of a number that may be even. -/
theorem Dy.of {M e : Int} {l : Nat} (ng : Bool) (h : IsLow M l) (h0 : 0 < M) (he : -4194304 ≤ e) : Dy (sg ng M * pw e) ng (M / 2 ^ l) (e + l) := by
  obtain ⟨a, b, c⟩ := isLow_odd h h0
  refine ⟨?_, by omega, .inr ⟨a, b⟩⟩
  rw [pw_add he, sg_sgn, sg_sgn]
  rw [show (if ng = true then (-1 : Int) else 1) * (M / 2 ^ l) * (pw e * 2 ^ l) = (if ng = true then (-1 : Int) else 1) * (M / 2 ^ l * 2 ^ l) * pw e by grind, c]
theorem Dy.sum {V V' : Int} {low s s' : Int} (h : V = s * pw low) (h' : V' = s' * pw low) : V + V' = (s + s') * pw low := by rw [h, h', Int.add_mul]
/-- Brought to a lower exponent. -/
theorem Dy.at {V : Int} {ng : Bool} {m e low : Int} (h : Dy V ng m e) (hl : -4194304 ≤ low) (h1 : low ≤ e) : V = sg ng (m * 2 ^ (e - low).toNat) * pw low := by
  rw [h.val, pw_sub hl h1, sg_sgn, sg_sgn]; grind
theorem scale_inj {x y : Int} (h : x * 2 ^ 4194304 = y * 2 ^ 4194304) : x = y := Int.eq_of_mul_eq_mul_right (Int.ne_of_gt (two_pos _)) h
end Go.Proofs.YtjlmpgbadgkgmaaGreatDoor.M

/-
  Plain mathematics of floats: the order of words is the order of signed rungs; less, same and the order of all patterns. No Go text in sight.
-/
namespace Go.Proofs.YtjlmpgbadgkgmaaGreatDoor.M
open Go Ieee
set_option linter.unusedSimpArgs false
set_option linter.unusedVariables false

/-- the magnitude of a rung, in units of the least place -/
def V (f : Format) (r : Nat) : Nat := if r < f.binade then r else (f.binade + r % f.binade) * 2 ^ (r / f.binade - 1)

theorem binade_pos (f : Format) : 0 < f.binade := Nat.two_pow_pos _
theorem V_succ (f : Format) (r : Nat) : V f r < V f (r + 1) := by
  have hB := binade_pos f
  unfold V
  generalize hBd : f.binade = B at *
  clear hBd
  by_cases h1 : r + 1 < B
  · rw [if_pos (by omega), if_pos h1]; omega
  · rw [if_neg h1]
    by_cases h2 : r < B
    · have : r + 1 = B := by omega
      rw [if_pos h2, this, Nat.mod_self, Nat.div_self hB]; simp; omega
    · rw [if_neg h2]
      have hq : 1 ≤ r / B := (Nat.one_le_div_iff hB).2 (by omega)
      have hd := Nat.div_add_mod r B
      have hm := Nat.mod_lt r hB
      have hp : 0 < 2 ^ (r / B - 1) := Nat.two_pow_pos _
      by_cases h3 : r % B + 1 < B
      · have e1 : (r + 1) % B = r % B + 1 := by
          rw [Nat.add_mod, Nat.mod_eq_of_lt (show 1 < B by omega)]; exact Nat.mod_eq_of_lt h3
        have e2 : (r + 1) / B = r / B := by
          have := Nat.div_add_mod (r + 1) B
          rw [e1] at this
          have h4 : B * ((r + 1) / B) = B * (r / B) := by omega
          exact Nat.eq_of_mul_eq_mul_left hB h4
        rw [e1, e2]
        exact Nat.mul_lt_mul_of_pos_right (by omega) hp
      · have h4 : r % B + 1 = B := by omega
        have e0 : r + 1 = B * (r / B + 1) := by rw [Nat.mul_add, Nat.mul_one]; omega
        have e1 : (r + 1) % B = 0 := by rw [e0]; exact Nat.mul_mod_right _ _
        have e2 : (r + 1) / B = r / B + 1 := by rw [e0]; exact Nat.mul_div_cancel_left _ hB
        rw [e1, e2]
        have e3 : 2 ^ (r / B + 1 - 1) = 2 * 2 ^ (r / B - 1) := by
          rw [show r / B + 1 - 1 = (r / B - 1) + 1 by omega, Nat.pow_succ, Nat.mul_comm]
        rw [e3, Nat.add_zero, ← Nat.mul_assoc]
        exact Nat.mul_lt_mul_of_pos_right (by omega) hp
theorem V_lt (f : Format) {r s : Nat} (h : r < s) : V f r < V f s := by
  induction s with
  | zero => omega
  | succ s ih =>
    rcases Nat.lt_or_ge r s with h1 | h1
    · exact Nat.lt_trans (ih h1) (V_succ f s)
    · have : r = s := by omega
      subst this
      exact V_succ f r
theorem V_lt_iff (f : Format) (r s : Nat) : V f r < V f s ↔ r < s := by
  constructor
  · intro h
    rcases Nat.lt_trichotomy r s with h1 | h1 | h1
    · exact h1
    · subst h1; omega
    · have := V_lt f h1; omega
  · exact V_lt f
theorem V_zero (f : Format) : V f 0 = 0 := by unfold V; rw [if_pos (binade_pos f)]

/-- a finite word's reading: its magnitude in units of the least place is V of its rung -/
theorem read_finite (f : Format) (x : Nat) (h : x % f.signWeight < f.infRung) :
    ∃ m u : Nat, f.read x = .number (x / f.signWeight % 2 == 1) m (f.leastPlace + u) ∧ m * 2 ^ u = V f (x % f.signWeight) := by
  unfold Format.read V
  dsimp only
  by_cases h1 : x % f.signWeight < f.binade
  · rw [if_pos h1, if_pos h1]
    exact ⟨x % f.signWeight, 0, by simp, by simp⟩
  · rw [if_neg h1, if_pos h, if_neg h1]
    exact ⟨_, _, rfl, rfl⟩
theorem read_inf (f : Format) (hI : f.binade ≤ f.infRung) (x : Nat) (h : x % f.signWeight = f.infRung) : f.read x = .infinity (x / f.signWeight % 2 == 1) := by
  unfold Format.read
  dsimp only
  rw [h, if_neg (by omega), if_neg (by omega), if_pos rfl]
theorem read_nan (f : Format) (hI : f.binade ≤ f.infRung) (x : Nat) (h : f.infRung < x % f.signWeight) : ∃ s t, f.read x = .nan s t := by
  unfold Format.read
  dsimp only
  rw [if_neg (by omega), if_neg (by omega), if_neg (by omega)]
  exact ⟨_, _, rfl⟩
theorem order_nan (f : Format) (hI : f.binade ≤ f.infRung) (x y : Nat) (h : f.infRung < x % f.signWeight ∨ f.infRung < y % f.signWeight) : f.order x y = none := by
  unfold Format.order
  rcases h with h | h
  · obtain ⟨s, t, e⟩ := read_nan f hI x h
    rw [e]; rfl
  · obtain ⟨s, t, e⟩ := read_nan f hI y h
    rw [e]; cases f.read x <;> rfl
theorem compare_scale (x y k : Int) (hk : 0 < k) : compare (x * k) (y * k) = compare x y := by
  simp only [compare, compareOfLessAndEq]
  have h1 : x * k < y * k ↔ x < y := ⟨fun h => Int.lt_of_mul_lt_mul_right h (Int.le_of_lt hk), fun h => Int.mul_lt_mul_of_pos_right h hk⟩
  have h2 : x * k = y * k ↔ x = y := ⟨fun h => Int.eq_of_mul_eq_mul_right (by omega) h, fun h => by rw [h]⟩
  simp only [h1, h2]
theorem signed_scale (s : Bool) (m u k : Nat) : signed s m u * ((2 ^ k : Nat) : Int) = signed s m (u + k) := by
  unfold signed
  have e : ((m <<< u : Nat) : Int) * ((2 ^ k : Nat) : Int) = ((m <<< (u + k) : Nat) : Int) := by
    rw [Nat.shiftLeft_eq, Nat.shiftLeft_eq, Nat.pow_add, ← Nat.mul_assoc]
    exact (Int.natCast_mul _ _).symm
  split
  · rw [Int.neg_mul, e]
  · exact e
/-- the sign and the rung as one number -/
def skey (neg : Bool) (r : Nat) : Int := if neg then -(r : Int) else r
theorem order_number (s t : Bool) (m n : Nat) (l : Int) (u v : Nat) :
    (Datum.number s m (l + u)).order (Datum.number t n (l + v)) = some (compare (signed s m u) (signed t n v)) := by
  unfold Datum.order
  dsimp only
  have hmin : min (l + (u : Int)) (l + (v : Int)) = l + ((min u v : Nat) : Int) := by omega
  have a : (l + (u : Int) - (l + ((min u v : Nat) : Int))).toNat = u - min u v := by omega
  have b : (l + (v : Int) - (l + ((min u v : Nat) : Int))).toNat = v - min u v := by omega
  rw [hmin, a, b, ← compare_scale _ _ ((2 ^ min u v : Nat) : Int) (by exact_mod_cast Nat.two_pow_pos _), signed_scale, signed_scale,
    show u - min u v + min u v = u by omega, show v - min u v + min u v = v by omega]
theorem signed_V (s : Bool) (m u : Nat) : signed s m u = if s then -((m * 2 ^ u : Nat) : Int) else ((m * 2 ^ u : Nat) : Int) := by
  unfold signed; rw [Nat.shiftLeft_eq]
theorem compare_int (a b c d : Int) (h1 : a < b ↔ c < d) (h2 : b < a ↔ d < c) : compare a b = compare c d := by
  simp only [compare, compareOfLessAndEq]
  by_cases h : a < b
  · rw [if_pos h, if_pos (h1.1 h)]
  · rw [if_neg h, if_neg (fun k => h (h1.2 k))]
    by_cases k : b < a
    · rw [if_neg (by omega), if_neg (by have := h2.1 k; omega)]
    · rw [if_pos (by omega), if_pos (by have := fun z => k (h2.2 z); have := fun z => h (h1.2 z); omega)]
theorem order_finite (f : Format) (x y : Nat) (hx : x % f.signWeight < f.infRung) (hy : y % f.signWeight < f.infRung) :
    f.order x y = some (compare (skey (x / f.signWeight % 2 == 1) (x % f.signWeight)) (skey (y / f.signWeight % 2 == 1) (y % f.signWeight))) := by
  obtain ⟨m, u, e1, k1⟩ := read_finite f x hx
  obtain ⟨n, v, e2, k2⟩ := read_finite f y hy
  unfold Format.order
  rw [e1, e2, order_number, signed_V, signed_V, k1, k2]
  congr 1
  generalize x % f.signWeight = r
  generalize y % f.signWeight = q
  have a := V_lt_iff f r q
  have b := V_lt_iff f q r
  have a0 := V_lt_iff f 0 r
  have b0 := V_lt_iff f 0 q
  rw [V_zero] at a0 b0
  unfold skey
  cases (x / f.signWeight % 2 == 1) <;> cases (y / f.signWeight % 2 == 1) <;> simp only [if_true, if_false, Bool.false_eq_true] <;> apply compare_int <;> omega
theorem compare_lt {a b : Int} (h : a < b) : compare a b = .lt := by simp only [compare, compareOfLessAndEq]; rw [if_pos h]
theorem compare_gt {a b : Int} (h : b < a) : compare a b = .gt := by simp only [compare, compareOfLessAndEq]; rw [if_neg (by omega), if_neg (by omega)]
theorem compare_eq {a b : Int} (h : a = b) : compare a b = .eq := by simp only [compare, compareOfLessAndEq]; rw [if_neg (by omega), if_pos h]
theorem order_all (f : Format) (hI : f.binade ≤ f.infRung) (x y : Nat) (hx : x % f.signWeight ≤ f.infRung) (hy : y % f.signWeight ≤ f.infRung) :
    f.order x y = some (compare (skey (x / f.signWeight % 2 == 1) (x % f.signWeight)) (skey (y / f.signWeight % 2 == 1) (y % f.signWeight))) := by
  have hB := binade_pos f
  rcases Nat.lt_or_ge (x % f.signWeight) f.infRung with h1 | h1
  · rcases Nat.lt_or_ge (y % f.signWeight) f.infRung with h2 | h2
    · exact order_finite f x y h1 h2
    · have e2 := read_inf f hI y (by omega)
      obtain ⟨m, u, e1, _⟩ := read_finite f x h1
      have h2' : y % f.signWeight = f.infRung := by omega
      unfold Format.order skey
      rw [e1, e2, h2']
      cases (x / f.signWeight % 2 == 1) <;> cases (y / f.signWeight % 2 == 1) <;> simp only [if_true, if_false, Bool.false_eq_true, Datum.order]
      · rw [compare_lt (by omega)]
      · rw [compare_gt (by omega)]
      · rw [compare_lt (by omega)]
      · rw [compare_gt (by omega)]
  · have e1 := read_inf f hI x (by omega)
    have h1' : x % f.signWeight = f.infRung := by omega
    rcases Nat.lt_or_ge (y % f.signWeight) f.infRung with h2 | h2
    · obtain ⟨n, v, e2, _⟩ := read_finite f y h2
      unfold Format.order skey
      rw [e1, e2, h1']
      cases (x / f.signWeight % 2 == 1) <;> cases (y / f.signWeight % 2 == 1) <;> simp only [if_true, if_false, Bool.false_eq_true, Datum.order]
      · rw [compare_gt (by omega)]
      · rw [compare_gt (by omega)]
      · rw [compare_lt (by omega)]
      · rw [compare_lt (by omega)]
    · have e2 := read_inf f hI y (by omega)
      have h2' : y % f.signWeight = f.infRung := by omega
      unfold Format.order skey
      rw [e1, e2, h1', h2']
      cases (x / f.signWeight % 2 == 1) <;> cases (y / f.signWeight % 2 == 1) <;> simp only [if_true, if_false, Bool.false_eq_true, Datum.order]
      · rw [compare_eq rfl]; rfl
      · rw [compare_gt (by omega)]; rfl
      · rw [compare_lt (by omega)]; rfl
      · rw [compare_eq rfl]; rfl

/-- a pattern's sign and rung as one number -/
def key (b : Int) : Int := if b < 0 then -(b + 9223372036854775808) else b
theorem dSign : Ieee.double.signWeight = 9223372036854775808 := by decide
theorem dInf : Ieee.double.infRung = 9218868437227405312 := by decide
theorem dOk : Ieee.double.binade ≤ Ieee.double.infRung := by decide
theorem wd_rung {b : Int} (h : rng b) : ((wd b % 9223372036854775808 : Nat) : Int) = if b < 0 then b + 9223372036854775808 else b := by
  unfold rng at h; unfold wd; split <;> omega
theorem wd_neg {b : Int} (h : rng b) : (wd b / 9223372036854775808 % 2 == 1) = decide (b < 0) := by
  unfold rng at h; unfold wd
  rw [Bool.eq_iff_iff]; simp only [beq_iff_eq, decide_eq_true_eq]; omega
theorem cls4_rung {b : Int} (h : rng b) : cls b = 4 ↔ 9218868437227405312 < wd b % 9223372036854775808 := by
  have := wd_rung h
  rw [cls4]; unfold rng at h; unfold fld frc
  split at this <;> omega
theorem skey_key {b : Int} (h : rng b) : skey (wd b / 9223372036854775808 % 2 == 1) (wd b % 9223372036854775808) = key b := by
  rw [wd_neg h]; unfold skey key; rw [wd_rung h]
  by_cases hb : b < 0 <;> simp [hb]
theorem order64 {a b : Int} (ha : rng a) (hb : rng b) (h1 : ¬ cls a = 4) (h2 : ¬ cls b = 4) : FloatKind.f64.format.order (wd a) (wd b) = some (compare (key a) (key b)) := by
  rw [cls4_rung ha] at h1; rw [cls4_rung hb] at h2
  have := order_all Ieee.double dOk (wd a) (wd b) (by rw [dSign, dInf]; omega) (by rw [dSign, dInf]; omega)
  rw [dSign, skey_key ha, skey_key hb] at this
  exact this
theorem order64_nan {a b : Int} (ha : rng a) (hb : rng b) (h : cls a = 4 ∨ cls b = 4) : FloatKind.f64.format.order (wd a) (wd b) = none := by
  refine order_nan Ieee.double dOk _ _ ?_
  rw [dSign, dInf]
  rcases h with h | h
  · exact .inl ((cls4_rung ha).1 h)
  · exact .inr ((cls4_rung hb).1 h)
def less (a b : Int) : Bool := !decide (cls a = 4) && (!decide (cls b = 4) && decide (key a < key b))
def same (a b : Int) : Bool := !decide (cls a = 4) && (!decide (cls b = 4) && decide (key a = key b))
theorem same_order {a b : Int} (ha : rng a) (hb : rng b) : (FloatKind.f64.format.order (wd a) (wd b) == some .eq) = same a b := by
  unfold same
  by_cases h1 : cls a = 4
  · rw [order64_nan ha hb (.inl h1)]; simp [h1]
  · by_cases h2 : cls b = 4
    · rw [order64_nan ha hb (.inr h2)]; simp [h2]
    · rw [order64 ha hb h1 h2]
      simp only [h1, h2, decide_false, Bool.not_false, Bool.true_and]
      rcases Int.lt_trichotomy (key a) (key b) with h | h | h
      · rw [compare_lt h]; simp; omega
      · rw [compare_eq h]; simp [h]
      · rw [compare_gt h]; simp; omega
/-- where a pattern that is a number stands among all, -0 ahead of 0 -/
def place (b : Int) : Int := if b < 0 then -(b + 9223372036854775808) - 1 else b
end Go.Proofs.YtjlmpgbadgkgmaaGreatDoor.M

/-
  Plain mathematics of Join: the odd part of a whole number, its length, how far it is shifted; the document's two loops come to the same. No Go text in sight.
-/
namespace Go.Proofs.YtjlmpgbadgkgmaaGreatDoor.M
open Go
set_option linter.unusedSimpArgs false
set_option linter.unusedVariables false

/-- how often 2 divides; the odd part -/
def jz (mag : Int) : Nat := Lib.ctz 64 mag.toNat
def jo (mag : Int) : Int := mag / 2 ^ jz mag
def jl (mag : Int) : Int := Lib.bitLen (jo mag).toNat
/-- room above the odd part; the shift; the exponent above the least one -/
def jsp (fr mag : Int) : Int := fr + 1 - jl mag
def jsh (fr least mag exp : Int) : Int := min (jsp fr mag) (exp + jz mag - least)
def jab (fr least mag exp : Int) : Int := exp + jz mag - jsh fr least mag exp - least
def jgood (fr top least mag exp : Int) : Bool := decide (0 ≤ jsp fr mag) && (decide (least ≤ exp + jz mag) && decide (jab fr least mag exp ≤ top - 2))
def jk (fr top least mag exp : Int) : Bool := if mag < 0 then false else if mag = 0 then true else jgood fr top least mag exp
def jv (fr top least mag exp : Int) : Int := if mag ≤ 0 then 0 else if jgood fr top least mag exp then jab fr least mag exp * 2 ^ fr.toNat + jo mag * 2 ^ (jsh fr least mag exp).toNat else 0

theorem bitLen_spec (n : Nat) (h : n < 2 ^ 64) (h0 : n ≠ 0) : 2 ^ (Lib.bitLen n - 1) ≤ n ∧ n < 2 ^ Lib.bitLen n ∧ 1 ≤ Lib.bitLen n ∧ Lib.bitLen n ≤ 64 := by
  have hl : Lib.bitLen n ≤ 64 := Lib.bitLen_le n 64 (by omega) h
  -- by halving
  have main : ∀ f n : Nat, n < 2 ^ f → f ≤ 64 → n ≠ 0 → 2 ^ (Lib.bitLen n - 1) ≤ n ∧ n < 2 ^ Lib.bitLen n ∧ 1 ≤ Lib.bitLen n := by
    intro f
    induction f with
    | zero => intro n h _ h0; simp at h; omega
    | succ f ih =>
      intro n h hf h0
      have h64 : n < 2 ^ 64 := Nat.lt_of_lt_of_le h (Nat.pow_le_pow_right (by decide) hf)
      have e := Lib.bitLen_half n h0 h64
      by_cases h2 : n / 2 = 0
      · have h1 : n = 1 := by omega
        subst h1
        have : Lib.bitLen 1 = 1 := by decide +kernel
        rw [this]; decide
      · obtain ⟨a, b, c⟩ := ih (n / 2) (by rw [Nat.pow_succ] at h; omega) (by omega) h2
        obtain ⟨m, hm⟩ : ∃ m, Lib.bitLen (n / 2) = m + 1 := ⟨Lib.bitLen (n / 2) - 1, by omega⟩
        rw [e, hm]
        rw [hm] at a b
        simp only [Nat.add_sub_cancel] at a
        refine ⟨?_, ?_, by omega⟩
        · rw [show 1 + (m + 1) - 1 = m + 1 by omega, Nat.pow_succ]; omega
        · rw [show 1 + (m + 1) = m + 1 + 1 by omega, Nat.pow_succ]; omega
  obtain ⟨a, b, c⟩ := main 64 n h (by omega) h0
  exact ⟨a, b, c, hl⟩
/-- a length is known by the two powers around it -/
theorem bitLen_lt (n k : Nat) (h : n < 2 ^ 64) (h0 : n ≠ 0) : n < 2 ^ k ↔ Lib.bitLen n ≤ k := by
  obtain ⟨a, b, c, d⟩ := bitLen_spec n h h0
  constructor
  · intro hk
    apply Nat.le_of_not_lt
    intro hlt
    have : 2 ^ k ≤ 2 ^ (Lib.bitLen n - 1) := Nat.pow_le_pow_right (by decide) (by omega)
    omega
  · intro hk
    exact Nat.lt_of_lt_of_le b (Nat.pow_le_pow_right (by decide) hk)
theorem jz_spec {mag : Int} (h0 : 0 < mag) (h : mag < 9223372036854775808) : ∃ m : Nat, mag = 2 ^ jz mag * (2 * m + 1) ∧ jz mag < 63 ∧ jo mag = 2 * m + 1 := by
  unfold jo jz
  obtain ⟨n, rfl⟩ := Int.eq_ofNat_of_zero_le (Int.le_of_lt h0)
  have hn : n ≠ 0 := by omega
  simp only [Int.toNat_natCast]
  obtain ⟨m, hm, hk⟩ := Lib.ctzFrom_spec 64 n (by omega) (by omega)
  have e : Lib.ctz 64 n = Lib.ctzFrom 64 n := by simp [Lib.ctz, hn]
  rw [e]
  have hp : 0 < 2 ^ Lib.ctzFrom 64 n := Nat.two_pow_pos _
  have hz : Lib.ctzFrom 64 n < 63 := by
    apply Nat.lt_of_not_le
    intro hle
    have : 2 ^ 63 ≤ 2 ^ Lib.ctzFrom 64 n := Nat.pow_le_pow_right (by decide) hle
    have : 2 ^ Lib.ctzFrom 64 n ≤ n := by
      rw (occs := .pos [2]) [hm]
      exact Nat.le_mul_of_pos_right _ (by omega)
    omega
  have hm' : (n : Int) = 2 ^ Lib.ctzFrom 64 n * (2 * (m : Int) + 1) := by
    have : ((2 ^ Lib.ctzFrom 64 n * (2 * m + 1) : Nat) : Int) = 2 ^ Lib.ctzFrom 64 n * (2 * (m : Int) + 1) := by
      rw [Int.natCast_mul]; simp
    rw [← this, ← hm]
  refine ⟨m, hm', hz, ?_⟩
  have hpi : (0 : Int) < 2 ^ Lib.ctzFrom 64 n := Int.pow_pos (by decide)
  rw (occs := .pos [1]) [hm']
  exact Int.mul_ediv_cancel_left _ (by omega)
theorem jo_le {mag : Int} (h0 : 0 < mag) (h : mag < 9223372036854775808) : 1 ≤ jo mag ∧ jo mag ≤ mag := by
  obtain ⟨m, a, b, c⟩ := jz_spec h0 h
  have hp : (0 : Int) < 2 ^ jz mag := Int.pow_pos (by decide)
  have : (2 * (m : Int) + 1) * 1 ≤ (2 * (m : Int) + 1) * 2 ^ jz mag := Int.mul_le_mul_of_nonneg_left (by omega) (by omega)
  rw [Int.mul_comm _ (2 ^ jz mag), ← a] at this
  omega
theorem jl_le {mag : Int} (h0 : 0 < mag) (h : mag < 9223372036854775808) : 1 ≤ jl mag ∧ jl mag ≤ 63 := by
  obtain ⟨a, b⟩ := jo_le h0 h
  have s := bitLen_spec (jo mag).toNat (by omega) (by omega)
  unfold jl
  have := (bitLen_lt (jo mag).toNat 63 (by omega) (by omega)).1 (by omega)
  omega
/-- what the odd part comes to, shifted -/
theorem jshift_lt {fr mag : Int} (h0 : 0 < mag) (h : mag < 9223372036854775808) (hf : 0 ≤ fr) (s : Nat) (hs : (s : Int) ≤ jsp fr mag) : 1 ≤ jo mag * 2 ^ s ∧ jo mag * 2 ^ s < 2 ^ (fr.toNat + 1) := by
  obtain ⟨a, b⟩ := jo_le h0 h
  have sp := bitLen_spec (jo mag).toNat (by omega) (by omega)
  unfold jsp jl at hs
  have hp : (0 : Int) < 2 ^ s := Int.pow_pos (by decide)
  constructor
  · have : (1 : Int) * 1 ≤ jo mag * 2 ^ s := Int.mul_le_mul a (by omega) (by omega) (by omega)
    omega
  · have h1 : (jo mag).toNat * 2 ^ s < 2 ^ (Lib.bitLen (jo mag).toNat) * 2 ^ s := Nat.mul_lt_mul_of_pos_right sp.2.1 (Nat.two_pow_pos _)
    rw [← Nat.pow_add] at h1
    have h2 : 2 ^ (Lib.bitLen (jo mag).toNat + s) ≤ 2 ^ (fr.toNat + 1) := Nat.pow_le_pow_right (by decide) (by omega)
    have h3 : (jo mag).toNat * 2 ^ s < 2 ^ (fr.toNat + 1) := Nat.lt_of_lt_of_le h1 h2
    have h4 : (((jo mag).toNat * 2 ^ s : Nat) : Int) < ((2 ^ (fr.toNat + 1) : Nat) : Int) := Int.ofNat_lt.2 h3
    rw [Int.natCast_mul, Int.toNat_of_nonneg (by omega)] at h4
    simpa using h4
theorem jgood_far {mag exp : Int} (h0 : 0 < mag) (h : mag < 9223372036854775808) (hf : 1025 < exp) : jgood 52 2047 (-1074) mag exp = false := by
  have := jl_le h0 h
  unfold jgood jab jsh jsp
  simp; intro _ _; omega
theorem jv_le {mag exp : Int} (hm : rng mag) : 0 ≤ jv 52 2047 (-1074) mag exp ∧ jv 52 2047 (-1074) mag exp < 9218868437227405312 := by
  unfold rng at hm
  unfold jv
  by_cases h0 : mag ≤ 0
  · rw [if_pos h0]; omega
  · rw [if_neg h0]
    by_cases hk : jgood 52 2047 (-1074) mag exp = true
    · rw [if_pos hk]
      unfold jgood at hk
      simp only [Bool.and_eq_true, decide_eq_true_eq] at hk
      have hl := jl_le (mag := mag) (by omega) hm.2
      have hs : 0 ≤ jsh 52 (-1074) mag exp ∧ jsh 52 (-1074) mag exp ≤ jsp 52 mag := by unfold jsh; omega
      have hb := jshift_lt (fr := 52) (mag := mag) (by omega) hm.2 (by omega) (jsh 52 (-1074) mag exp).toNat (by omega)
      have hb2 : jo mag * 2 ^ (jsh 52 (-1074) mag exp).toNat < 9007199254740992 := hb.2
      have ha : 0 ≤ jab 52 (-1074) mag exp := by unfold jab jsh; omega
      -- a normal number's highest bit is counted into the field
      have e : (2 : Int) ^ (52 : Int).toNat = 4503599627370496 := by decide
      rw [e]
      omega
    · rw [if_neg hk]; omega
/-- halving: how the document's first loop goes -/
theorem halved {mag : Int} (h0 : 0 < mag) (h : mag < 9223372036854775808) (k : Nat) (hk : k < jz mag) : mag / 2 ^ k % 2 = 0 ∧ mag / 2 ^ k / 2 = mag / 2 ^ (k + 1) ∧ 0 < mag / 2 ^ k ∧ mag / 2 ^ k < 9223372036854775808 := by
  obtain ⟨m, a, b, c⟩ := jz_spec h0 h
  have hp : (0 : Int) < 2 ^ k := Int.pow_pos (by decide)
  have e1 : mag / 2 ^ k = 2 ^ (jz mag - k) * (2 * m + 1) := by
    rw (occs := .pos [1]) [a]
    rw [show jz mag = k + (jz mag - k) by omega, Int.pow_add, Int.mul_assoc]
    rw [show k + (jz mag - k) - k = jz mag - k by omega]
    exact Int.mul_ediv_cancel_left _ (by omega)
  have e2 : (2 : Int) ^ (jz mag - k) = 2 * 2 ^ (jz mag - k - 1) := by
    rw [show jz mag - k = (jz mag - k - 1) + 1 by omega, Int.pow_succ, Int.mul_comm]
    simp
  have hq : (0 : Int) < 2 ^ (jz mag - k) := Int.pow_pos (by decide)
  refine ⟨?_, ?_, ?_, ?_⟩
  · rw [e1, e2, Int.mul_assoc]; exact Int.mul_emod_right _ _
  · rw [Int.pow_succ, Int.ediv_ediv_of_nonneg (by omega)]
  · rw [e1]; exact Int.mul_pos hq (by omega)
  · have : mag / 2 ^ k ≤ mag := Int.ediv_le_self _ (by omega)
    omega
theorem halved_end {mag : Int} (h0 : 0 < mag) (h : mag < 9223372036854775808) : jo mag % 2 = 1 := by
  obtain ⟨m, a, b, c⟩ := jz_spec h0 h
  omega
/-- doubling: how the document's second loop goes -/
theorem doubled {fr mag : Int} (h0 : 0 < mag) (h : mag < 9223372036854775808) (hf : 0 ≤ fr) (j : Nat) : jo mag * 2 ^ j < 2 ^ fr.toNat ↔ (j : Int) < jsp fr mag := by
  obtain ⟨a, b⟩ := jo_le h0 h
  have sp := bitLen_spec (jo mag).toNat (by omega) (by omega)
  unfold jsp jl
  have hc : ((((jo mag).toNat * 2 ^ j : Nat)) : Int) = jo mag * 2 ^ j := by
    rw [Int.natCast_mul, Int.toNat_of_nonneg (by omega)]; simp
  have hd : ((2 ^ fr.toNat : Nat) : Int) = 2 ^ fr.toNat := by simp
  rw [← hc, ← hd, Int.ofNat_lt]
  constructor
  · intro hlt
    have h1 : 2 ^ (Lib.bitLen (jo mag).toNat - 1) * 2 ^ j ≤ (jo mag).toNat * 2 ^ j := Nat.mul_le_mul_right _ sp.1
    rw [← Nat.pow_add] at h1
    have h2 : 2 ^ (Lib.bitLen (jo mag).toNat - 1 + j) < 2 ^ fr.toNat := by omega
    have := (Nat.pow_lt_pow_iff_right (by decide : 1 < 2)).1 h2
    omega
  · intro hlt
    have h1 : (jo mag).toNat * 2 ^ j < 2 ^ (Lib.bitLen (jo mag).toNat) * 2 ^ j := Nat.mul_lt_mul_of_pos_right sp.2.1 (Nat.two_pow_pos _)
    rw [← Nat.pow_add] at h1
    exact Nat.lt_of_lt_of_le h1 (Nat.pow_le_pow_right (by decide) (by omega))
/-- what the document's shifted answers -/
def sk (fr low mag exp : Int) : Bool := decide (0 ≤ jsp fr mag) && decide (low ≤ exp + jz mag)
def sm (fr low mag exp : Int) : Int := if sk fr low mag exp then jo mag * 2 ^ (jsh fr low mag exp).toNat else 0
def se (fr low mag exp : Int) : Int := if sk fr low mag exp then exp + jz mag - jsh fr low mag exp else 0
/-- Join's pattern, with its sign -/
def jp (neg : Bool) (mag exp : Int) : Int := if jk 52 2047 (-1074) mag exp && neg then jv 52 2047 (-1074) mag exp - 9223372036854775808 else jv 52 2047 (-1074) mag exp
theorem jgood_near {mag exp : Int} (h0 : 0 < mag) (h : mag < 9223372036854775808) (hf : exp < -2000) : jgood 52 2047 (-1074) mag exp = false := by
  obtain ⟨_, _, a, _⟩ := jz_spec h0 h
  unfold jgood; simp; intro _ _; omega
theorem jgood_sk (mag exp : Int) : jgood 52 2047 (-1074) mag exp = (sk 52 (-1074) mag exp && decide (se 52 (-1074) mag exp ≤ 971)) := by
  unfold jgood se jab
  by_cases h : sk 52 (-1074) mag exp = true
  · rw [if_pos h, h]
    unfold sk at h
    simp only [Bool.and_eq_true, decide_eq_true_eq] at h
    simp only [h.1, h.2, decide_true, Bool.true_and]
    congr 1; apply propext; omega
  · have h' : sk 52 (-1074) mag exp = false := by simpa using h
    rw [h']
    unfold sk at h'
    simp only [Bool.false_and]
    simp only [Bool.and_eq_false_iff, decide_eq_false_iff_not] at h' ⊢
    omega
/-- the pattern, off what shifted answers -/
theorem jv_sm {mag exp : Int} (h0 : 0 < mag) (h : mag < 9223372036854775808) (hk : sk 52 (-1074) mag exp = true) (he : se 52 (-1074) mag exp ≤ 971) :
    1 ≤ sm 52 (-1074) mag exp ∧ sm 52 (-1074) mag exp < 9007199254740992 ∧ -1074 ≤ se 52 (-1074) mag exp ∧
    jv 52 2047 (-1074) mag exp = (if sm 52 (-1074) mag exp < 4503599627370496 then sm 52 (-1074) mag exp else (se 52 (-1074) mag exp + 1075) * 4503599627370496 + sm 52 (-1074) mag exp - 4503599627370496) := by
  have hg : jgood 52 2047 (-1074) mag exp = true := by rw [jgood_sk, hk]; simpa using he
  have hk' := hk
  unfold sk at hk'
  simp only [Bool.and_eq_true, decide_eq_true_eq] at hk'
  have hs : 0 ≤ jsh 52 (-1074) mag exp ∧ jsh 52 (-1074) mag exp ≤ jsp 52 mag ∧ jsh 52 (-1074) mag exp ≤ exp + jz mag + 1074 := by unfold jsh; omega
  have hb := jshift_lt (fr := 52) h0 h (by omega) (jsh 52 (-1074) mag exp).toNat (by omega)
  have hb2 : jo mag * 2 ^ (jsh 52 (-1074) mag exp).toNat < 9007199254740992 := hb.2
  have hd := doubled (fr := 52) h0 h (by omega) (jsh 52 (-1074) mag exp).toNat
  rw [show (2 : Int) ^ (52 : Int).toNat = 4503599627370496 by decide] at hd
  have es : sm 52 (-1074) mag exp = jo mag * 2 ^ (jsh 52 (-1074) mag exp).toNat := by unfold sm; rw [if_pos hk]
  have ee : se 52 (-1074) mag exp = exp + jz mag - jsh 52 (-1074) mag exp := by unfold se; rw [if_pos hk]
  rw [es, ee]
  refine ⟨hb.1, hb2, by omega, ?_⟩
  unfold jv jab
  rw [if_neg (by omega), if_pos hg, show (2 : Int) ^ (52 : Int).toNat = 4503599627370496 by decide]
  split
  · rename_i hlt
    have := hd.1 hlt
    have : jsh 52 (-1074) mag exp = exp + jz mag + 1074 := by unfold jsh at *; omega
    omega
  · omega
end Go.Proofs.YtjlmpgbadgkgmaaGreatDoor.M
