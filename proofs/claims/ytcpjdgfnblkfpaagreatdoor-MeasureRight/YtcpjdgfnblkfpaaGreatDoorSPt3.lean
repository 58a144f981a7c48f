/-
  Package span: told, Around, by their contracts.
-/
import Derived.Test.YtcpjdgfnblkfpaaGreatDoorSPt2
import Derived.Test.YtcpjdgfnblkfpaaGreatDoorQNorm
import Derived.Test.YtcpjdgfnblkfpaaGreatDoorRLaw
import Derived.Test.YtcpjdgfnblkfpaaGreatDoorRNear2
namespace Go.Proofs.YtcpjdgfnblkfpaaGreatDoor
open Go Go.RowKit Go.Proofs.YtcpjdgfnblkfpaaGreatDoor.M
set_option linter.unusedSimpArgs false
set_option linter.unusedVariables false

set_option maxRecDepth 100000 in
set_option maxHeartbeats 1000000 in
theorem spanTold {lo hi : Int} (hl : nn lo) (hh : nn hi) (w : World) (L : Lays w) :
    Calls Tryz.prog 87 #[ivl lo hi] w fun e w' => e = .returned (spn (canon lo) (canon hi)) ∧ Below w.heap.size w w' := by
  unfold ivl spn
  have CO1 : Hid (∀ W, Calls Tryz.prog 77 #[.float .f64 (wd lo)] W fun e w' => e = .returned (.int .i64 lo) ∧ w' = W) := fun W => by
    have := bitsOf lo W hl.1
    rw [show told lo = lo from if_neg hl.2] at this
    exact this
  have CO2 : Hid (∀ W, Calls Tryz.prog 77 #[.float .f64 (wd hi)] W fun e w' => e = .returned (.int .i64 hi) ∧ w' = W) := fun W => by
    have := bitsOf hi W hh.1
    rw [show told hi = hi from if_neg hh.2] at this
    exact this
  have CX' : Hid (∀ W, Lays W → Calls Tryz.prog 120 #[.int .i64 lo] W fun e w' => e = .returned (.int .i64 (canon lo)) ∧ Gr W w') := fun W LW => bitsCanon lo W LW
  have CY' : Hid (∀ W, Lays W → Calls Tryz.prog 120 #[.int .i64 hi] W fun e w' => e = .returned (.int .i64 (canon hi)) ∧ Gr W w') := fun W LW => bitsCanon hi W LW
  generalize canon lo = X at *
  generalize canon hi = Y at *
  generalize wd lo = A at *
  generalize wd hi = B at *
  have hb2 := bel_alloc2 w (.cells #[.float .f64 A, .float .f64 B] 98) (.cells #[.int .i64 0, .int .i64 0] 55)
  have p0 := heap_a2 w (.cells #[.float .f64 A, .float .f64 B] 98) (.cells #[.int .i64 0, .int .i64 0] 55)
  have p1 := heap_b2 w (.cells #[.float .f64 A, .float .f64 B] 98) (.cells #[.int .i64 0, .int .i64 0] 55)
  have hs := size2 w (.cells #[.float .f64 A, .float .f64 B] 98) (.cells #[.int .i64 0, .int .i64 0] 55)
  have c0 := blkC p0 0 rfl
  have c1 := blkC p0 1 rfl
  have hbd := hb2.drew
  have L1 := L.below' hbd
  clear hl hh
  go_enter Tryz.func87, Tryz.ntmps87
  go_wp2_with fail
  generalize (w.alloc (.cells #[.float .f64 A, .float .f64 B] 98)).alloc (.cells #[.int .i64 0, .int .i64 0] 55) = w1 at *
  have hc : w.heap.size < w.heap.size + 1 ∧ w.heap.size + 1 ≤ w1.drew.heap.size ∧ w1.drew.cell? ⟨w.heap.size, 0, none⟩ = some (.float .f64 A) ∧ w1.drew.cell? ⟨w.heap.size, 1, none⟩ = some (.float .f64 B) := ⟨by omega, by show _ ≤ w1.heap.size; omega, c0, c1⟩
  have hd : w1.drew.heap[w.heap.size + 1]? = some (.cells #[.int .i64 0, .int .i64 0] 55 (0, 0)) := p1
  go_region_held3 (fun W => w.heap.size < w.heap.size + 1 ∧ w.heap.size + 1 ≤ W.heap.size ∧ W.cell? ⟨w.heap.size, 0, none⟩ = some (.float .f64 A) ∧ W.cell? ⟨w.heap.size, 1, none⟩ = some (.float .f64 B))
    (first | assumption | (repeat (first | exact hc | exact hc1 | exact hc2 | refine q_two_set (by omega) ?_)))
    (first
      | (go_at_call 77; have _t := LA; refine (CO2.out _).mono ?_; rintro _ _ ⟨rfl, rfl⟩)
      | (go_at_call 77; refine (CO1.out _).mono ?_; rintro _ _ ⟨rfl, rfl⟩)
      | (go_at_call 120; have _t := LA; refine (CY'.out _ LA).mono ?_; rintro _ w3 ⟨rfl, g3⟩; have hc2 := q_two_keep hc1 g3.be; have d2 := (g3.be.block _ (Array.getElem?_eq_some_iff.1 d1).1).trans d1; have d3 := q_heap_set d2 0 (.int .i64 X); have d4 := q_heap_set d3 1 (.int .i64 Y); have f0 := blkC d2 0 rfl; have z0 := blkF d2 0; have f1 := blkC d3 1 rfl; have z1 := blkF d3 1)
      | (go_at_call 120; refine (CX'.out _ L1).mono ?_; rintro _ w2 ⟨rfl, g2⟩; have LA := L1.grown g2; have hc1 := q_two_keep hc g2.be; have d1 := (g2.be.block _ (Array.getElem?_eq_some_iff.1 hd).1).trans hd))
  have e0 := blkC d4 0 rfl
  have e1 := blkC d4 1 rfl
  have hbe : Below w.heap.size w ((w3.setCell ⟨w.heap.size + 1, 0, none⟩ (.int .i64 X)).setCell ⟨w.heap.size + 1, 1, none⟩ (.int .i64 Y)) := ((bel_trans hbd (bel_trans g2.be g3.be)).setCell (p := ⟨w.heap.size + 1, 0, none⟩) (Nat.le_succ _) _).setCell (p := ⟨w.heap.size + 1, 1, none⟩) (Nat.le_succ _) _
  clear d1 d2 d3 d4 f0 f1 z0 z1 hd hc hc1 hc2
  generalize (w3.setCell ⟨w.heap.size + 1, 0, none⟩ (.int .i64 X)).setCell ⟨w.heap.size + 1, 1, none⟩ (.int .i64 Y) = wy at *
  go_wp2
  refine bodyPost_ret (v := .agg #[.int .i64 X, .int .i64 Y]) (by simp [results, Tryz.results87, go_sem, e0, e1]) rfl ⟨rfl, hbe⟩
theorem toR_nn {x : NumR} (ok : okR x = true) (way : Int) : nn (toR way x).1 := by
  by_cases h0 : x.n = 0
  · rw [to_zero ok h0]; exact ⟨by unfold rng; decide, by decide⟩
  · obtain ⟨r0, left, _, hf⟩ := to_all ok (by omega)
    rw [hf way]
    obtain ⟨h1, h2⟩ := rTo_range way x.ng r0 left
    have := patS_facts (ng := x.ng && decide (0 < rTo way x.ng r0 left)) h1 h2 (fun h => by
      cases hx : x.ng
      · rw [hx] at h; cases h
      · rw [hx, Bool.true_and] at h; exact of_decide_eq_true h)
    refine ⟨this.1, fun h4 => ?_⟩
    have h5 := (cls4_rung this.1).1 h4
    have h6 := wd_rung this.1
    have h7 := this.2.1
    unfold rg at h7
    rw [← h7] at h2
    omega
end Go.Proofs.YtcpjdgfnblkfpaaGreatDoor
