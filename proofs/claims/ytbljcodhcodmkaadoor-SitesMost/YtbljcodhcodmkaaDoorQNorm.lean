/-
  Package point: Normal, by its contract; the document's Normal.
-/
import Derived.Test.YtbljcodhcodmkaaDoorQTop
namespace Go.Proofs.YtbljcodhcodmkaaDoor
open Go Go.RowKit Go.Proofs.YtbljcodhcodmkaaDoor.M
set_option linter.unusedSimpArgs false
set_option linter.unusedVariables false

theorem q_canon {b : Int} (hb : rng b) (hp : pok b = true) : canon b = q0 b := by
  have h4 := q_fin hp
  have h0 := cls0 hb
  unfold canon q0
  rw [if_neg h4]
  by_cases h : cls b = 0
  · rw [if_pos h]
    rcases h0.1 h with e | e
    · rw [if_neg (by omega), e]
    · rw [if_pos e]
  · rw [if_neg h, if_neg (fun e => h (h0.2 (.inr e)))]
theorem q_two_keep {p B : Nat} {x0 x1 : Value} {W W' : World} (h : p < B ∧ B ≤ W.heap.size ∧ W.cell? ⟨p, 0, none⟩ = some x0 ∧ W.cell? ⟨p, 1, none⟩ = some x1) (hb : Below W.heap.size W W') :
    p < B ∧ B ≤ W'.heap.size ∧ W'.cell? ⟨p, 0, none⟩ = some x0 ∧ W'.cell? ⟨p, 1, none⟩ = some x1 :=
  ⟨h.1, Nat.le_trans h.2.1 hb.size, q_cell h.2.2.1 hb, q_cell h.2.2.2 hb⟩
theorem Lays.below' {w w' : World} (h : Lays w) (hb : Below w.heap.size w w') : Lays w' :=
  ⟨q_cell h.a0 hb, q_cell h.a1 hb, q_cell h.a2 hb, q_cell h.b0 hb, q_cell h.b1 hb, q_cell h.b2 hb⟩
set_option maxRecDepth 100000 in
theorem pointNormal {x y : Int} (hx : rng x) (hy : rng y) (w : World) (L : Lays w) :
    Calls Tryd.prog 18 #[.agg #[.int .i64 x, .int .i64 y]] w fun e w' => e = .returned (.tuple #[.agg #[.int .i64 (cmpF (pok x && pok y) (q0 x)), .int .i64 (cmpF (pok x && pok y) (q0 y))], .int .i64 (errF (pok x && pok y))]) ∧ Below w.heap.size w w' := by
  have CA : Hid (∀ W, Calls Tryd.prog 10 #[.agg #[.int .i64 x, .int .i64 y]] W fun e w' => e = .returned (.int .i64 (errF (pok x && pok y))) ∧ Below W.heap.size W w') := fun W => pointCheck hx hy W
  have CX : Hid ((pok x && pok y) = true → ∀ W, Lays W → Calls Tryd.prog 25 #[.int .i64 x] W fun e w' => e = .returned (.int .i64 (q0 x)) ∧ Gr W w') := fun h W LW => by
    rw [← q_canon hx (Bool.and_eq_true_iff.1 h).1]; exact bitsCanon x W LW
  have CY : Hid ((pok x && pok y) = true → ∀ W, Lays W → Calls Tryd.prog 25 #[.int .i64 y] W fun e w' => e = .returned (.int .i64 (q0 y)) ∧ Gr W w') := fun h W LW => by
    rw [← q_canon hy (Bool.and_eq_true_iff.1 h).2]; exact bitsCanon y W LW
  have e0 : errF true = 0 := rfl
  have e1 : errF false = 10 := rfl
  clear hx hy
  generalize (pok x && pok y) = P at *
  generalize q0 x = X at *
  generalize q0 y = Y at *
  have hb2 := bel_alloc2 w (.cells #[.int .i64 x, .int .i64 y] 31) (.cells #[.int .i64 0, .int .i64 0] 31)
  have p0 := heap_a2 w (.cells #[.int .i64 x, .int .i64 y] 31) (.cells #[.int .i64 0, .int .i64 0] 31)
  have p1 := heap_b2 w (.cells #[.int .i64 x, .int .i64 y] 31) (.cells #[.int .i64 0, .int .i64 0] 31)
  have hs := size2 w (.cells #[.int .i64 x, .int .i64 y] 31) (.cells #[.int .i64 0, .int .i64 0] 31)
  cases P
  · rw [e1] at CA
    go_enter Tryd.func18, Tryd.ntmps18
    go_wp2_with fail
    generalize (w.alloc (.cells #[.int .i64 x, .int .i64 y] 31)).alloc (.cells #[.int .i64 0, .int .i64 0] 31) = wx at *
    refine (CA.out _).mono ?_
    rintro _ w1 ⟨rfl, hb3⟩
    have p11 := (hb3.block _ (Array.getElem?_eq_some_iff.1 p1).1).trans p1
    have p12 := q_heap_set p11 0 (.int .i64 0)
    have p13 := q_heap_set p12 1 (.int .i64 0)
    have f0 := blkC p11 0 rfl
    have z0 := blkF p11 0
    have f1 := blkC p12 1 rfl
    have z1 := blkF p12 1
    have g0 := blkC p13 0 rfl
    have g1 := blkC p13 1 rfl
    have hbe : Below w.heap.size w ((w1.setCell ⟨w.heap.size + 1, 0, none⟩ (.int .i64 0)).setCell ⟨w.heap.size + 1, 1, none⟩ (.int .i64 0)) := ((bel_trans hb2 hb3).setCell (p := ⟨w.heap.size + 1, 0, none⟩) (Nat.le_succ _) _).setCell (p := ⟨w.heap.size + 1, 1, none⟩) (Nat.le_succ _) _
    go_wp2
    generalize (w1.setCell ⟨w.heap.size + 1, 0, none⟩ (.int .i64 0)).setCell ⟨w.heap.size + 1, 1, none⟩ (.int .i64 0) = wy at *
    refine bodyPost_ret (v := .tuple #[.agg #[.int .i64 0, .int .i64 0], .int .i64 10]) (by simp [results, Tryd.results18, go_sem, g0, g1]) rfl ⟨rfl, hbe⟩
  · have CX' : Hid (∀ W, Lays W → Calls Tryd.prog 25 #[.int .i64 x] W fun e w' => e = .returned (.int .i64 X) ∧ Gr W w') := CX.out rfl
    have CY' : Hid (∀ W, Lays W → Calls Tryd.prog 25 #[.int .i64 y] W fun e w' => e = .returned (.int .i64 Y) ∧ Gr W w') := CY.out rfl
    clear CX CY
    rw [e0] at CA
    go_enter Tryd.func18, Tryd.ntmps18
    go_wp2_with fail
    generalize (w.alloc (.cells #[.int .i64 x, .int .i64 y] 31)).alloc (.cells #[.int .i64 0, .int .i64 0] 31) = wx at *
    refine (CA.out _).mono ?_
    rintro _ w1 ⟨rfl, hb3⟩
    have hbw := bel_trans hb2 hb3
    have p01 := (hb3.block _ (Array.getElem?_eq_some_iff.1 p0).1).trans p0
    have p11 := (hb3.block _ (Array.getElem?_eq_some_iff.1 p1).1).trans p1
    have hs1 : w.heap.size + 2 ≤ w1.heap.size := by have := hb3.size; omega
    have c0 := blkC p01 0 rfl
    have c1 := blkC p01 1 rfl
    have L1 : Lays w1.drew := L.below' (hbw.drew)
    clear CA p0 p1 hb2 hb3 hs e0 e1
    go_wp2_with fail
    have hc : w.heap.size < w.heap.size + 1 ∧ w.heap.size + 1 ≤ w1.drew.heap.size ∧ w1.drew.cell? ⟨w.heap.size, 0, none⟩ = some (.int .i64 x) ∧ w1.drew.cell? ⟨w.heap.size, 1, none⟩ = some (.int .i64 y) := ⟨by omega, by show _ ≤ w1.heap.size; omega, c0, c1⟩
    have hd : w1.drew.heap[w.heap.size + 1]? = some (.cells #[.int .i64 0, .int .i64 0] 31 (0, 0)) := p11
    have hbd := hbw.drew
    go_region_held3 (fun W => w.heap.size < w.heap.size + 1 ∧ w.heap.size + 1 ≤ W.heap.size ∧ W.cell? ⟨w.heap.size, 0, none⟩ = some (.int .i64 x) ∧ W.cell? ⟨w.heap.size, 1, none⟩ = some (.int .i64 y))
      (first | assumption | (repeat (first | exact hc | exact hc1 | exact hc2 | refine q_two_set (by omega) ?_)))
      (first
        | (go_at_call 25; have _t := LA; refine (CY'.out _ LA).mono ?_; rintro _ w3 ⟨rfl, g3⟩; have hc2 := q_two_keep hc1 g3.be; have d2 := (g3.be.block _ (Array.getElem?_eq_some_iff.1 d1).1).trans d1; have d3 := q_heap_set d2 0 (.int .i64 X); have d4 := q_heap_set d3 1 (.int .i64 Y); have f0 := blkC d2 0 rfl; have z0 := blkF d2 0; have f1 := blkC d3 1 rfl; have z1 := blkF d3 1)
        | (go_at_call 25; refine (CX'.out _ L1).mono ?_; rintro _ w2 ⟨rfl, g2⟩; have LA := L1.grown g2; have hc1 := q_two_keep hc g2.be; have d1 := (g2.be.block _ (Array.getElem?_eq_some_iff.1 hd).1).trans hd))
    have e0 := blkC d4 0 rfl
    have e1 := blkC d4 1 rfl
    have hbe : Below w.heap.size w ((w3.setCell ⟨w.heap.size + 1, 0, none⟩ (.int .i64 X)).setCell ⟨w.heap.size + 1, 1, none⟩ (.int .i64 Y)) := ((bel_trans hbd (bel_trans g2.be g3.be)).setCell (p := ⟨w.heap.size + 1, 0, none⟩) (Nat.le_succ _) _).setCell (p := ⟨w.heap.size + 1, 1, none⟩) (Nat.le_succ _) _
    clear d1 d2 d3 d4 f0 f1 z0 z1 hd hc hc1 hc2
    generalize (w3.setCell ⟨w.heap.size + 1, 0, none⟩ (.int .i64 X)).setCell ⟨w.heap.size + 1, 1, none⟩ (.int .i64 Y) = wy at *
    go_wp2
    refine bodyPost_ret (v := .tuple #[.agg #[.int .i64 X, .int .i64 Y], .int .i64 0]) (by simp [results, Tryd.results18, go_sem, e0, e1]) rfl ⟨rfl, hbe⟩
end Go.Proofs.YtbljcodhcodmkaaDoor
