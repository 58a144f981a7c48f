/-
  Package point: Cmp, Same, by their contracts; plumblaw9's num and alive.
-/
import Derived.Test.YtejbjaddfjelaaaDoorQRef
namespace Go.Proofs.YtejbjaddfjelaaaDoor
open Go Go.RowKit Go.Proofs.YtejbjaddfjelaaaDoor.M
set_option linter.unusedSimpArgs false
set_option linter.unusedVariables false

theorem q_cell {w w' : World} {p : Addr} {v : Value} (h : w.cell? p = some v) (hb : Below w.heap.size w w') : w'.cell? p = some v :=
  (hb.cell (World.block_lt_of_cell? w _ h)).trans h
theorem Q4.keeps {a b : Nat} {x0 x1 x2 x3 : Value} {W W' : World} (h : W.cell? ⟨a, 0, none⟩ = some x0 ∧ W.cell? ⟨a, 1, none⟩ = some x1 ∧ W.cell? ⟨b, 0, none⟩ = some x2 ∧ W.cell? ⟨b, 1, none⟩ = some x3) (hb : Below W.heap.size W W') :
    W'.cell? ⟨a, 0, none⟩ = some x0 ∧ W'.cell? ⟨a, 1, none⟩ = some x1 ∧ W'.cell? ⟨b, 0, none⟩ = some x2 ∧ W'.cell? ⟨b, 1, none⟩ = some x3 :=
  ⟨q_cell h.1 hb, q_cell h.2.1 hb, q_cell h.2.2.1 hb, q_cell h.2.2.2 hb⟩
/-- the order of points, or nothing -/
def cmpF (ok : Bool) (c : Int) : Int := if ok then c else 0
set_option maxRecDepth 100000 in
theorem pointCmp {ax ay bx by' : Int} (hax : rng ax) (hay : rng ay) (hbx : rng bx) (hby : rng by') (w : World) :
    Calls Tryd.prog 16 #[.agg #[.int .i64 ax, .int .i64 ay], .agg #[.int .i64 bx, .int .i64 by']] w fun e w' => e = .returned (.tuple #[.int .i64 (cmpF ((pok ax && pok ay) && (pok bx && pok by')) (pcmp ax ay bx by')), .int .i64 (errF ((pok ax && pok ay) && (pok bx && pok by')))]) ∧ Below w.heap.size w w' := by
  have CA : Hid (∀ W, Calls Tryd.prog 9 #[.agg #[.int .i64 ax, .int .i64 ay]] W fun e w' => e = .returned (.int .i64 (errF (pok ax && pok ay))) ∧ Below W.heap.size W w') := fun W => pointCheck hax hay W
  have CB : Hid (∀ W, Calls Tryd.prog 9 #[.agg #[.int .i64 bx, .int .i64 by']] W fun e w' => e = .returned (.int .i64 (errF (pok bx && pok by'))) ∧ Below W.heap.size W w') := fun W => pointCheck hbx hby W
  have hb2 := bel_alloc2 w (.cells #[.int .i64 ax, .int .i64 ay] 31) (.cells #[.int .i64 bx, .int .i64 by'] 31)
  have p0 := heap_a2 w (.cells #[.int .i64 ax, .int .i64 ay] 31) (.cells #[.int .i64 bx, .int .i64 by'] 31)
  have p1 := heap_b2 w (.cells #[.int .i64 ax, .int .i64 ay] 31) (.cells #[.int .i64 bx, .int .i64 by'] 31)
  have CO : Hid ((pok ax && pok ay) = true → (pok bx && pok by') = true → ∀ W, Calls Tryd.prog 21 #[.agg #[.float .f64 (wd ax), .float .f64 (wd ay)], .agg #[.float .f64 (wd bx), .float .f64 (wd by')]] W fun e w' => e = .returned (.int .i64 (pcmp ax ay bx by')) ∧ Below W.heap.size W w') := fun h1 h2 W => by
    obtain ⟨pax, pay⟩ := Bool.and_eq_true_iff.1 h1
    obtain ⟨pbx, pby⟩ := Bool.and_eq_true_iff.1 h2
    exact place_order hax hay hbx hby pax pay pbx pby W
  have e0 : errF true = 0 := rfl
  have e1 : errF false = 10 := rfl
  have CP := fun W => place_of ax ay W
  have CQ := fun W => place_of bx by' W
  clear hax hay hbx hby
  generalize (pok ax && pok ay) = P at *
  generalize (pok bx && pok by') = Q at *
  generalize pcmp ax ay bx by' = R at *
  cases P
  · rw [e1] at CA
    go_enter Tryd.func16, Tryd.ntmps16
    go_wp2_with fail
    generalize (w.alloc (.cells #[.int .i64 ax, .int .i64 ay] 31)).alloc (.cells #[.int .i64 bx, .int .i64 by'] 31) = wx at *
    refine (CA.out _).mono ?_
    rintro _ w1 ⟨rfl, hb3⟩
    go_wp2
    refine bodyPost_ret (v := .tuple #[.int .i64 0, .int .i64 10]) (by simp [results, Tryd.results16, go_sem]) rfl ⟨rfl, bel_trans hb2 hb3⟩
  cases Q
  · rw [e0] at CA
    rw [e1] at CB
    go_enter Tryd.func16, Tryd.ntmps16
    go_wp2_with fail
    generalize (w.alloc (.cells #[.int .i64 ax, .int .i64 ay] 31)).alloc (.cells #[.int .i64 bx, .int .i64 by'] 31) = wx at *
    refine (CA.out _).mono ?_
    rintro _ w1 ⟨rfl, hb3⟩
    have p11 := (hb3.block _ (Array.getElem?_eq_some_iff.1 p1).1).trans p1
    have k0 := blkC p11 0 rfl
    have k1 := blkC p11 1 rfl
    go_wp2_with fail
    refine (CB.out _).mono ?_
    rintro _ w2 ⟨rfl, hb4⟩
    go_wp2
    refine bodyPost_ret (v := .tuple #[.int .i64 0, .int .i64 10]) (by simp [results, Tryd.results16, go_sem]) rfl ⟨rfl, bel_trans hb2 (bel_trans hb3 hb4)⟩
  have CO' : Hid (∀ W, Calls Tryd.prog 21 #[.agg #[.float .f64 (wd ax), .float .f64 (wd ay)], .agg #[.float .f64 (wd bx), .float .f64 (wd by')]] W fun e w' => e = .returned (.int .i64 R) ∧ Below W.heap.size W w') := CO.out rfl rfl
  rw [e0] at CA CB
  go_enter Tryd.func16, Tryd.ntmps16
  go_wp2_with fail
  generalize (w.alloc (.cells #[.int .i64 ax, .int .i64 ay] 31)).alloc (.cells #[.int .i64 bx, .int .i64 by'] 31) = wx at *
  refine (CA.out _).mono ?_
  rintro _ w1 ⟨rfl, hb3⟩
  have p01 := (hb3.block _ (Array.getElem?_eq_some_iff.1 p0).1).trans p0
  have p11 := (hb3.block _ (Array.getElem?_eq_some_iff.1 p1).1).trans p1
  have k0 := blkC p11 0 rfl
  have k1 := blkC p11 1 rfl
  go_wp2_with fail
  refine (CB.out _).mono ?_
  rintro _ w2 ⟨rfl, hb4⟩
  have p02 := (hb4.block _ (Array.getElem?_eq_some_iff.1 p01).1).trans p01
  have p12 := (hb4.block _ (Array.getElem?_eq_some_iff.1 p11).1).trans p11
  have c0 := blkC p02 0 rfl
  have c1 := blkC p02 1 rfl
  have c2 := blkC p12 0 rfl
  have c3 := blkC p12 1 rfl
  have hbw := bel_trans hb2 (bel_trans hb3 hb4)
  clear CA CB p0 p1 p01 p11 k0 k1 hb2 hb3 hb4
  have kk : w2.cell? ⟨w.heap.size, 0, none⟩ = some (.int .i64 ax) ∧ w2.cell? ⟨w.heap.size, 1, none⟩ = some (.int .i64 ay) ∧ w2.cell? ⟨w.heap.size + 1, 0, none⟩ = some (.int .i64 bx) ∧ w2.cell? ⟨w.heap.size + 1, 1, none⟩ = some (.int .i64 by') := ⟨c0, c1, c2, c3⟩
  have hdr : Below w2.heap.size w2 w2.drew := (bel_refl w2).drew
  have kd := Q4.keeps kk hdr
  clear CO
  go_wp2_with fail
  go_region_held3 (fun W => W.cell? ⟨w.heap.size, 0, none⟩ = some (.int .i64 ax) ∧ W.cell? ⟨w.heap.size, 1, none⟩ = some (.int .i64 ay) ∧ W.cell? ⟨w.heap.size + 1, 0, none⟩ = some (.int .i64 bx) ∧ W.cell? ⟨w.heap.size + 1, 1, none⟩ = some (.int .i64 by'))
    (first | assumption | exact kd | exact kk1 | exact kk2 | exact kk3)
    (first
      | (go_at_call 21; refine (CO'.out _).mono ?_; rintro _ w5 ⟨rfl, hb5⟩; have kk3 := Q4.keeps kk2 hb5)
      | (go_at_call 20; have _t := hb3; refine (CQ _).mono ?_; rintro _ w4 ⟨rfl, hb4⟩; have kk2 := Q4.keeps kk1 hb4)
      | (go_at_call 20; refine (CP _).mono ?_; rintro _ w3 ⟨rfl, hb3⟩; have kk1 := Q4.keeps kd hb3))
  go_wp2
  refine bodyPost_ret (v := .tuple #[.int .i64 R, .int .i64 0]) (by simp [results, Tryd.results16, go_sem]) rfl ⟨rfl, bel_trans hbw (bel_trans hdr (bel_trans hb3 (bel_trans hb4 hb5)))⟩
set_option maxRecDepth 100000 in
theorem pointSame {ax ay bx by' : Int} (hax : rng ax) (hay : rng ay) (hbx : rng bx) (hby : rng by') (w : World) :
    Calls Tryd.prog 8 #[.agg #[.int .i64 ax, .int .i64 ay], .agg #[.int .i64 bx, .int .i64 by']] w fun e w' => e = .returned (.tuple #[.bool (((pok ax && pok ay) && (pok bx && pok by')) && decide (pcmp ax ay bx by' = 0)), .int .i64 (errF ((pok ax && pok ay) && (pok bx && pok by')))]) ∧ Below w.heap.size w w' := by
  have CA : Hid (∀ W, Calls Tryd.prog 16 #[.agg #[.int .i64 ax, .int .i64 ay], .agg #[.int .i64 bx, .int .i64 by']] W fun e w' => e = .returned (.tuple #[.int .i64 (cmpF ((pok ax && pok ay) && (pok bx && pok by')) (pcmp ax ay bx by')), .int .i64 (errF ((pok ax && pok ay) && (pok bx && pok by')))]) ∧ Below W.heap.size W w') := fun W => pointCmp hax hay hbx hby W
  have hb2 := bel_alloc2 w (.cells #[.int .i64 ax, .int .i64 ay] 31) (.cells #[.int .i64 bx, .int .i64 by'] 31)
  have e0 : errF true = 0 := rfl
  have e1 : errF false = 10 := rfl
  generalize ((pok ax && pok ay) && (pok bx && pok by')) = P at *
  generalize pcmp ax ay bx by' = R at *
  cases P
  · rw [e1, show cmpF false R = 0 from rfl] at CA
    go_enter Tryd.func8, Tryd.ntmps8
    go_wp2_with fail
    refine (CA.out _).mono ?_
    rintro _ w1 ⟨rfl, hb3⟩
    go_wp2
    refine bodyPost_ret (v := .tuple #[.bool false, .int .i64 10]) (by simp [results, Tryd.results8, go_sem]) rfl ⟨rfl, bel_trans hb2 hb3⟩
  · rw [e0, show cmpF true R = R from rfl] at CA
    by_cases h : R = 0
    · subst h
      go_enter Tryd.func8, Tryd.ntmps8
      go_wp2_with fail
      refine (CA.out _).mono ?_
      rintro _ w1 ⟨rfl, hb3⟩
      go_wp2
      refine bodyPost_ret (v := .tuple #[.bool true, .int .i64 0]) (by simp [results, Tryd.results8, go_sem]) rfl ⟨rfl, bel_trans hb2 hb3⟩
    · rw [decide_eq_false h]
      have h' : (R == 0) = false := by simpa using h
      go_enter Tryd.func8, Tryd.ntmps8
      go_wp2_with fail
      refine (CA.out _).mono ?_
      rintro _ w1 ⟨rfl, hb3⟩
      go_wp2
      refine bodyPost_ret (v := .tuple #[.bool false, .int .i64 0]) (by simp [results, Tryd.results8, go_sem]) rfl ⟨rfl, bel_trans hb2 hb3⟩
end Go.Proofs.YtejbjaddfjelaaaDoor
