/-
  Package span: Mul, by its contract.
-/
import Derived.Test.YtcpjdgfnblkfpaaGreatDoorSTm
import Derived.Test.YtcpjdgfnblkfpaaGreatDoorSPt5
import Derived.Test.YtcpjdgfnblkfpaaGreatDoorSAl
namespace Go.Proofs.YtcpjdgfnblkfpaaGreatDoor
open Go Go.RowKit Go.Proofs.YtcpjdgfnblkfpaaGreatDoor.M
set_option linter.unusedSimpArgs false
set_option linter.unusedVariables false

/-- The ends of a product of intervals. -/
def tmLo (a b c d : Int) : Int := minP (minP (minP (prLo a c) (prLo a d)) (prLo b c)) (prLo b d)
def tmHi (a b c d : Int) : Int := maxP (maxP (maxP (prHi a c) (prHi a d)) (prHi b c)) (prHi b d)
theorem tm_nn {a b c d : Int} (ha : nn a) (hb : nn b) (hc : nn c) (hd : nn d) : nn (tmLo a b c d) ∧ nn (tmHi a b c d) :=
  ⟨(minP_nn (minP_nn (minP_nn (prLo_nn ha hc).1 (prLo_nn ha hd).1).1 (prLo_nn hb hc).1).1 (prLo_nn hb hd).1).1, (maxP_nn (maxP_nn (maxP_nn (prLo_nn ha hc).2 (prLo_nn ha hd).2).1 (prLo_nn hb hc).2).1 (prLo_nn hb hd).2).1⟩
theorem ivlTimes {a b c d : Int} (ha : nn a) (hb : nn b) (hc : nn c) (hd : nn d) (w : World) (H : Hold4 w) :
    Calls Tryz.prog 61 #[ivl a b, ivl c d] w fun e w' => e = .returned (ivl (tmLo a b c d) (tmHi a b c d)) ∧ Below w.heap.size w w' := by
  obtain ⟨n0, n0'⟩ := prLo_nn ha hc
  obtain ⟨n1, n1'⟩ := prLo_nn ha hd
  obtain ⟨n2, n2'⟩ := prLo_nn hb hc
  obtain ⟨n3, n3'⟩ := prLo_nn hb hd
  have m1 := (minP_nn n0 n1).1
  have m1' := (maxP_nn n0' n1').1
  have m2 := (minP_nn m1 n2).1
  have m2' := (maxP_nn m1' n2').1
  exact times_any (fun k => match k with | 0 => wd (prLo a c) | 1 => wd (minP (prLo a c) (prLo a d)) | 2 => wd (minP (minP (prLo a c) (prLo a d)) (prLo b c)) | _ => wd (tmLo a b c d))
    (fun k => match k with | 0 => wd (prHi a c) | 1 => wd (maxP (prHi a c) (prHi a d)) | 2 => wd (maxP (maxP (prHi a c) (prHi a d)) (prHi b c)) | _ => wd (tmHi a b c d))
    (fun k => match k with | 0 => wd (prLo a d) | 1 => wd (prLo b c) | _ => wd (prLo b d))
    (fun k => match k with | 0 => wd (prHi a d) | 1 => wd (prHi b c) | _ => wd (prHi b d)) w H
    (fun W hW => spProduct ha hc W hW) (fun W hW => spProduct ha hd W hW) (fun W hW => spProduct hb hc W hW) (fun W hW => spProduct hb hd W hW)
    (fun k hk W => by
      match k, hk with
      | 0, _ => exact ivlJoined n0 n0' n1 n1' W
      | 1, _ => exact ivlJoined m1 m1' n2 n2' W
      | 2, _ => exact ivlJoined m2 m2' n3 n3' W)
set_option maxRecDepth 100000 in
theorem spanMulH {a b c d : Int} (ha : rng a) (hb : rng b) (hc : rng c) (hd : rng d) (w : World) (H : Hold4 w) :
    Calls Tryz.prog 39 #[spn a b, spn c d] w fun e w' => e = .returned (.tuple #[twoV (vld a b && vld c d) (spn (canon (tmLo a b c d)) (canon (tmHi a b c d))), .int .i64 (errA (vld a b && vld c d))]) ∧ Below w.heap.size w w' := by
  have hE : ∀ (cap : Array Value) (w : World), (callFunc 61 cap).run Tryz.prog w = .ok (.enter 61 cap) w := by
    intro cap w
    simp [go_sem]
  have CJ : Hid (∀ W, Hold4 W → Calls Tryz.prog 58 #[spn a b, spn c d, .func (.func 61) #[] #[]] W fun e w' => e = .returned (.tuple #[twoV (vld a b && vld c d) (spn (canon (tmLo a b c d)) (canon (tmHi a b c d))), .int .i64 (errA (vld a b && vld c d))]) ∧ Below W.heap.size W w') := fun W LW =>
    ofTwo_H _ ha hb hc hd W LW hE (fun h1 h2 => by
      obtain ⟨va, vb, _, _, _⟩ := vld_iff.1 h1
      obtain ⟨vc, vd, _, _, _⟩ := vld_iff.1 h2
      exact ⟨(tm_nn ⟨ha, va⟩ ⟨hb, vb⟩ ⟨hc, vc⟩ ⟨hd, vd⟩).1, (tm_nn ⟨ha, va⟩ ⟨hb, vb⟩ ⟨hc, vc⟩ ⟨hd, vd⟩).2, fun W' hW => ivlTimes ⟨ha, va⟩ ⟨hb, vb⟩ ⟨hc, vc⟩ ⟨hd, vd⟩ W' hW⟩)
  have hx : ∃ X Y, twoV (vld a b && vld c d) (spn (canon (tmLo a b c d)) (canon (tmHi a b c d))) = .agg #[.int .i64 X, .int .i64 Y] := by
    unfold twoV spn; split
    · exact ⟨_, _, rfl⟩
    · exact ⟨_, _, rfl⟩
  obtain ⟨X, Y, hXY⟩ := hx
  rw [hXY] at CJ ⊢
  clear hXY
  unfold spn at *
  generalize errA (vld a b && vld c d) = E at *
  obtain ⟨q0, q1, q2, hs, hb3⟩ := heap3 w (.cells #[.int .i64 a, .int .i64 b] 55) (.cells #[.int .i64 c, .int .i64 d] 55) (.cells #[.int .i64 0, .int .i64 0] 55)
  have L2 := H.keeps hb3
  go_enter Tryz.func39, Tryz.ntmps39
  go_wp2_with fail
  generalize ((w.alloc (.cells #[.int .i64 a, .int .i64 b] 55)).alloc (.cells #[.int .i64 c, .int .i64 d] 55)).alloc (.cells #[.int .i64 0, .int .i64 0] 55) = wx at *
  refine (CJ.out _ L2).mono ?_
  rintro _ w1 ⟨rfl, hb4⟩
  have d2 := (hb4.block _ (Array.getElem?_eq_some_iff.1 q2).1).trans q2
  have d3 := q_heap_set d2 0 (.int .i64 X)
  have d4 := q_heap_set d3 1 (.int .i64 Y)
  have f0 := blkC d2 0 rfl
  have z0 := blkF d2 0
  have f1 := blkC d3 1 rfl
  have z1 := blkF d3 1
  have e0 := blkC d4 0 rfl
  have e1 := blkC d4 1 rfl
  have hbe := ((bel_trans hb3 hb4).setCell (p := ⟨w.heap.size + 1 + 1, 0, none⟩) (show w.heap.size ≤ w.heap.size + 1 + 1 by omega) (.int .i64 X)).setCell (p := ⟨w.heap.size + 1 + 1, 1, none⟩) (show w.heap.size ≤ w.heap.size + 1 + 1 by omega) (.int .i64 Y)
  clear d2 d3 d4 q0 q1 q2
  go_wp2
  refine bodyPost_ret (v := .tuple #[.agg #[.int .i64 X, .int .i64 Y], .int .i64 E]) (by simp [results, Tryz.results39, go_sem, e0, e1]) rfl ⟨rfl, hbe⟩
end Go.Proofs.YtcpjdgfnblkfpaaGreatDoor
