/-
  Package span: Add and Square of single floats, by their contracts.
-/
import Derived.Test.YtcpjdgfnblkfpaaGreatDoorSPt5
import Derived.Test.YtcpjdgfnblkfpaaGreatDoorSPlus
import Derived.Test.YtcpjdgfnblkfpaaGreatDoorSAl
import Derived.Test.YtcpjdgfnblkfpaaGreatDoorSTi
import Derived.Test.YtcpjdgfnblkfpaaGreatDoorSSq
import Derived.Test.YtcpjdgfnblkfpaaGreatDoorSSum2
namespace Go.Proofs.YtcpjdgfnblkfpaaGreatDoor
open Go Go.RowKit Go.Proofs.YtcpjdgfnblkfpaaGreatDoor.M
set_option linter.unusedSimpArgs false
set_option linter.unusedVariables false

theorem nn_of {p : Int} (h : rng p) (hr : rg p ≤ 9218868437227405312) : nn p := ⟨h, fun e => by have := (cls_rg h).1.1 e; omega⟩
theorem nn_nextS {p : Int} (h : nn p) : nn (next p) := by
  have h1 := nn_rg h
  have h2 := h.1
  unfold rng at h2
  unfold next
  rw [if_neg h.2]
  unfold rg at h1
  split
  · exact h
  · split
    · exact nn_of (by unfold rng; omega) (by decide)
    · split
      · rename_i h4 h5 h6
        rw [if_pos h6] at h1
        exact nn_of (by unfold rng; omega) (by unfold rg; split <;> omega)
      · rename_i h4 h5 h6
        rw [if_neg h6] at h1
        exact nn_of (by unfold rng; omega) (by unfold rg; split <;> omega)
theorem nn_prevS {p : Int} (h : nn p) : nn (prev p) := by
  unfold prev
  exact (nn_neg (nn_nextS (nn_neg h).1)).1
theorem be_nn {n l : Int} (h : nn n) : nn (beLo n l) ∧ nn (beHi n l) := by
  unfold beLo beHi
  refine ⟨?_, ?_⟩
  · split
    · exact nn_prevS h
    · exact h
  · split
    · exact h
    · split
      · exact nn_nextS h
      · exact h
set_option maxRecDepth 100000 in
theorem spanAdd1 {a c : Int} (ha : rng a) (hc : rng c) (pa : pok a = true) (pc : pok c = true) (w : World) (H : Hold4 w) :
    Calls Tryz.prog 37 #[spn a a, spn c c] w fun e w' => e = .returned (.tuple #[twoV (vld a a && vld c c) (spn (canon (beLo (suN a c) (suL a c))) (canon (beHi (suN a c) (suL a c)))), .int .i64 (errA (vld a a && vld c c))]) ∧ Below w.heap.size w w' := by
  have hE : ∀ (cap : Array Value) (w : World), (callFunc 59 cap).run Tryz.prog w = .ok (.enter 59 cap) w := by
    intro cap w
    simp [go_sem]
  have CJ : Hid (∀ W, Hold4 W → Calls Tryz.prog 58 #[spn a a, spn c c, .func (.func 59) #[] #[]] W fun e w' => e = .returned (.tuple #[twoV (vld a a && vld c c) (spn (canon (beLo (suN a c) (suL a c))) (canon (beHi (suN a c) (suL a c)))), .int .i64 (errA (vld a a && vld c c))]) ∧ Below W.heap.size W w') := fun W LW =>
    ofTwo_H _ ha ha hc hc W LW hE (fun _ _ => by
      have hn := (sum_c ha hc pa pc).1
      have na : nn a := ⟨ha, pok_clsF ha pa⟩
      have nc : nn c := ⟨hc, pok_clsF hc pc⟩
      exact ⟨(be_nn hn).1, (be_nn hn).2, fun W' _ => plus_any W' (fun W'' => spanSum na nc hn W'') (fun W'' => spanSum na nc hn W'')⟩)
  have hx : ∃ X Y, twoV (vld a a && vld c c) (spn (canon (beLo (suN a c) (suL a c))) (canon (beHi (suN a c) (suL a c)))) = .agg #[.int .i64 X, .int .i64 Y] := by
    unfold twoV spn; split
    · exact ⟨_, _, rfl⟩
    · exact ⟨_, _, rfl⟩
  obtain ⟨X, Y, hXY⟩ := hx
  rw [hXY] at CJ ⊢
  clear hXY
  unfold spn at *
  generalize errA (vld a a && vld c c) = E at *
  obtain ⟨q0, q1, q2, hs, hb3⟩ := heap3 w (.cells #[.int .i64 a, .int .i64 a] 55) (.cells #[.int .i64 c, .int .i64 c] 55) (.cells #[.int .i64 0, .int .i64 0] 55)
  have L2 := H.keeps hb3
  go_enter Tryz.func37, Tryz.ntmps37
  go_wp2_with fail
  generalize ((w.alloc (.cells #[.int .i64 a, .int .i64 a] 55)).alloc (.cells #[.int .i64 c, .int .i64 c] 55)).alloc (.cells #[.int .i64 0, .int .i64 0] 55) = wx at *
  refine (CJ.out _ L2).mono ?_
  rintro _ w1 ⟨rfl, hb4⟩
  have d2 := (hb4.block _ (Array.getElem?_eq_some_iff.1 q2).1).trans q2
  have d3 := q_heap_set d2 0 (.int .i64 X)
  have d4 := q_heap_set d3 1 (.int .i64 Y)
  have f0 := blkC d2 0 rfl
  have z0 := blkF d2 0
  have f1 := blkC d3 1 rfl
  have z1 := blkF d3 1
  have e0 := blkC d4 0 rfl
  have e1 := blkC d4 1 rfl
  have hbe := ((bel_trans hb3 hb4).setCell (p := ⟨w.heap.size + 1 + 1, 0, none⟩) (show w.heap.size ≤ w.heap.size + 1 + 1 by omega) (.int .i64 X)).setCell (p := ⟨w.heap.size + 1 + 1, 1, none⟩) (show w.heap.size ≤ w.heap.size + 1 + 1 by omega) (.int .i64 Y)
  clear d2 d3 d4 q0 q1 q2
  go_wp2
  refine bodyPost_ret (v := .tuple #[.agg #[.int .i64 X, .int .i64 Y], .int .i64 E]) (by simp [results, Tryz.results37, go_sem, e0, e1]) rfl ⟨rfl, hbe⟩
end Go.Proofs.YtcpjdgfnblkfpaaGreatDoor
