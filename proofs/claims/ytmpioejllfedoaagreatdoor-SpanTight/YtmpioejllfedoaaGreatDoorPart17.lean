/-
  Parts of the proof, one behind another.
-/
import Derived.Test.YtmpioejllfedoaaGreatDoorPart15
import Derived.Test.YtmpioejllfedoaaGreatDoorPart13
import Derived.Test.YtmpioejllfedoaaGreatDoorPart16
import Derived.Test.YtmpioejllfedoaaGreatDoorPart12
import Derived.Test.YtmpioejllfedoaaGreatDoorPart11
/-
  Package span: squared, by its contract.
-/
namespace Go.Proofs.YtmpioejllfedoaaGreatDoor
open Go Go.RowKit Go.Proofs.YtmpioejllfedoaaGreatDoor.M
set_option linter.unusedSimpArgs false
set_option linter.unusedVariables false

theorem set2 {w0 w : World} {g : Nat} (h : Below w0.heap.size w0 w) (hg : w0.heap.size ≤ g) (a b : Value) : Below w0.heap.size w0 ((w.setCell ⟨g, 0, none⟩ a).setCell ⟨g, 1, none⟩ b) := (h.setCell (p := ⟨g, 0, none⟩) hg a).setCell (p := ⟨g, 1, none⟩) hg b
set_option maxRecDepth 100000 in
set_option maxHeartbeats 4000000 in
theorem squared_any {a b l h l2 h2 m x : Nat} (w : World) (H : Hold4 w)
    (S0 : Hid (∀ W, Hold4 W → Calls Tryz.prog 66 #[.float .f64 a, .float .f64 a] W fun e w' => e = .returned (.agg #[.float .f64 l, .float .f64 h]) ∧ Below W.heap.size W w'))
    (S1 : Hid (∀ W, Hold4 W → Calls Tryz.prog 66 #[.float .f64 b, .float .f64 b] W fun e w' => e = .returned (.agg #[.float .f64 l2, .float .f64 h2]) ∧ Below W.heap.size W w'))
    (J : Hid (∀ W, Calls Tryz.prog 43 #[.agg #[.float .f64 l, .float .f64 h], .agg #[.float .f64 l2, .float .f64 h2]] W fun e w' => e = .returned (.agg #[.float .f64 m, .float .f64 x]) ∧ Below W.heap.size W w'))
    (u : Nat) (O : (FloatKind.f64.format.order a 0 = some .gt ∧ u = m) ∨ ((FloatKind.f64.format.order a 0 = some .lt ∨ FloatKind.f64.format.order a 0 = some .eq) ∧ FloatKind.f64.format.order b 0 = some .lt ∧ u = m) ∨ ((FloatKind.f64.format.order a 0 = some .lt ∨ FloatKind.f64.format.order a 0 = some .eq) ∧ (FloatKind.f64.format.order b 0 = some .gt ∨ FloatKind.f64.format.order b 0 = some .eq) ∧ u = 0)) :
    Calls Tryz.prog 41 #[.agg #[.float .f64 a, .float .f64 b]] w fun e w' => e = .returned (.agg #[.float .f64 u, .float .f64 x]) ∧ Below w.heap.size w w' := by
  have hst : ∀ (p : Addr) (x : Nat) (m : Mode) (w : World), (store p (.float .f64 x) m).run Tryz.prog w = stored Tryz.prog w p (.float .f64 x) m := fun p x m w => run_store _ w p _ m rfl
  have hb2 := bel_alloc2 w (.cells #[.float .f64 a, .float .f64 b] 61) (.cells #[.float .f64 0, .float .f64 0] 61)
  have q0 := heap_a2 w (.cells #[.float .f64 a, .float .f64 b] 61) (.cells #[.float .f64 0, .float .f64 0] 61)
  have q1 := heap_b2 w (.cells #[.float .f64 a, .float .f64 b] 61) (.cells #[.float .f64 0, .float .f64 0] 61)
  go_enter Tryz.func41, Tryz.ntmps41
  go_wp2_with fail
  generalize ((w.alloc (.cells #[.float .f64 a, .float .f64 b] 61)).alloc (.cells #[.float .f64 0, .float .f64 0] 61)) = xw at q0 q1 hb2 ⊢
  have KK : ∀ W, Below xw.heap.size xw W → W.cell? ⟨w.heap.size, 0, none⟩ = some (.float .f64 a) ∧ W.cell? ⟨w.heap.size, 1, none⟩ = some (.float .f64 b) := fun W hb => ⟨blkC (blk_up hb q0) 0 rfl, blkC (blk_up hb q0) 1 rfl⟩
  rename_i Q0 K1 hK1
  have HN : ∀ (gA : Nat) (X : World) (t : Array Value), #[t.getD 0 undef, .pointer (some ⟨w.heap.size, 0, none⟩), .pointer (some ⟨w.heap.size + 1, 0, none⟩), .pointer (some ⟨gA, 0, none⟩), t.getD 4 undef, t.getD 5 undef, t.getD 6 undef, t.getD 7 undef, t.getD 8 undef, t.getD 9 undef, t.getD 10 undef, t.getD 11 undef, t.getD 12 undef, t.getD 13 undef, t.getD 14 undef, t.getD 15 undef, t.getD 16 undef, t.getD 17 undef, t.getD 18 undef, t.getD 19 undef, t.getD 20 undef, t.getD 21 undef, t.getD 22 undef, t.getD 23 undef, t.getD 24 undef] = t → X.heap[gA]? = some (.cells #[.float .f64 m, .float .f64 x] 61 (0, 0)) → Below xw.heap.size xw X → xw.heap.size ≤ gA → Exit.then K1 Q0 Exit.normal { tmps := t, defers := [] } X := by
    intro gA X t ht n_k hX hgA
    obtain ⟨t', hu⟩ : ∃ t' : Nat → Value, t = #[t' 0, .pointer (some ⟨w.heap.size, 0, none⟩), .pointer (some ⟨w.heap.size + 1, 0, none⟩), .pointer (some ⟨gA, 0, none⟩), t' 4, t' 5, t' 6, t' 7, t' 8, t' 9, t' 10, t' 11, t' 12, t' 13, t' 14, t' 15, t' 16, t' 17, t' 18, t' 19, t' 20, t' 21, t' 22, t' 23, t' 24] := ⟨fun k => t.getD k undef, ht.symm⟩
    clear ht
    subst hu
    clear S0 S1 J
    have A0 := blk_up hX q0
    have i0 := blkC A0 0 rfl
    have i1 := blkC A0 1 rfl
    have n0 := blkC n_k 0 rfl
    have n1 := blkC n_k 1 rfl
    have m0 := blkF n_k 0
    have r_k := blk_up hX q1
    have hne : gA ≠ w.heap.size + 1 := by
      have := (Array.getElem?_eq_some_iff.1 q1).1
      omega
    have N1 := q_heap_set n_k 0 (.float .f64 0)
    have n2 := blkC N1 0 rfl
    have n3 := blkC N1 1 rfl
    have R1 : (X.setCell ⟨gA, 0, none⟩ (.float .f64 0)).heap[w.heap.size + 1]? = some (.cells #[.float .f64 0, .float .f64 0] 61 (0, 0)) := by
      rw [heap_setCell_other _ ⟨gA, _, none⟩ (w.heap.size + 1) _ (Ne.symm hne)]
      exact r_k
    have hBX := bel_trans hb2 hX
    have hgw : w.heap.size ≤ gA := Nat.le_trans hb2.size hgA
    have hBX1 := hBX.setCell (p := ⟨gA, 0, none⟩) hgw (.float .f64 0)
    clear KK q0 q1 N1 A0
    rcases O with ⟨o, rfl⟩ | ⟨o | o, o2, rfl⟩ | ⟨o | o, o2 | o2, rfl⟩
    · have d3 := q_heap_set r_k 0 (.float .f64 u)
      have d4 := q_heap_set d3 1 (.float .f64 x)
      have f0 := blkC r_k 0 rfl
      have z0 := blkF r_k 0
      have f1 := blkC d3 1 rfl
      have z1 := blkF d3 1
      have e0 := blkC d4 0 rfl
      have e1 := blkC d4 1 rfl
      have hbe := (hBX.setCell (p := ⟨w.heap.size + 1, 0, none⟩) (Nat.le_succ _) (.float .f64 u)).setCell (p := ⟨w.heap.size + 1, 1, none⟩) (Nat.le_succ _) (.float .f64 x)
      clear d3 d4
      go_wp2
      refine bodyPost_ret (v := .agg #[.float .f64 u, .float .f64 x]) (by simp [results, Tryz.results41, go_sem, e0, e1]) rfl ⟨rfl, hbe⟩
    · have d3 := q_heap_set r_k 0 (.float .f64 u)
      have d4 := q_heap_set d3 1 (.float .f64 x)
      have f0 := blkC r_k 0 rfl
      have z0 := blkF r_k 0
      have f1 := blkC d3 1 rfl
      have z1 := blkF d3 1
      have e0 := blkC d4 0 rfl
      have e1 := blkC d4 1 rfl
      have hbe := (hBX.setCell (p := ⟨w.heap.size + 1, 0, none⟩) (Nat.le_succ _) (.float .f64 u)).setCell (p := ⟨w.heap.size + 1, 1, none⟩) (Nat.le_succ _) (.float .f64 x)
      clear d3 d4
      go_wp2
      refine bodyPost_ret (v := .agg #[.float .f64 u, .float .f64 x]) (by simp [results, Tryz.results41, go_sem, e0, e1]) rfl ⟨rfl, hbe⟩
    · have d3 := q_heap_set r_k 0 (.float .f64 u)
      have d4 := q_heap_set d3 1 (.float .f64 x)
      have f0 := blkC r_k 0 rfl
      have z0 := blkF r_k 0
      have f1 := blkC d3 1 rfl
      have z1 := blkF d3 1
      have e0 := blkC d4 0 rfl
      have e1 := blkC d4 1 rfl
      have hbe := (hBX.setCell (p := ⟨w.heap.size + 1, 0, none⟩) (Nat.le_succ _) (.float .f64 u)).setCell (p := ⟨w.heap.size + 1, 1, none⟩) (Nat.le_succ _) (.float .f64 x)
      clear d3 d4
      go_wp2
      refine bodyPost_ret (v := .agg #[.float .f64 u, .float .f64 x]) (by simp [results, Tryz.results41, go_sem, e0, e1]) rfl ⟨rfl, hbe⟩
    · have d3 := q_heap_set R1 0 (.float .f64 0)
      have d4 := q_heap_set d3 1 (.float .f64 x)
      have f0 := blkC R1 0 rfl
      have z0 := blkF R1 0
      have f1 := blkC d3 1 rfl
      have z1 := blkF d3 1
      have e0 := blkC d4 0 rfl
      have e1 := blkC d4 1 rfl
      have hbe := (hBX1.setCell (p := ⟨w.heap.size + 1, 0, none⟩) (Nat.le_succ _) (.float .f64 0)).setCell (p := ⟨w.heap.size + 1, 1, none⟩) (Nat.le_succ _) (.float .f64 x)
      clear d3 d4
      go_wp2
      refine bodyPost_ret (v := .agg #[.float .f64 0, .float .f64 x]) (by simp [results, Tryz.results41, go_sem, e0, e1]) rfl ⟨rfl, hbe⟩
    · have d3 := q_heap_set R1 0 (.float .f64 0)
      have d4 := q_heap_set d3 1 (.float .f64 x)
      have f0 := blkC R1 0 rfl
      have z0 := blkF R1 0
      have f1 := blkC d3 1 rfl
      have z1 := blkF d3 1
      have e0 := blkC d4 0 rfl
      have e1 := blkC d4 1 rfl
      have hbe := (hBX1.setCell (p := ⟨w.heap.size + 1, 0, none⟩) (Nat.le_succ _) (.float .f64 0)).setCell (p := ⟨w.heap.size + 1, 1, none⟩) (Nat.le_succ _) (.float .f64 x)
      clear d3 d4
      go_wp2
      refine bodyPost_ret (v := .agg #[.float .f64 0, .float .f64 x]) (by simp [results, Tryz.results41, go_sem, e0, e1]) rfl ⟨rfl, hbe⟩
    · have d3 := q_heap_set R1 0 (.float .f64 0)
      have d4 := q_heap_set d3 1 (.float .f64 x)
      have f0 := blkC R1 0 rfl
      have z0 := blkF R1 0
      have f1 := blkC d3 1 rfl
      have z1 := blkF d3 1
      have e0 := blkC d4 0 rfl
      have e1 := blkC d4 1 rfl
      have hbe := (hBX1.setCell (p := ⟨w.heap.size + 1, 0, none⟩) (Nat.le_succ _) (.float .f64 0)).setCell (p := ⟨w.heap.size + 1, 1, none⟩) (Nat.le_succ _) (.float .f64 x)
      clear d3 d4
      go_wp2
      refine bodyPost_ret (v := .agg #[.float .f64 0, .float .f64 x]) (by simp [results, Tryz.results41, go_sem, e0, e1]) rfl ⟨rfl, hbe⟩
    · have d3 := q_heap_set R1 0 (.float .f64 0)
      have d4 := q_heap_set d3 1 (.float .f64 x)
      have f0 := blkC R1 0 rfl
      have z0 := blkF R1 0
      have f1 := blkC d3 1 rfl
      have z1 := blkF d3 1
      have e0 := blkC d4 0 rfl
      have e1 := blkC d4 1 rfl
      have hbe := (hBX1.setCell (p := ⟨w.heap.size + 1, 0, none⟩) (Nat.le_succ _) (.float .f64 0)).setCell (p := ⟨w.heap.size + 1, 1, none⟩) (Nat.le_succ _) (.float .f64 x)
      clear d3 d4
      go_wp2
      refine bodyPost_ret (v := .agg #[.float .f64 0, .float .f64 x]) (by simp [results, Tryz.results41, go_sem, e0, e1]) rfl ⟨rfl, hbe⟩
  have hxr := bel_refl xw
  have hx0 := (bel_refl xw).drew
  go_region_held3 (fun W => W.cell? ⟨w.heap.size, 0, none⟩ = some (.float .f64 a) ∧ W.cell? ⟨w.heap.size, 1, none⟩ = some (.float .f64 b))
    (first | assumption | exact KK _ (hx0) | exact KK _ ((al1 hxr _).drew) | exact KK _ (al1 hx0 _) | exact KK _ (hw1) | exact KK _ (al1 hw1 _) | exact KK _ (hw2) | exact KK _ (al1 hw2 _) | exact KK _ (hw3) | exact KK _ (al1 hw3 _) | exact KK _ (set2 hw3 (by first | exact Nat.le_refl _ | exact hw1.size | exact hw2.size | omega) _ _) | fail)
    (first
      | (go_at_call 43; refine (J.out _).mono ?_; rintro _ y3 ⟨rfl, hb3'⟩; have hw3 : Below xw.heap.size xw y3 := bel_trans (by first | exact hw2 | exact al1 hw2 _) hb3'; first | (have qz : y3.heap[y2.heap.size]? = some (.cells #[.float .f64 0, .float .f64 0] 61 (0, 0)) := blk_up hb3' (heap_a1 y2 (.cells #[.float .f64 0, .float .f64 0] 61)); have cz0 := blkC qz 0 rfl; have zz0 := blkF qz 0; have cz1 := blkC qz 1 rfl; have zz1 := blkF qz 1) | (have qz : y3.heap[y1.heap.size]? = some (.cells #[.float .f64 0, .float .f64 0] 61 (0, 0)) := blk_up hb3' (blk_up hb2' (heap_a1 y1 (.cells #[.float .f64 0, .float .f64 0] 61))); have cz0 := blkC qz 0 rfl; have zz0 := blkF qz 0; have cz1 := blkC qz 1 rfl; have zz1 := blkF qz 1) | (have qz : y3.heap[xw.heap.size]? = some (.cells #[.float .f64 0, .float .f64 0] 61 (0, 0)) := blk_up hb3' (blk_up hb2' (blk_up hb1' (heap_a1 xw (.cells #[.float .f64 0, .float .f64 0] 61)))); have cz0 := blkC qz 0 rfl; have zz0 := blkF qz 0; have cz1 := blkC qz 1 rfl; have zz1 := blkF qz 1) | skip)
      | (go_at_call 66; have _t := T1; refine (S1.out _ (H.keeps (bel_trans hb2 (by first | exact hw1 | exact al1 hw1 _)))).mono ?_; rintro _ y2 ⟨rfl, hb2'⟩; have hw2 : Below xw.heap.size xw y2 := bel_trans (by first | exact hw1 | exact al1 hw1 _) hb2'; have T2 : True := trivial)
      | (go_at_call 66; refine (S0.out _ (H.keeps (bel_trans hb2 (by first | exact hx0 | exact (al1 hxr _).drew | exact al1 hx0 _)))).mono ?_; rintro _ y1 ⟨rfl, hb1'⟩; have hw1 : Below xw.heap.size xw y1 := bel_trans (by first | exact hx0 | exact (al1 hxr _).drew | exact al1 hx0 _) hb1'; have T1 : True := trivial))
  · exact HN y3.heap.size _ _ (by kernel_rfl) (heap_a1 _ _) (al1 hw3 _) hw3.size
  · exact HN (y2.heap.size) _ _ (by kernel_rfl) (q_heap_set (q_heap_set qz 0 _) 1 _) (set2 hw3 (hw2.size) _ _) (hw2.size)
  · exact HN (y1.heap.size) _ _ (by kernel_rfl) (q_heap_set (q_heap_set qz 0 _) 1 _) (set2 hw3 (hw1.size) _ _) (hw1.size)
  · exact HN (xw.heap.size) _ _ (by kernel_rfl) (q_heap_set (q_heap_set qz 0 _) 1 _) (set2 hw3 (Nat.le_refl _) _ _) (Nat.le_refl _)
end Go.Proofs.YtmpioejllfedoaaGreatDoor

/-
  Package span: Add and Square of single floats, by their contracts.
-/
namespace Go.Proofs.YtmpioejllfedoaaGreatDoor
open Go Go.RowKit Go.Proofs.YtmpioejllfedoaaGreatDoor.M
set_option linter.unusedSimpArgs false
set_option linter.unusedVariables false

theorem nn_of {p : Int} (h : rng p) (hr : rg p ≤ 9218868437227405312) : nn p := ⟨h, fun e => by have := (cls_rg h).1.1 e; omega⟩
theorem nn_nextS {p : Int} (h : nn p) : nn (next p) := by
  have h1 := nn_rg h
  have h2 := h.1
  unfold rng at h2
  unfold next
  rw [if_neg h.2]
  unfold rg at h1
  split
  · exact h
  · split
    · exact nn_of (by unfold rng; omega) (by decide)
    · split
      · rename_i h4 h5 h6
        rw [if_pos h6] at h1
        exact nn_of (by unfold rng; omega) (by unfold rg; split <;> omega)
      · rename_i h4 h5 h6
        rw [if_neg h6] at h1
        exact nn_of (by unfold rng; omega) (by unfold rg; split <;> omega)
theorem nn_prevS {p : Int} (h : nn p) : nn (prev p) := by
  unfold prev
  exact (nn_neg (nn_nextS (nn_neg h).1)).1
theorem be_nn {n l : Int} (h : nn n) : nn (beLo n l) ∧ nn (beHi n l) := by
  unfold beLo beHi
  refine ⟨?_, ?_⟩
  · split
    · exact nn_prevS h
    · exact h
  · split
    · exact h
    · split
      · exact nn_nextS h
      · exact h
set_option maxRecDepth 100000 in
theorem spanAdd1 {a c : Int} (ha : rng a) (hc : rng c) (pa : pok a = true) (pc : pok c = true) (w : World) (H : Hold4 w) :
    Calls Tryz.prog 11 #[spn a a, spn c c] w fun e w' => e = .returned (.tuple #[twoV (vld a a && vld c c) (spn (canon (beLo (suN a c) (suL a c))) (canon (beHi (suN a c) (suL a c)))), .int .i64 (errA (vld a a && vld c c))]) ∧ Below w.heap.size w w' := by
  have hE : ∀ (cap : Array Value) (w : World), (callFunc 35 cap).run Tryz.prog w = .ok (.enter 35 cap) w := by
    intro cap w
    simp [go_sem]
  have CJ : Hid (∀ W, Hold4 W → Calls Tryz.prog 34 #[spn a a, spn c c, .func (.func 35) #[] #[]] W fun e w' => e = .returned (.tuple #[twoV (vld a a && vld c c) (spn (canon (beLo (suN a c) (suL a c))) (canon (beHi (suN a c) (suL a c)))), .int .i64 (errA (vld a a && vld c c))]) ∧ Below W.heap.size W w') := fun W LW =>
    ofTwo_H _ ha ha hc hc W LW hE (fun _ _ => by
      have hn := (sum_c ha hc pa pc).1
      have na : nn a := ⟨ha, pok_clsF ha pa⟩
      have nc : nn c := ⟨hc, pok_clsF hc pc⟩
      exact ⟨(be_nn hn).1, (be_nn hn).2, fun W' _ => plus_any W' (fun W'' => spanSum na nc hn W'') (fun W'' => spanSum na nc hn W'')⟩)
  have hx : ∃ X Y, twoV (vld a a && vld c c) (spn (canon (beLo (suN a c) (suL a c))) (canon (beHi (suN a c) (suL a c)))) = .agg #[.int .i64 X, .int .i64 Y] := by
    unfold twoV spn; split
    · exact ⟨_, _, rfl⟩
    · exact ⟨_, _, rfl⟩
  obtain ⟨X, Y, hXY⟩ := hx
  rw [hXY] at CJ ⊢
  clear hXY
  unfold spn at *
  generalize errA (vld a a && vld c c) = E at *
  obtain ⟨q0, q1, q2, hs, hb3⟩ := heap3 w (.cells #[.int .i64 a, .int .i64 a] 23) (.cells #[.int .i64 c, .int .i64 c] 23) (.cells #[.int .i64 0, .int .i64 0] 23)
  have L2 := H.keeps hb3
  go_enter Tryz.func11, Tryz.ntmps11
  go_wp2_with fail
  generalize ((w.alloc (.cells #[.int .i64 a, .int .i64 a] 23)).alloc (.cells #[.int .i64 c, .int .i64 c] 23)).alloc (.cells #[.int .i64 0, .int .i64 0] 23) = wx at *
  refine (CJ.out _ L2).mono ?_
  rintro _ w1 ⟨rfl, hb4⟩
  have d2 := (hb4.block _ (Array.getElem?_eq_some_iff.1 q2).1).trans q2
  have d3 := q_heap_set d2 0 (.int .i64 X)
  have d4 := q_heap_set d3 1 (.int .i64 Y)
  have f0 := blkC d2 0 rfl
  have z0 := blkF d2 0
  have f1 := blkC d3 1 rfl
  have z1 := blkF d3 1
  have e0 := blkC d4 0 rfl
  have e1 := blkC d4 1 rfl
  have hbe := ((bel_trans hb3 hb4).setCell (p := ⟨w.heap.size + 1 + 1, 0, none⟩) (show w.heap.size ≤ w.heap.size + 1 + 1 by omega) (.int .i64 X)).setCell (p := ⟨w.heap.size + 1 + 1, 1, none⟩) (show w.heap.size ≤ w.heap.size + 1 + 1 by omega) (.int .i64 Y)
  clear d2 d3 d4 q0 q1 q2
  go_wp2
  refine bodyPost_ret (v := .tuple #[.agg #[.int .i64 X, .int .i64 Y], .int .i64 E]) (by simp [results, Tryz.results11, go_sem, e0, e1]) rfl ⟨rfl, hbe⟩
end Go.Proofs.YtmpioejllfedoaaGreatDoor

/-
  Package span: Square of a single float, by its contract.
-/
namespace Go.Proofs.YtmpioejllfedoaaGreatDoor
open Go Go.RowKit Go.Proofs.YtmpioejllfedoaaGreatDoor.M
set_option linter.unusedSimpArgs false
set_option linter.unusedVariables false

theorem minP_self (a : Int) : minP a a = a := by unfold minP; simp
theorem maxP_self (a : Int) : maxP a a = a := by unfold maxP; simp
theorem ivlSq1 {a : Int} (ha : nn a) (w : World) (H : Hold4 w) :
    Calls Tryz.prog 41 #[ivl a a] w fun e w' => e = .returned (ivl (prLo a a) (prHi a a)) ∧ Below w.heap.size w w' := by
  obtain ⟨n0, n1⟩ := prLo_nn ha ha
  refine squared_any (m := wd (prLo a a)) w H (fun W hW => spProduct ha ha W hW) (fun W hW => spProduct ha ha W hW) (fun W => ?_) (wd (prLo a a)) ?_
  · have := ivlJoined n0 n1 n0 n1 W
    rw [minP_self, maxP_self] at this
    exact this
  · by_cases h0 : rg a = 0
    · right; right
      have e : prLo a a = 0 := by unfold prLo; rw [if_pos (.inl h0)]
      exact ⟨.inr (key_zero0 ha h0), .inr (key_zero0 ha h0), by rw [e]; decide⟩
    · rcases key_pos0 ha h0 with o | o
      · exact .inr (.inl ⟨.inl o, o, rfl⟩)
      · exact .inl ⟨o, rfl⟩
theorem vld_self {a : Int} (ha : rng a) (pa : pok a = true) : vld a a = true := by
  have h1 := (pok_rg ha).1 pa
  have h4 := pok_clsF ha pa
  refine vld_iff.2 ⟨h4, h4, Int.le_refl _, ?_, ?_⟩
  · unfold key; unfold rg at h1; unfold rng at ha; split at h1 <;> split <;> omega
  · unfold key; unfold rg at h1; unfold rng at ha; split at h1 <;> split <;> omega
set_option maxRecDepth 100000 in
set_option maxHeartbeats 4000000 in
theorem spanSq1 {a : Int} (ha : rng a) (pa : pok a = true) (w : World) (H : Hold4 w) :
    Calls Tryz.prog 14 #[spn a a] w fun e w' => e = .returned (.tuple #[spn (canon (prLo a a)) (canon (prHi a a)), .int .i64 0]) ∧ Below w.heap.size w w' := by
  have na : nn a := ⟨ha, pok_clsF ha pa⟩
  obtain ⟨n0, n1⟩ := prLo_nn na na
  have CR : Hid (∀ W, Calls Tryz.prog 38 #[.agg #[.int .i64 a, .int .i64 a]] W fun e w' => e = .returned (.agg #[.float .f64 (wd a), .float .f64 (wd a)]) ∧ Below W.heap.size W w') := fun W => spanRead a a W
  have CV : Hid (∀ W, Calls Tryz.prog 39 #[.agg #[.float .f64 (wd a), .float .f64 (wd a)]] W fun e w' => e = .returned (.bool true) ∧ Below W.heap.size W w') := fun W => by
    have := ivlValid ha ha W
    rw [vld_self ha pa] at this
    exact this
  have CS : Hid (∀ W, Hold4 W → Calls Tryz.prog 41 #[.agg #[.float .f64 (wd a), .float .f64 (wd a)]] W fun e w' => e = .returned (.agg #[.float .f64 (wd (prLo a a)), .float .f64 (wd (prHi a a))]) ∧ Below W.heap.size W w') := fun W h => ivlSq1 na W h
  have CT : Hid (∀ W, Hold4 W → Calls Tryz.prog 40 #[.agg #[.float .f64 (wd (prLo a a)), .float .f64 (wd (prHi a a))]] W fun e w' => e = .returned (.agg #[.int .i64 (canon (prLo a a)), .int .i64 (canon (prHi a a))]) ∧ Below W.heap.size W w') := fun W h => spanTold n0 n1 W h.env.lays
  unfold spn
  have hb2 := bel_alloc2 w (.cells #[.int .i64 a, .int .i64 a] 23) (.cells #[.int .i64 0, .int .i64 0] 23)
  have q0 := heap_a2 w (.cells #[.int .i64 a, .int .i64 a] 23) (.cells #[.int .i64 0, .int .i64 0] 23)
  have q1 := heap_b2 w (.cells #[.int .i64 a, .int .i64 a] 23) (.cells #[.int .i64 0, .int .i64 0] 23)
  have hst : ∀ (p : Addr) (x : Nat) (m : Mode) (w : World), (store p (.float .f64 x) m).run Tryz.prog w = stored Tryz.prog w p (.float .f64 x) m := fun p x m w => run_store _ w p _ m rfl
  go_enter Tryz.func14, Tryz.ntmps14
  go_wp2_with fail
  generalize (w.alloc (.cells #[.int .i64 a, .int .i64 a] 23)).alloc (.cells #[.int .i64 0, .int .i64 0] 23) = x0 at hb2 q0 q1 ⊢
  refine (CR.out _).mono ?_
  rintro _ w1 ⟨rfl, hb1⟩
  have i_k := heap_a1 w1 (.cells #[.float .f64 (wd a), .float .f64 (wd a)] 61)
  have hc1 := al1 hb1 (.cells #[.float .f64 (wd a), .float .f64 (wd a)] 61)
  have j0 := blkC i_k 0 rfl
  have j1 := blkC i_k 1 rfl
  go_wp2_with fail
  generalize w1.alloc (.cells #[.float .f64 (wd a), .float .f64 (wd a)] 61) = x1 at i_k hc1 j0 j1 ⊢
  refine (CV.out _).mono ?_
  rintro _ w2 ⟨rfl, hb3⟩
  have i_k := blk_up hb3 i_k
  have hc2 := bel_trans hc1 hb3
  have k0 := blkC i_k 0 rfl
  have k1 := blkC i_k 1 rfl
  clear j0 j1
  go_wp2_with fail
  refine (CS.out _ (H.keeps (bel_trans hb2 hc2))).mono ?_
  rintro _ w4 ⟨rfl, hb4⟩
  have hc3 := bel_trans hc2 hb4
  go_wp2_with fail
  refine (CT.out _ (H.keeps (bel_trans hb2 hc3))).mono ?_
  rintro _ w5 ⟨rfl, hb5⟩
  have hc4 := bel_trans hc3 hb5
  have d2 := blk_up hc4 q1
  have d3 := q_heap_set d2 0 (.int .i64 (canon (prLo a a)))
  have d4 := q_heap_set d3 1 (.int .i64 (canon (prHi a a)))
  have f0 := blkC d2 0 rfl
  have z0 := blkF d2 0
  have f1 := blkC d3 1 rfl
  have z1 := blkF d3 1
  have e0 := blkC d4 0 rfl
  have e1 := blkC d4 1 rfl
  have hbe := ((bel_trans hb2 hc4).setCell (p := ⟨w.heap.size + 1, 0, none⟩) (show w.heap.size ≤ w.heap.size + 1 by omega) (.int .i64 (canon (prLo a a)))).setCell (p := ⟨w.heap.size + 1, 1, none⟩) (show w.heap.size ≤ w.heap.size + 1 by omega) (.int .i64 (canon (prHi a a)))
  clear d2 d3 d4 q0 q1 i_k k0 k1
  go_wp2
  refine bodyPost_ret (v := .tuple #[.agg #[.int .i64 (canon (prLo a a)), .int .i64 (canon (prHi a a))], .int .i64 0]) (by simp [results, Tryz.results14, go_sem, e0, e1]) rfl ⟨rfl, hbe⟩
end Go.Proofs.YtmpioejllfedoaaGreatDoor
